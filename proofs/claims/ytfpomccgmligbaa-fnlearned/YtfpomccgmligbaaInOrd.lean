/- A map's entries by rising address: the program's list of them. -/
import Derived.Test.YtfpomccgmligbaaKeys
import Derived.Test.YtfpomccgmligbaaOwnE
import Derived.Test.YtfpomccgmligbaaByMac
namespace Go.Proofs.Ytfpomccgmligbaa
open Go.RowKit Go.Maps Go.Sort Go.Shelf
set_option linter.unusedVariables false
set_option linter.unusedSimpArgs false

theorem sortsA (m : Nat) : AnyZI.SortsIn Try.prog sortedA_ren Fence.wide m :=
  ⟨fun blk off cap ss W hH hblk hsz => callsIn_wide.2 (AnyM.slices_Sort_int sortA blk off cap ss W hH hblk hsz),
   fun p cap W => callsIn_wide.2 (AnyM.slices_Sort_int_none sortA p cap W)⟩
theorem keys_any (mb : Option Nat) (w : World) : Calls Try.prog 36 #[.map mb] w fun e w' => e = .returned (.func (.func 40) #[] #[.pointer (some ⟨w.heap.size, 0, none⟩)]) ∧ w' = w.alloc (.cells #[.map mb] 44) :=
  (callsIn_wide (n := 5)).1 (AnyZI.keys_in keysA Fence.wide 5 trivial rfl mb w)
theorem sorted_any {b nn : Nat} {L : List Ent} (w : World) (hown : OwnsE w b nn L) (hl : L.length ≤ 1048576) :
    Calls Try.prog 35 #[.func (.func 40) #[] #[.pointer (some ⟨w.heap.size, 0, none⟩)]] (w.alloc (.cells #[.map (some b)] 44)) fun e w' => ∃ (v : Value) (ss : List Int), e = .returned v ∧ ss.Perm (intKeys (mD L)) ∧
      w'.ownsRow (w.heap.size + 1) 2 1 v ss.length ((ss.mergeSort (fun x y => decide (x ≤ y))).map encZ) ∧ Below (w.heap.size + 1) (w.alloc (.cells #[.map (some b)] 44)) w' := by
  refine (callsIn_wide (n := 6)).1 ?_
  have hbl := hown.lt
  have hseq : SeqGives Fence.wide 3 Try.prog 40 #[.pointer (some ⟨w.heap.size, 0, none⟩)] encZ (fun ss => ss.Perm (intKeys (mD L))) (Maps.size (mD L)) (w.alloc (.cells #[.map (some b)] 44)) :=
    AnyZI.keys_gives (ρ := keysA_ren) { keysA with } Fence.wide _ trivial rfl (by omega) w.heap.size b nn (mD L) _ (by simp) (by simp) (by
      obtain ⟨es, clock, hb, Ft, hs, hD⟩ := hown
      exact ⟨es, clock, (Below.heap_alloc _ _ b hbl).trans hb, Ft, hs, hD⟩)
  have cS := AnyZI.sorted_in sortedA Fence.wide 6 trivial trivial trivial trivial rfl (by omega) (sortsA _) (enters_of Try.func39 (by kernel_rfl) rfl) 40 #[.pointer (some ⟨w.heap.size, 0, none⟩)] trivial (enters_of Try.func40 (by kernel_rfl) rfl) _ _ (by rw [mD_size]; unfold maxLen; omega) (by rw [mD_size]; omega) _ hseq
  change CallsIn _ _ Try.prog 35 _ _ _ at cS
  refine cS.mono ?_
  rintro e w' ⟨v, ss, rfl, hS, hrow, hnil, hb⟩
  have e1 : (w.alloc (.cells #[.map (some b)] 44)).heap.size = w.heap.size + 1 := by simp
  rw [e1] at hrow hb
  exact ⟨v, ss, rfl, hS, hrow, hb⟩

def sortedL (L : List Ent) : Prop := L.Pairwise fun x y => x.m < y.m
theorem keys_sorted {L : List Ent} (h : sortedL L) {ss : List Int} (hp : ss.Perm (intKeys (mD L))) : ss.mergeSort (fun x y => decide (x ≤ y)) = L.map (·.m) := by
  have e : intKeys (mD L) = L.map (·.m) := by simp [intKeys, mD, kv, Go.intOf]
  rw [e] at hp
  refine List.Perm.eq_of_pairwise (le := fun x y => (decide (x ≤ y)) = true) (fun a b _ _ h1 h2 => by simp at h1 h2; omega) ?_ ?_ ((List.mergeSort_perm _ _).trans hp)
  · exact List.pairwise_mergeSort (fun a b c h1 h2 => by simp at h1 h2 ⊢; omega) (fun a b => by simp; omega) ss
  · rw [List.pairwise_map]
    exact h.imp (fun h1 => by simp; omega)
theorem sortedL.at {L : List Ent} (h : sortedL L) : ∀ j, j < L.length → atM (L.getD j default).m L = L.getD j default := by
  induction L with
  | nil => intro j hj; simp at hj
  | cons y r ih =>
    have hy := List.pairwise_cons.1 h
    intro j hj
    cases j with
    | zero => simp [atM, List.find?_cons]
    | succ i =>
      have hi : i < r.length := by simpa using hj
      have hm : r.getD i default ∈ r := by
        rw [List.getD_eq_getElem?_getD, List.getElem?_eq_getElem hi]
        exact List.getElem_mem _
      have hlt := hy.1 _ hm
      have := ih hy.2 i hi
      unfold atM at this ⊢
      simp only [List.getD_cons_succ]
      rw [List.find?_cons]
      have hne : ¬ y.m = (r.getD i default).m := by omega
      simp only [hne, decide_false]
      exact this
theorem lookE1 {w : World} {b n : Nat} {L : List Ent} {k : Int} (h : OwnsE w b n L) (h0 : -9223372036854775808 ≤ k) (h1 : k ≤ 9223372036854775807) :
    (Instr.lookup 44 (.map (some b)) (.int .i64 k) false).run Try.prog w = .ok (.agg #[.int .i64 (atM k L).m, .int .i64 (atM k L).p, .int .i64 (atM k L).t]) w := by
  obtain ⟨v, ps, hrun, hv⟩ := h.lookup keyedI Try.underlying44 (Try.zeroValue31 w) (entElem_mk ⟨0, 0, 0⟩) (keyI h0 h1)
  rw [mD_at] at hv
  rw [hrun, entElem_inv hv]; rfl
theorem own_blk_ne {w : World} {base n j : Nat} {e t : TypeId} {sz : Nat} {v : Value} {xs : List Value} {cs : Array Value} {fr : Nat × Nat} (h : w.ownsRow base e sz v n xs) (hj : w.heap[j]? = some (.cells cs t fr)) (ht : e ≠ t) : v.ownBlock ≠ some j := by
  intro hv
  rcases h.2 with ⟨rfl, _⟩ | ⟨g, cap, cur, rfl, _, hb, _⟩
  · cases hv
  · simp only [Value.ownBlock, Option.some.injEq] at hv
    subst hv
    rw [hb] at hj
    cases hj
    exact ht rfl
theorem own_map_ne {w : World} {base n b nn sz : Nat} {e : TypeId} {v : Value} {xs : List Value} {L : List Ent} (h : w.ownsRow base e sz v n xs) (hm : OwnsE w b nn L) : some b ≠ v.ownBlock := by
  intro hv
  obtain ⟨es, clock, hb, _⟩ := hm
  rcases h.2 with ⟨rfl, _⟩ | ⟨g, cap, cur, rfl, _, hb', _⟩
  · cases hv
  · simp only [Value.ownBlock, Option.some.injEq] at hv
    subst hv
    rw [hb'] at hb
    cases hb

theorem OwnsE.kept {w w' : World} {b n : Nat} {L : List Ent} (h : OwnsE w b n L) (hb : w'.heap[b]? = w.heap[b]?) : OwnsE w' b n L := by
  obtain ⟨es, clock, h1, Ft, hs', hD⟩ := h
  exact ⟨es, clock, hb.trans h1, Ft, hs', hD⟩
theorem append_next {w wr w' : World} {o : Obj} {v : Value} {base n k b nn sz : Nat} {e : TypeId} {xs ys : List Value} {vK : Value} {L : List Ent} (he : e ≠ 2) (hrow : wr.ownsRow base e sz v k xs) (hK : wr.ownsRow (base + 1) 2 1 vK n ys) (hO : OwnsE wr b nn L) (hB : Below base w wr) (hz : base ≤ wr.heap.size)
    (hg : (wr.alloc o).grownBy w' v.ownBlock) : w'.ownsRow (base + 1) 2 1 vK n ys ∧ OwnsE w' b nn L ∧ Below base w w' := by
  have hg' : wr.grownBy w' v.ownBlock := (World.grownBy_alloc wr o _).trans hg
  refine ⟨?_, hO.kept (hg'.block b hO.lt (own_map_ne hrow hO)), hB.grown hg' hz (fun j hj => (hrow.lt j hj).1)⟩
  refine hK.kept hg' ?_
  rcases hK.2 with ⟨rfl, _⟩ | ⟨g, cap, cur, rfl, _, hb, _⟩
  · exact .inl rfl
  · exact .inr (fun e1 => own_blk_ne hrow hb he e1.symm)

set_option maxHeartbeats 1000000 in
theorem inOrder_any {b nn : Nat} {L : List Ent} (w : World) (hown : OwnsE w b nn L) (hs : sortedL L) (hl : L.length ≤ 8) (hr : ∀ y ∈ L, 1 ≤ y.m ∧ y.m ≤ 20) :
    Calls Try.prog 24 #[.map (some b)] w fun e w' => ∃ v, e = .returned v ∧ OwnL w' w.heap.size v L ∧ Below w.heap.size w w' := by
  have HO : Hid (OwnsE w b nn L) := hown
  have HS : Hid (sortedL L) := hs
  have HR : Hid (∀ y ∈ L, 1 ≤ y.m ∧ y.m ≤ 20) := hr
  clear hown hs hr
  go_enter Try.func24, Try.ntmps24
  go_wp2_with fail
  refine (keys_any _ _).mono ?_
  rintro e w1 ⟨rfl, rfl⟩
  go_wp2_with fail
  refine (sorted_any w HO.out (by omega)).mono ?_
  rintro e w2 ⟨vK, ss, rfl, hp, hK, hb2⟩
  rw [keys_sorted HS.out hp] at hK
  have hlen : ss.length = L.length := by
    have := hK.1
    simp at this
    omega
  rw [hlen] at hK
  have B2 : Below w.heap.size w w2 := under hb2
  have hO2 : OwnsE w2 b nn L := by
    obtain ⟨es, clock, hb, Ft, hs', hD⟩ := HO.out
    exact ⟨es, clock, (B2.block b HO.out.lt).trans hb, Ft, hs', hD⟩
  clear hp hb2 hlen
  obtain ⟨i0, hi, hz0, hz1, hz2⟩ := info_parts infoE
  obtain ⟨aK, capK, rfl, hcK⟩ : ∃ a cap, vK = .slice a L.length cap ∧ ∀ w' : World, w'.ownsRow (w.heap.size + 1) 2 1 (.slice a L.length cap) L.length ((L.map (·.m)).map encZ) → ∀ j, j < L.length → ∃ g, a = some ⟨g, 0, none⟩ ∧ w'.cell? ⟨g, j, none⟩ = some (.int .i64 (L.getD j default).m) := by
    rcases hK.2 with ⟨rfl, h0⟩ | ⟨g, cap, cur, rfl, _⟩
    · exact ⟨none, 0, by rw [h0], fun _ _ j hj => by omega⟩
    · refine ⟨_, _, rfl, fun w' h' j hj => ⟨g, rfl, ?_⟩⟩
      rw [own_cell h' j hj]
      rw [List.getElem?_map, List.getElem?_map, List.getElem?_eq_getElem hj, List.getD_eq_getElem?_getD, List.getElem?_eq_getElem hj]
      rfl
  have HC : Hid (∀ w' : World, w'.ownsRow (w.heap.size + 1) 2 1 (.slice aK L.length capK) L.length ((L.map (·.m)).map encZ) → ∀ j, j < L.length → ∃ g, aK = some ⟨g, 0, none⟩ ∧ w'.cell? ⟨g, j, none⟩ = some (.int .i64 (L.getD j default).m)) := hcK
  clear hcK
  go_wp2_with fail
  go_loopw [3, 10] (fun v i wr => ∃ k : Nat, k ≤ L.length ∧ i = .int .i64 k ∧ wr.ownsRow w.heap.size 31 3 v k (flatE (L.take k)) ∧ wr.ownsRow (w.heap.size + 1) 2 1 (.slice aK L.length capK) L.length ((L.map (·.m)).map encZ) ∧ OwnsE wr b nn L ∧ Below w.heap.size w wr) (fun _ i _ => L.length - (intOf i).toNat)
  case atStart => exact ⟨0, Nat.zero_le _, rfl, World.ownsRow_nil _ _ _ _, hK, hO2, B2⟩
  case round =>
    obtain ⟨k, hk, rfl, hrow, hKr, hOr, hB⟩ := hrel
    clear hK hO2 B2
    by_cases hlt : k < L.length
    · have hlt' : (k : Int) < L.length := by omega
      obtain ⟨gK, rfl, hcell⟩ := HC.out wr hKr k hlt
      have hxm : L.getD k default ∈ L := by
        rw [List.getD_eq_getElem?_getD, List.getElem?_eq_getElem hlt]
        exact List.getElem_mem _
      have hxr := HR.out _ hxm
      have hlk := lookE1 (k := (L.getD k default).m) hOr (by omega) (by omega)
      rw [HS.out.at k hlt] at hlk
      have HT : Hid (flatE (L.take k) ++ cellsE (L.getD k default) = flatE (L.take (k + 1))) := by
        rw [Hid, List.take_add_one, flatE, flatE, List.flatMap_append, List.getD_eq_getElem?_getD, List.getElem?_eq_getElem hlt]
        simp
      generalize L.getD k default = x at *
      have hz := hB.size
      clear hxm hxr
      go_wp2_with (at_builtin; refine wpList_append_own _ rfl (.tmp 14) (.tmp 18) 24 rfl w.heap.size 31 i0 (.agg #[.int .i64 0, .int .i64 0, .int .i64 0]) 3 24 Try.underlying24 hi hz0 hz1 hz2 rfl (by decide) _ k _ rfl (hrow.alloc _) ⟨wr.heap.size, 0, none⟩ 1 1 (cellsE x) rfl rfl (cells_three_new _ _ _) (oneE _) (by unfold maxLen; omega) (by omega) (by simp; omega) ?_; intro v' w' hown' hgrow' hnil')
      obtain ⟨n1, n2, n3⟩ := append_next (by decide) hrow hKr hOr hB hz hgrow'
      rw [HT.out] at hown'
      clear hnil' hgrow' hrow hKr hOr hB hcell hlk
      go_roundw
      case rel => exact ⟨k + 1, by omega, by go_num, hown', n1, n2, n3⟩
      case measure => simp [intOf]; omega
    · obtain rfl : k = L.length := by omega
      clear HC
      go_wp2_with fail
      go_ret
      exact ⟨_, rfl, by rw [List.take_length] at hrow; exact hrow, hB⟩
end Go.Proofs.Ytfpomccgmligbaa
