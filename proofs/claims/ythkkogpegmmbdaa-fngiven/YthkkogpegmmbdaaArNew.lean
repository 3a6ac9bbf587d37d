/- A new arena: both sides' contracts. -/
import Derived.Test.YthkkogpegmmbdaaArRow
namespace Go.Proofs.Ythkkogpegmmbdaa
open Go.RowKit
set_option linter.unusedVariables false

def newNext (n : Nat) (i : Nat) : Int := if i + 1 = n then -1 else i + 1

theorem sNew_no (c : Int) (w : World) (h : c < 1 ∨ 60 < c) :
    Calls Try.prog 42 #[.int .i64 c] w fun e w' => e = .returned (.tuple #[.agg #[.slice none 0 0, .slice none 0 0, .int .i64 0], .bool false]) ∧ Below w.heap.size w w' := by
  go_enter Try.func42, Try.ntmps42
  go_wp2_with fail
  refine (l1In_any _ _ _ _).mono ?_
  rintro e w1 ⟨rfl, hw1⟩
  subst hw1
  rw [decide_eq_false (by omega)]
  go_wp2_with fail
  exact bodyPost_ret (v := .tuple #[.agg #[.slice none 0 0, .slice none 0 0, .int .i64 0], .bool false]) (by simp [results, Try.results42, go_sem]) rfl ⟨rfl, (Below.refl _ _).alloc (Nat.le_refl _) _⟩

/-- behind k appends -/
def Appended (w wr : World) (n k : Nat) : Prop :=
  ∃ v, wr.heap[w.heap.size + 1 + 1]? = some (.cells #[v, .slice (some ⟨w.heap.size + 1, 0, none⟩) n n, .int .i64 0] 27 (0, 0)) ∧
    wr.ownsRow w.heap.size 2 1 v k ((List.range k).map fun i : Nat => .int .i64 ((i : Int) + 1)) ∧ wr.heap[w.heap.size + 1]? = some (.cells (zStrs n) 9 (0, 0)) ∧
    wr.heap[w.heap.size]? = some (.cells #[.slice none 0 0, .slice none 0 0, .int .i64 0] 27 (0, 0)) ∧ Below w.heap.size w wr
theorem own_row {w : World} {base n g cap : Nat} (h : w.ownsRow base 2 1 (.slice (some ⟨g, 0, none⟩) n cap) n ((List.range n).map fun i : Nat => .int .i64 ((i : Int) + 1))) : RowTo g 2 n (fun i => .int .i64 ((i : Int) + 1)) n w := by
  obtain ⟨hl, h | ⟨g', cap', cur, hv, hge, hb, h1, h2, h3, h4⟩⟩ := h
  · cases h.1
  · cases hv
    refine ⟨cur, hb, by omega, fun i hi => ?_⟩
    have : (cur.toList.take (n * 1))[i]? = cur[i]? := by rw [List.getElem?_take_of_lt (by omega)]; simp
    rw [← this, h4]
    simp [hi]
theorem app_next {w wr w' : World} {n k : Nat} {v v' : Value} {o : Obj}
    (kA : wr.heap[w.heap.size + 1 + 1]? = some (.cells #[v, .slice (some ⟨w.heap.size + 1, 0, none⟩) n n, .int .i64 0] 27 (0, 0))) (kD : wr.heap[w.heap.size + 1]? = some (.cells (zStrs n) 9 (0, 0)))
    (kR : wr.heap[w.heap.size]? = some (.cells #[.slice none 0 0, .slice none 0 0, .int .i64 0] 27 (0, 0))) (hB : Below w.heap.size w wr)
    (hown : wr.ownsRow w.heap.size 2 1 v k ((List.range k).map fun i : Nat => .int .i64 ((i : Int) + 1))) (hown' : w'.ownsRow w.heap.size 2 1 v' (k + 1) ((List.range k).map (fun i : Nat => .int .i64 ((i : Int) + 1)) ++ [.int .i64 ((k : Int) + 1)])) (hg : (wr.alloc o).grownBy w' v.ownBlock) :
    ∃ g2 cap2, v' = .slice (some ⟨g2, 0, none⟩) (k + 1) cap2 ∧ Appended w (w'.setCell ⟨w.heap.size + 1 + 1, 0, none⟩ (.slice (some ⟨g2, 0, none⟩) (k + 1) cap2)) n (k + 1) ∧ w'.frozen? ⟨w.heap.size + 1 + 1, 0, none⟩ = false ∧ w'.cell? ⟨w.heap.size + 1 + 1, 0, none⟩ = some v := by
  rcases own_forms hown' with ⟨_, h0⟩ | ⟨g2, cap2, rfl⟩
  · omega
  have keep : ∀ {j : Nat} {cs : Array Value} {t : TypeId}, wr.heap[j]? = some (.cells cs t (0, 0)) → 2 ≠ t → w'.heap[j]? = some (.cells cs t (0, 0)) := by
    intro j cs t hj ht
    have hl := blk_lt hj
    rw [hg.block j (by simp; omega) (fun e => own_ne hown hj ht e.symm)]
    exact (blk_old o hl).trans hj
  have kA' := keep kA (by decide)
  have hz := hB.size
  have hB' : Below w.heap.size w w' := (hB.alloc hz o).grown hg (by simp; omega) (fun j hj => by
    rcases hown.2 with ⟨rfl, _⟩ | ⟨g, cap, cur, rfl, hge, _⟩
    · cases hj
    · simp only [Value.ownBlock, Option.some.injEq] at hj
      omega)
  have n2 : g2 ≠ w.heap.size + 1 + 1 := by
    have := own_ne hown' kA' (by decide)
    simpa [Value.ownBlock] using this
  refine ⟨g2, cap2, rfl, ⟨_, blk_set kA' _, ?_, (blk_set_ne (by omega) _).trans (keep kD (by decide)), (blk_set_ne (by omega) _).trans (keep kR (by decide)), hB'.setCell (by show _ ≤ _ + 1 + 1; omega) _⟩, blk_free kA' 0, by rw [blk_cell kA']; rfl⟩
  obtain ⟨hl, h | ⟨g', cap', cur, hv, hge, hb, hr⟩⟩ := hown'
  · cases h.1
  · cases hv
    have e : (List.range (k + 1)).map (fun i : Nat => Value.int .i64 ((i : Int) + 1)) = (List.range k).map (fun i : Nat => Value.int .i64 ((i : Int) + 1)) ++ [.int .i64 ((k : Int) + 1)] := by
      rw [List.range_succ, List.map_append]; rfl
    rw [e]
    exact ⟨hl, .inr ⟨g2, cap2, cur, rfl, hge, (blk_set_ne n2 _).trans hb, hr⟩⟩

set_option maxHeartbeats 1000000 in
theorem sNew_yes (n : Nat) (w : World) (h1 : 1 ≤ n) (h2 : n ≤ 60) :
    Calls Try.prog 42 #[.int .i64 n] w fun e w' => ∃ gN gD cN, e = .returned (.tuple #[.agg #[.slice (some ⟨gN, 0, none⟩) n cN, .slice (some ⟨gD, 0, none⟩) n n, .int .i64 0], .bool true]) ∧ w.heap.size ≤ gN ∧ w.heap.size ≤ gD ∧ RowTo gN 2 n (fun i => .int .i64 (newNext n i)) n w' ∧ RowTo gD 9 n (fun _ => .string ⟨#[]⟩) n w' ∧ Below w.heap.size w w' := by
  have ms := make_strs n (by omega)
  obtain ⟨i0, hi, hz0, hz1, hz2⟩ := info_parts info2
  go_enter Try.func42, Try.ntmps42
  go_wp2_with fail
  refine (l1In_any _ _ _ _).mono ?_
  rintro e w1 ⟨rfl, hw1⟩
  subst hw1
  rw [decide_eq_true (by omega)]
  go_wp2_with fail
  clear ms
  have e1 : ∀ o, (w.alloc o).heap.size = w.heap.size + 1 := by intro o; simp
  have e2 : ∀ o o', ((w.alloc o).alloc o').heap.size = w.heap.size + 1 + 1 := by intro o o'; simp
  go_loopw [5] (fun i wr => ∃ k : Nat, k ≤ n ∧ i = .int .i64 k ∧ Appended w wr n k) (fun i _ => n - (intOf i).toNat)
  case atStart =>
    refine ⟨0, Nat.zero_le _, rfl, .slice none 0 0, ?_, ⟨by simp, .inl ⟨rfl, rfl⟩⟩, ?_, ?_, ?_⟩
    · have := blk_new ((w.alloc (.cells #[.slice none 0 0, .slice none 0 0, .int .i64 0] 27)).alloc (.cells (zStrs n) 9)) (.cells #[.slice none 0 0, .slice (some ⟨w.heap.size + 1, 0, none⟩) n n, .int .i64 0] 27)
      rw [e2] at this
      exact this
    · have := blk_new (w.alloc (.cells #[.slice none 0 0, .slice none 0 0, .int .i64 0] 27)) (.cells (zStrs n) 9)
      rw [e1] at this
      exact (blk_old _ (by rw [e2]; omega)).trans this
    · exact (blk_old _ (by rw [e2]; omega)).trans ((blk_old _ (by rw [e1]; omega)).trans (blk_new w _))
    · exact (((Below.refl _ _).alloc (Nat.le_refl _) _).alloc (by simp) _).alloc (by simp; omega) _
  case round =>
    obtain ⟨k, hk, rfl, v, kA, hown, kD, kR, hB⟩ := hrel
    by_cases hlt : k < n
    · have hlt' : (k : Int) < n := by omega
      have cA : ∀ o' i, (wr.alloc o').cell? ⟨w.heap.size + 1 + 1, i, none⟩ = _ := fun o' i => (blk_cell ((blk_old o' (blk_lt kA)).trans kA) i)
      have cA0 := blk_cell kA
      have zB := hB.size
      rcases own_forms hown with ⟨rfl, hk0⟩ | ⟨g', cap', rfl⟩
      · clear hk0
        go_wp2_with (at_builtin; refine wpList_append_own _ rfl (.tmp 19) (.tmp 22) 24 rfl w.heap.size 2 i0 (.int .i64 0) 1 8 Try.underlying24 hi hz0 hz1 hz2 rfl (by decide) _ k _ rfl (hown.alloc _) ⟨wr.heap.size, 0, none⟩ 1 1 [.int .i64 ((k : Int) + 1)] rfl rfl (cell_one_new _ _ _) (one_int _) (by unfold maxLen; omega) (by omega) (by simp; omega) ?_; intro v' w' hown' hgrow' hnil'; obtain ⟨g2, cap2, rfl, A2, f2, c2⟩ := app_next kA kD kR hB hown hown' hgrow')
        go_roundw
        case rel => exact ⟨k + 1, by omega, by go_num, A2⟩
        case measure => simp [intOf]; omega
      · go_wp2_with (at_builtin; refine wpList_append_own _ rfl (.tmp 19) (.tmp 22) 24 rfl w.heap.size 2 i0 (.int .i64 0) 1 8 Try.underlying24 hi hz0 hz1 hz2 rfl (by decide) _ k _ rfl (hown.alloc _) ⟨wr.heap.size, 0, none⟩ 1 1 [.int .i64 ((k : Int) + 1)] rfl rfl (cell_one_new _ _ _) (one_int _) (by unfold maxLen; omega) (by omega) (by simp; omega) ?_; intro v' w' hown' hgrow' hnil'; obtain ⟨g2, cap2, rfl, A2, f2, c2⟩ := app_next kA kD kR hB hown hown' hgrow')
        go_roundw
        case rel => exact ⟨k + 1, by omega, by go_num, A2⟩
        case measure => simp [intOf]; omega
    · obtain rfl : k = n := by omega
      rcases own_forms hown with ⟨_, hk0⟩ | ⟨g', cap', rfl⟩
      · omega
      have rN := own_row hown
      have rD := zStrs_row kD
      have hge : w.heap.size ≤ g' := own_ge hown
      obtain ⟨v, hv⟩ := rN.there (k - 1) (by omega)
      have hf := rN.free (k - 1)
      have cA := blk_cell kA
      have cR := blk_cell kR
      have fR := blk_free kR
      have nA := rN.ne kA (by decide)
      have nR := rN.ne kR (by decide)
      have nD := rN.ne2 rD (by decide)
      have hk1 : ((k : Int) - 1) = ((k - 1 : Nat) : Int) := by omega
      have kA2 : ∀ v, (wr.setCell ⟨g', k - 1, none⟩ v).heap[w.heap.size + 1 + 1]? = _ := fun v => (blk_set_ne (fun e => nA e.symm) v).trans kA
      have kR2 : ∀ v, (wr.setCell ⟨g', k - 1, none⟩ v).heap[w.heap.size]? = _ := fun v => (blk_set_ne (fun e => nR e.symm) v).trans kR
      have cA2 : ∀ v i, (wr.setCell ⟨g', k - 1, none⟩ v).cell? ⟨w.heap.size + 1 + 1, i, none⟩ = _ := fun v i => blk_cell (kA2 v) i
      have cR2 : ∀ v i, (wr.setCell ⟨g', k - 1, none⟩ v).cell? ⟨w.heap.size, i, none⟩ = _ := fun v i => blk_cell (kR2 v) i
      have fR2 : ∀ v i, (wr.setCell ⟨g', k - 1, none⟩ v).frozen? ⟨w.heap.size, i, none⟩ = false := fun v i => blk_free (kR2 v) i
      clear kA2 kR2
      go_wp2_with fail
      have rN2 := (rN.setAt (k - 1) (.int .i64 (-1)) (by omega)).ext (f' := fun i => .int .i64 (newNext k i)) (fun i hi => by
        unfold newNext
        by_cases e : i = k - 1
        · rw [if_pos e, if_pos (by omega)]
        · rw [if_neg e, if_neg (by omega)])
      have nR1 : w.heap.size + 1 ≠ w.heap.size := by omega
      exact bodyPost_ret (v := .tuple #[.agg #[.slice (some ⟨g', 0, none⟩) k cap', .slice (some ⟨w.heap.size + 1, 0, none⟩) k k, .int .i64 0], .bool true]) (by simp [results, Try.results42, go_sem, cR2]) rfl ⟨g', w.heap.size + 1, cap', rfl, hge, by omega,
        rN2.keep (by rw [blk_set_ne nR, blk_set_ne nR, blk_set_ne nR]), rD.keep (by rw [blk_set_ne nR1, blk_set_ne nR1, blk_set_ne nR1, blk_set_ne (fun e => nD e.symm)]), (((hB.setCell hge _).setCell (Nat.le_refl _) _).setCell (Nat.le_refl _) _).setCell (Nat.le_refl _) _⟩
end Go.Proofs.Ythkkogpegmmbdaa
