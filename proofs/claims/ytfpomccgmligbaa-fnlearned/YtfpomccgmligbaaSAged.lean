/- What is known now of a table: the specification's answer. -/
import Derived.Test.YtfpomccgmligbaaAged
import Derived.Test.YtfpomccgmligbaaSTabOk
namespace Go.Proofs.Ytfpomccgmligbaa
open Go.RowKit
set_option linter.unusedVariables false
set_option linter.unusedSimpArgs false

theorem OwnL.empty (w : World) (base : Nat) (hb : base ≤ w.heap.size) : OwnL (w.alloc (.cells #[] 31)) base (.slice (some ⟨w.heap.size, 0, none⟩) 0 0) [] :=
  ⟨rfl, .inr ⟨w.heap.size, 0, #[], rfl, hb, blk_new w _, Nat.le_refl _, Nat.zero_le _, rfl, rfl⟩⟩

set_option maxHeartbeats 1000000 in
theorem l3Aged_any (a : Option Addr) (n cap : Nat) (f : Nat → Ent) (now : Int) (w : World) (hok : tabOk n f) (ht : timeOk now) (h : RdEnt w a n f) :
    Calls Try.prog 30 #[.slice a n cap, .int .i64 now] w fun e w' => ∃ v, e = .returned v ∧ OwnL w' w.heap.size v (agedL (entsL n f) now) ∧ Below w.heap.size w w' := by
  have HR : Hid (RdEnt w a n f) := h
  have HO : Hid (entsOk n f) := hok.2
  have h8 := hok.1
  obtain ⟨t0, t1⟩ := ht
  clear h hok
  obtain ⟨i0, hi, hz0, hz1, hz2⟩ := info_parts infoE
  go_enter Try.func30, Try.ntmps30
  go_wp2_with fail
  go_loopw [5, 6] (fun v i wr => ∃ k : Nat, k ≤ n ∧ i = .int .i64 k ∧ OwnL wr w.heap.size v (agedL (entsL k f) now) ∧ Below w.heap.size w wr) (fun _ i _ => n - (intOf i).toNat)
  case atStart => exact ⟨0, Nat.zero_le _, rfl, OwnL.empty w _ (Nat.le_refl _), (Below.refl _ _).alloc (Nat.le_refl _) _⟩
  case round =>
    obtain ⟨k, hk, rfl, hO, hB⟩ := hrel
    by_cases hlt : k < n
    · have hlt' : (k : Int) < n := by omega
      obtain ⟨g, o, rfl, c1, c2, c3⟩ := (HR.out.up hB) k hlt
      have hx3 := (HO.out k hlt).1.2.2
      have HE : Hid (agedL (entsL (k + 1) f) now = if now - (f k).t ≤ 20 then agedL (entsL k f) now ++ [f k] else agedL (entsL k f) now) := by
        rw [Hid, entsL_succ]
        by_cases hs : now - (f k).t ≤ 20
        · simp [agedL, hs]
        · simp [agedL, hs]
      have hll : (agedL (entsL k f) now).length ≤ k := by
        have := List.length_filter_le (fun y : Ent => decide (now - y.t ≤ 20)) (entsL k f)
        rw [entsL_len] at this
        exact this
      generalize hq : agedL (entsL k f) now = A at *
      generalize f k = x at *
      obtain ⟨m, p, t⟩ := x
      dsimp only at c1 c2 c3 hx3 HE
      have hw : IntKind.i64.wrap (now - t) = now - t := wrapE _ (by omega) (by omega)
      have hz := hB.size
      by_cases hs : now - t ≤ 20
      · have HE2 : Hid (agedL (entsL (k + 1) f) now = A ++ [⟨m, p, t⟩]) := by rw [Hid, HE.out, if_pos hs]
        clear HE hx3
        go_wp2_with (at_builtin; refine wpList_append_own _ rfl (.tmp 22) (.tmp 27) 24 rfl w.heap.size 31 i0 (.agg #[.int .i64 0, .int .i64 0, .int .i64 0]) 3 24 Try.underlying24 hi hz0 hz1 hz2 rfl (by decide) _ A.length _ rfl (World.ownsRow.alloc hO _) ⟨wr.heap.size, 0, none⟩ 1 1 (cellsE ⟨m, p, t⟩) rfl rfl (cells_three_new wr ⟨m, p, t⟩ _) (oneE _) (by unfold maxLen; omega) (by omega) (by simp; omega) ?_; intro v' w' hown' hgrow' hnil')
        have hO2 : OwnL w' w.heap.size v' (A ++ [⟨m, p, t⟩]) := by
          unfold OwnL
          rw [flatE_snoc, List.length_append]
          exact hown'
        have B2 : Below w.heap.size w w' := hB.grown ((World.grownBy_alloc wr _ _).trans hgrow') hz (fun j hj => (World.ownsRow.lt hO j hj).1)
        clear hown' hgrow' hnil' hO hB
        go_roundw
        case rel => exact ⟨k + 1, by omega, by go_num, by rw [HE2.out]; exact hO2, B2⟩
        case measure => simp [intOf]; omega
      · have HE2 : Hid (agedL (entsL (k + 1) f) now = A) := by rw [Hid, HE.out, if_neg hs]
        clear HE hx3
        go_wp2_with fail
        go_roundw
        case rel => exact ⟨k + 1, by omega, by go_num, by rw [HE2.out]; exact hO, hB⟩
        case measure => simp [intOf]; omega
    · obtain rfl : k = n := by omega
      go_wp2_with fail
      go_ret
      exact ⟨_, rfl, hO, hB⟩

set_option maxHeartbeats 1000000 in
theorem sAged_any (a : Option Addr) (n cap : Nat) (f : Nat → Ent) (now : Int) (A : List Ent) (w : World) (hn : n ≤ maxLen) (h : RdEnt w a n f) (hA : AgedR n f now A) :
    Calls Try.prog 14 #[.slice a n cap, .int .i64 now] w fun e w' => ∃ v, e = .returned v ∧ OwnL w' w.heap.size v A ∧ Below w.heap.size w w' := by
  have HR : Hid (RdEnt w a n f) := h
  have HP : Hid (AgedR n f now A) := hA
  obtain ⟨ok, hok⟩ := tab_dec n f
  have HO : Hid (ok = true ↔ tabOk n f) := hok
  clear h hA hok
  go_enter Try.func14, Try.ntmps14
  go_wp2_with fail
  refine (sTableOk_any a n cap f _ hn HR.out ok HO.out).mono ?_
  rintro e w1 ⟨rfl, B1⟩
  cases ok
  · have HF : Hid (A = []) := HP.out.bad (fun hh => absurd (HO.out.2 hh.1) (by simp))
    go_wp2_with fail
    go_ret
    exact ⟨_, rfl, by rw [HF.out]; exact OwnL.empty _ _ B1.size, B1.alloc B1.size _⟩
  have HT : Hid (tabOk n f) := HO.out.1 rfl
  go_wp2_with fail
  refine (l1In_any _ _ _ _).mono ?_
  rintro e w' ⟨rfl, rfl⟩
  by_cases ht : 0 ≤ now ∧ now ≤ 1000000000
  rotate_left
  · have HF : Hid (A = []) := HP.out.bad (fun hh => ht hh.2)
    rw [decide_eq_false ht]
    clear ht
    go_wp2_with fail
    go_ret
    exact ⟨_, rfl, by rw [HF.out]; exact OwnL.empty _ _ B1.size, B1.alloc B1.size _⟩
  have HTm : Hid (timeOk now) := ht
  rw [decide_eq_true ht]
  clear ht
  go_wp2_with fail
  refine (l3Aged_any a n cap f now _ HT.out HTm.out (HR.out.up B1)).mono ?_
  rintro e w2 ⟨v, rfl, hv, hb2⟩
  have B2 := B1.trans (hb2.mono B1.size)
  have HV : Hid (OwnL w2 w.heap.size v A) := by rw [Hid, HP.out.good HT.out HTm.out]; exact hv.mono B1.size
  clear hv hb2 B1
  go_wp2_with fail
  go_ret
  exact ⟨_, rfl, HV.out, B2⟩
end Go.Proofs.Ytfpomccgmligbaa
