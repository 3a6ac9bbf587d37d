/- What is known now of a table: the program's answer. -/
import Derived.Test.YtfpomccgmligbaaInOrd
import Derived.Test.YtfpomccgmligbaaPortOf
namespace Go.Proofs.Ytfpomccgmligbaa
open Go.RowKit
set_option linter.unusedVariables false
set_option linter.unusedSimpArgs false

def agedL (L : List Ent) (now : Int) : List Ent := L.filter fun y => decide (now - y.t ≤ 20)
structure AgedR (n : Nat) (f : Nat → Ent) (now : Int) (A : List Ent) : Prop where
  good : tabOk n f → timeOk now → A = agedL (entsL n f) now
  bad : ¬ (tabOk n f ∧ timeOk now) → A = []
theorem agedR (n : Nat) (f : Nat → Ent) (now : Int) : ∃ A, AgedR n f now A := by
  by_cases h : tabOk n f ∧ timeOk now
  · exact ⟨_, fun _ _ => rfl, fun h' => absurd h h'⟩
  · exact ⟨[], fun h1 h2 => absurd ⟨h1, h2⟩ h, fun _ => rfl⟩
theorem entsL_drop {n k : Nat} {f : Nat → Ent} (hk : k < n) : (entsL n f).drop k = f k :: (entsL n f).drop (k + 1) := by
  have h : k < (entsL n f).length := by rw [entsL_len]; exact hk
  rw [List.drop_eq_getElem_cons h]
  simp [entsL]
theorem drop_above {n k : Nat} {f : Nat → Ent} (h : entsOk n f) (hk : k < n) : ∀ y ∈ (entsL n f).drop (k + 1), y.m ≠ (f k).m := by
  intro y hy
  obtain ⟨i, hi, e⟩ := List.mem_iff_getElem.1 hy
  rw [List.length_drop, entsL_len] at hi
  have e2 : y = f (k + 1 + i) := by
    rw [← e, List.getElem_drop]
    simp [entsL]
  have := h.lt (k + 1 + i) k (by omega) (by omega)
  rw [e2]; omega
theorem aged_keep {n k : Nat} {f : Nat → Ent} {now : Int} (hk : k < n) (hs : now - (f k).t ≤ 20) : agedL (entsL k f) now ++ (entsL n f).drop k = agedL (entsL (k + 1) f) now ++ (entsL n f).drop (k + 1) := by
  rw [entsL_drop hk, entsL_succ]
  simp [agedL, hs]
theorem aged_drop {n k : Nat} {f : Nat → Ent} {now : Int} (h : entsOk n f) (hk : k < n) (hs : ¬ now - (f k).t ≤ 20) : notM (f k).m (agedL (entsL k f) now ++ (entsL n f).drop k) = agedL (entsL (k + 1) f) now ++ (entsL n f).drop (k + 1) := by
  have h1 : notM (f k).m (agedL (entsL k f) now) = agedL (entsL k f) now := notM_all fun y hy => by
    have := h.below hk y (List.mem_filter.1 hy).1
    omega
  have h2 : notM (f k).m ((entsL n f).drop (k + 1)) = (entsL n f).drop (k + 1) := notM_all (drop_above h hk)
  rw [entsL_drop hk, entsL_succ]
  have e : ∀ a b : List Ent, notM (f k).m (a ++ f k :: b) = notM (f k).m a ++ notM (f k).m b := fun a b => by simp [notM]
  rw [e, h1, h2]
  simp [agedL, hs]
theorem entsL_sorted {n : Nat} {f : Nat → Ent} (h : entsOk n f) : sortedL (entsL n f) := by
  unfold sortedL
  rw [List.pairwise_iff_getElem]
  intro i j hi hj hij
  rw [entsL_len] at hj
  simp [entsL]
  exact h.lt j i hij hj
theorem sortedL.sub {L L' : List Ent} (h : sortedL L) (hs : L'.Sublist L) : sortedL L' := List.Pairwise.sublist hs h

set_option maxHeartbeats 1000000 in
theorem iAged_any (a : Option Addr) (n cap : Nat) (f : Nat → Ent) (now : Int) (A : List Ent) (w : World) (hn : n ≤ maxLen) (h : RdEnt w a n f) (hA : AgedR n f now A) :
    Calls Try.prog 13 #[.slice a n cap, .int .i64 now] w fun e w' => ∃ v, e = .returned v ∧ OwnL w' w.heap.size v A ∧ Below w.heap.size w w' := by
  have HR : Hid (RdEnt w a n f) := h
  have HP : Hid (AgedR n f now A) := hA
  obtain ⟨ok, hok⟩ := tab_dec n f
  have HO : Hid (ok = true ↔ tabOk n f) := hok
  clear h hA hok
  go_enter Try.func13, Try.ntmps13
  go_wp2_with fail
  refine (iTableOk_any a n cap f _ hn HR.out ok HO.out).mono ?_
  rintro e w1 ⟨rfl, B1⟩
  cases ok
  · have HF : Hid (A = []) := HP.out.bad (fun hh => absurd (HO.out.2 hh.1) (by simp))
    go_wp2_with fail
    go_ret
    exact ⟨_, rfl, by rw [HF.out]; exact OwnL.nil _ _, B1⟩
  have HT : Hid (tabOk n f) := HO.out.1 rfl
  go_wp2_with fail
  refine (isTime_any _ _).mono ?_
  rintro e w' ⟨rfl, rfl⟩
  by_cases ht : 0 ≤ now ∧ now ≤ 1000000000
  rotate_left
  · have HF : Hid (A = []) := HP.out.bad (fun hh => ht hh.2)
    rw [decide_eq_false ht]
    clear ht
    go_wp2_with fail
    go_ret
    exact ⟨_, rfl, by rw [HF.out]; exact OwnL.nil _ _, B1⟩
  have HTm : Hid (timeOk now) := ht
  rw [decide_eq_true ht]
  clear ht
  go_wp2_with fail
  refine (byMac_any a n cap f _ HT.out (HR.out.up B1)).mono ?_
  rintro e w2 ⟨rfl, hown, hb2⟩
  have B2 := B1.trans (hb2.mono B1.size)
  obtain ⟨bM, hbM⟩ : ∃ bM, bM = w'.heap.size := ⟨_, rfl⟩
  rw [← hbM] at hown ⊢
  have hM : w.heap.size ≤ bM := by rw [hbM]; exact B1.size
  have h8 := HT.out.1
  clear hb2 hbM
  go_wp2_with fail
  go_loopw [20] (fun i wr => ∃ k : Nat, k ≤ n ∧ i = .int .i64 k ∧ OwnsE wr bM n (agedL (entsL k f) now ++ (entsL n f).drop k) ∧ Below w.heap.size w wr) (fun i _ => n - (intOf i).toNat)
  case atStart => exact ⟨0, Nat.zero_le _, rfl, hown, B2⟩
  case round =>
    obtain ⟨k, hk, rfl, hO, hB⟩ := hrel
    clear hown B2 B1
    by_cases hlt : k < n
    · have hlt' : (k : Int) < n := by omega
      obtain ⟨g, o, rfl, c1, c2, c3⟩ := (HR.out.up hB) k hlt
      have hxk := (HT.out.2 k hlt).1
      have HK : Hid (now - (f k).t ≤ 20 → agedL (entsL k f) now ++ (entsL n f).drop k = agedL (entsL (k + 1) f) now ++ (entsL n f).drop (k + 1)) := aged_keep hlt
      have HD : Hid (¬ now - (f k).t ≤ 20 → notM (f k).m (agedL (entsL k f) now ++ (entsL n f).drop k) = agedL (entsL (k + 1) f) now ++ (entsL n f).drop (k + 1)) := aged_drop HT.out.2 hlt
      generalize f k = x at *
      obtain ⟨m, p, t⟩ := x
      obtain ⟨x1, x2, x3⟩ := hxk
      dsimp only at c1 c2 c3 x1 x2 x3 HK HD
      have h20 := HTm.out
      have hz := hB.size
      have HB1 : Hid (∀ ob, Below w.heap.size w (wr.alloc ob)) := fun ob => hB.alloc hz _
      have cb := blk_cell (blk_new wr (.cells #[.int .i64 m, .int .i64 p, .int .i64 t] 31))
      go_wp2_with fail
      refine (isStale_any m p t now _ x3.1 x3.2 h20.1 h20.2).mono ?_
      rintro e w3 ⟨rfl, hb3⟩
      have B3 : Below w.heap.size w w3 := (HB1.out _).trans (hb3.mono (HB1.out _).size)
      have cb := fun i => (hb3.cell (p := ⟨wr.heap.size, i, none⟩) (by simp)).trans (cb i)
      have hO3 : OwnsE w3 bM n _ := hO.kept ((hb3.block bM (by have := hO.lt; simp; omega)).trans (blk_old _ hO.lt))
      clear hO c1 c2 c3 hb3 HB1 hB
      by_cases hs : 20 < now - t
      · rw [decide_eq_true hs]
        have HE := HD.out (by omega)
        obtain ⟨k0, k1⟩ := x1
        have hkey : keyOf Try.prog 2 (.int .i64 m) = some (.int .i64 m) := keyI (by omega) (by omega)
        clear hs HK x2 x3 h20
        go_wp2_with (at_delete; refine wpList_delete_own _ rfl _ _ 44 2 rfl 31 keyedI Try.underlying44 _ bM n _ rfl hO3 _ _ rfl hkey ?_; intro w4 hown4 hturn4)
        have hown4 : OwnsE w4 bM n (agedL (entsL (k + 1) f) now ++ (entsL n f).drop (k + 1)) := by rw [mD_del, HE] at hown4; exact hown4
        have B4 := turn_below B3 hturn4 B3.size hM
        clear hturn4 hO3 cb
        go_roundw
        case rel => exact ⟨k + 1, by omega, by go_num, hown4, B4⟩
        case measure => simp [intOf]; omega
      · rw [decide_eq_false hs]
        have HE := HK.out (by omega)
        have hO4 : OwnsE w3 bM n (agedL (entsL (k + 1) f) now ++ (entsL n f).drop (k + 1)) := by rw [HE] at hO3; exact hO3
        clear hs HD x1 x2 x3 h20 hO3 cb
        go_wp2_with fail
        go_roundw
        case rel => exact ⟨k + 1, by omega, by go_num, hO4, B3⟩
        case measure => simp [intOf]; omega
    · obtain rfl : k = n := by omega
      have e0 : agedL (entsL k f) now ++ (entsL k f).drop k = A := by
        rw [HP.out.good HT.out HTm.out, List.drop_eq_nil_of_le (by rw [entsL_len]; exact Nat.le_refl _), List.append_nil]
      have HA : Hid (A = agedL (entsL k f) now) := HP.out.good HT.out HTm.out
      have hO2 : OwnsE wr bM k A := by rw [← e0]; exact hO
      have hsub : A.Sublist (entsL k f) := by rw [HA.out]; exact List.filter_sublist
      have hlen := hsub.length_le
      rw [entsL_len] at hlen
      have HSu : Hid (A.Sublist (entsL k f)) := hsub
      clear hO e0 hsub
      go_wp2_with fail
      refine (inOrder_any _ hO2 ((entsL_sorted HT.out.2).sub HSu.out) (by omega) (fun y hy => (entsL_ok HT.out.2 (HSu.out.subset hy)).1)).mono ?_
      rintro e w5 ⟨v, rfl, hv, hb5⟩
      have B5 := hB.trans (hb5.mono hB.size)
      have hv2 := hv.mono hB.size
      clear hv hb5 hB
      go_wp2_with fail
      go_ret
      exact ⟨_, rfl, hv2, B5⟩
end Go.Proofs.Ytfpomccgmligbaa
