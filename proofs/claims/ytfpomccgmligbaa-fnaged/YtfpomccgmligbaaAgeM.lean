/- What an aged table knows. -/
import Derived.Test.YtfpomccgmligbaaDTab
import Derived.Deep.QuietTactic
import Derived.BigQuiet
namespace Go.Proofs.Ytfpomccgmligbaa
open Go.RowKit
set_option linter.unusedVariables false
set_option linter.unusedSimpArgs false

theorem entsL_back (A : List Ent) : entsL A.length (fun i => A.getD i default) = A := by
  apply List.ext_getElem
  · simp [entsL]
  · intro i h1 h2
    simp [entsL, List.getD_eq_getElem?_getD, h2]
theorem tab_of_list {A : List Ent} (hl : A.length ≤ 8) (hs : sortedL A) (ho : ∀ y ∈ A, entOk y) : tabOk A.length (fun i => A.getD i default) := by
  have hg : ∀ i (h : i < A.length), A.getD i default = A[i] := fun i h => by simp [List.getD_eq_getElem?_getD, h]
  refine ⟨hl, fun i hi => ⟨?_, fun h0 => ?_⟩⟩
  · show entOk (A.getD i default)
    rw [hg i hi]
    exact ho _ (List.getElem_mem hi)
  · show (A.getD (i - 1) default).m < (A.getD i default).m
    rw [hg i hi, hg (i - 1) (by omega)]
    exact (List.pairwise_iff_getElem.1 hs) (i - 1) i (by omega) hi (by omega)
theorem aged_list {n : Nat} {f : Nat → Ent} {now : Int} (h : tabOk n f) : (agedL (entsL n f) now).length ≤ 8 ∧ sortedL (agedL (entsL n f) now) ∧ ∀ y ∈ agedL (entsL n f) now, entOk y := by
  have hs : (agedL (entsL n f) now).Sublist (entsL n f) := List.filter_sublist
  refine ⟨?_, (entsL_sorted h.2).sub hs, fun y hy => entsL_ok h.2 (hs.subset hy)⟩
  have := hs.length_le
  rw [entsL_len] at this
  have := h.1
  omega
theorem AgedR.few {n : Nat} {f : Nat → Ent} {now : Int} {A : List Ent} (h : AgedR n f now A) : A.length ≤ 8 := by
  by_cases hh : tabOk n f ∧ timeOk now
  · rw [h.good hh.1 hh.2]
    exact (aged_list hh.1).1
  · rw [h.bad hh]; simp
theorem portS_cons (y : Ent) (r : List Ent) (mac t : Int) : portS (y :: r) mac t = if y.m = mac then (if t - y.t ≤ 20 then y.p else -1) else portS r mac t := by
  unfold portS hasM atM
  by_cases e : y.m = mac
  · simp [e]
  · simp [e]
theorem portS_none {r : List Ent} {mac t : Int} (h : ∀ z ∈ r, z.m ≠ mac) : portS r mac t = -1 := by
  unfold portS hasM
  rw [if_neg]
  rintro ⟨h1, _⟩
  simp only [List.any_eq_true, decide_eq_true_eq] at h1
  obtain ⟨z, hz, e⟩ := h1
  exact h z hz e
theorem portS_aged {mac t now : Int} (ht : now ≤ t) : ∀ {L : List Ent}, sortedL L → portS (agedL L now) mac t = portS L mac t
  | [], _ => rfl
  | y :: r, hs => by
    have hr : sortedL r := (List.pairwise_cons.1 hs).2
    have hy : ∀ z ∈ r, y.m < z.m := (List.pairwise_cons.1 hs).1
    have ih := portS_aged (mac := mac) ht hr
    by_cases hk : now - y.t ≤ 20
    · have e : agedL (y :: r) now = y :: agedL r now := by simp [agedL, hk]
      rw [e, portS_cons, portS_cons, ih]
    · have e : agedL (y :: r) now = agedL r now := by simp [agedL, hk]
      rw [e, portS_cons, ih]
      by_cases em : y.m = mac
      · rw [if_pos em, if_neg (by omega)]
        exact portS_none (fun z hz e2 => by have := hy z hz; omega)
      · rw [if_neg em]
theorem port_aged {n : Nat} {f : Nat → Ent} {mac now t r : Int} (h : tabOk n f) (hn : timeOk t) (hle : now ≤ t) (hr : PortR n f mac t r) : PortR (agedL (entsL n f) now).length (fun i => (agedL (entsL n f) now).getD i default) mac t r := by
  obtain ⟨h1, h2, h3⟩ := aged_list (now := now) h
  refine ⟨fun _ _ => ?_, fun hh => absurd ⟨tab_of_list h1 h2 h3, hn⟩ hh⟩
  rw [entsL_back, portS_aged hle (entsL_sorted h.2)]
  exact hr.good h hn
theorem aged_aged {n : Nat} {f : Nat → Ent} {now : Int} (h : tabOk n f) (hn : timeOk now) : AgedR (agedL (entsL n f) now).length (fun i => (agedL (entsL n f) now).getD i default) now (agedL (entsL n f) now) := by
  obtain ⟨h1, h2, h3⟩ := aged_list (now := now) h
  refine ⟨fun _ _ => ?_, fun hh => absurd ⟨tab_of_list h1 h2 h3, hn⟩ hh⟩
  rw [entsL_back]
  unfold agedL
  rw [List.filter_filter]
  simp
theorem bigT_any (a : Option Addr) (len cap : Nat) (w : World) (h : len ≤ maxLen) :
    Calls Try.prog 5 #[.slice a len cap] w fun e w' => e = .returned (.bool (decide (1048576 < (len : Int)))) ∧ w' = w := by
  have hm : (len : Int) ≤ 9223372036854775807 := by unfold maxLen at h; omega
  go_enter Try.func5, Try.ntmps5
  go_wp2
  go_ret
  exact ⟨rfl, rfl⟩
set_option maxHeartbeats 1000000 in
theorem sameTable_any (a1 a2 : Option Addr) (n c1 c2 : Nat) (f : Nat → Ent) (w : World) (hn : n ≤ 1048576) (h1 : RdEnt w a1 n f) (h2 : RdEnt w a2 n f) :
    Calls Try.prog 9 #[.slice a1 n c1, .slice a2 n c2] w fun e w' => e = .returned (.bool true) ∧ Same w w' := by
  go_enter Try.func9, Try.ntmps9
  go_wp2_with fail
  go_loopw [5] (fun i wr => ∃ k : Nat, k ≤ n ∧ i = .int .i64 k ∧ Same w wr) (fun i _ => n - (intOf i).toNat)
  case atStart => exact ⟨0, Nat.zero_le _, rfl, Same.refl _⟩
  case round =>
    obtain ⟨k, hk, rfl, hS⟩ := hrel
    by_cases hlt : k < n
    · obtain ⟨g1, o1, rfl, p1, p2, p3⟩ := h1 k hlt
      obtain ⟨g2, o2, rfl, q1, q2, q3⟩ := h2 k hlt
      rw [← hS.cell] at p1 p2 p3 q1 q2 q3
      clear h1 h2
      have hlt' : (k : Int) < n := by omega
      go_wp2_with fail
      go_quiet (fail)
      go_wp2_with fail
      go_roundw
      case rel => exact ⟨k + 1, by omega, by go_num, hS.drewN _⟩
      case measure => simp [intOf]; omega
    · obtain rfl : k = n := by omega
      go_wp2_with fail
      go_ret
      exact ⟨rfl, hS⟩
end Go.Proofs.Ytfpomccgmligbaa
