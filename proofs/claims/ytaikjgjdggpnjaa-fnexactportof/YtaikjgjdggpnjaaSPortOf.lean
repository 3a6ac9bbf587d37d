/- Where an address is known to be: the specification's answer. -/
import Derived.Test.YtaikjgjdggpnjaaPortOf
import Derived.Test.YtaikjgjdggpnjaaSTabOk
namespace Go.Proofs.Ytaikjgjdggpnjaa
open Go.RowKit
set_option linter.unusedVariables false
set_option linter.unusedSimpArgs false

theorem hasM_of {n k : Nat} {f : Nat → Ent} (hk : k < n) : hasM (f k).m (entsL n f) = true := by
  unfold hasM
  rw [List.any_eq_true]
  exact ⟨f k, List.mem_map.2 ⟨k, List.mem_range.2 hk, rfl⟩, by simp⟩
theorem entsOk.inj {n : Nat} {f : Nat → Ent} (h : entsOk n f) {i j : Nat} (hi : i < n) (hj : j < n) (e : (f i).m = (f j).m) : i = j := by
  rcases Nat.lt_trichotomy i j with h1 | h1 | h1
  · have := h.lt j i h1 hj; omega
  · exact h1
  · have := h.lt i j h1 hi; omega
theorem atM_of {n k : Nat} {f : Nat → Ent} (h : entsOk n f) (hk : k < n) : atM (f k).m (entsL n f) = f k := by
  obtain ⟨h1, h2⟩ := atM_mem (hasM_of (f := f) hk)
  obtain ⟨i, hi, e⟩ := List.mem_map.1 h1
  rw [← e] at h2 ⊢
  rw [h.inj (List.mem_range.1 hi) hk h2]
theorem portS_hit {n k : Nat} {f : Nat → Ent} {mac now : Int} (h : entsOk n f) (hk : k < n) (h1 : (f k).m = mac) (h2 : now - (f k).t ≤ 20) : portS (entsL n f) mac now = (f k).p := by
  subst h1
  unfold portS
  rw [atM_of h hk, if_pos ⟨hasM_of hk, h2⟩]
theorem portS_miss {n : Nat} {f : Nat → Ent} {mac now : Int} (h : ∀ i, i < n → ¬ ((f i).m = mac ∧ now - (f i).t ≤ 20)) : portS (entsL n f) mac now = -1 := by
  unfold portS
  rw [if_neg]
  rintro ⟨h1, h2⟩
  obtain ⟨h3, h4⟩ := atM_mem h1
  obtain ⟨i, hi, e⟩ := List.mem_map.1 h3
  rw [← e] at h4 h2
  exact h i (List.mem_range.1 hi) ⟨h4, h2⟩

set_option maxHeartbeats 1000000 in
theorem sPortOf_any (a : Option Addr) (n cap : Nat) (f : Nat → Ent) (mac now r : Int) (w : World) (hn : n ≤ maxLen) (h : RdEnt w a n f) (hr : PortR n f mac now r) :
    Calls Try.prog 12 #[.slice a n cap, .int .i64 mac, .int .i64 now] w fun e w' => e = .returned (.int .i64 r) ∧ Below w.heap.size w w' := by
  have HR : Hid (RdEnt w a n f) := h
  have HP : Hid (PortR n f mac now r) := hr
  obtain ⟨ok, hok⟩ := tab_dec n f
  have HO : Hid (ok = true ↔ tabOk n f) := hok
  clear h hr hok
  go_enter Try.func12, Try.ntmps12
  go_wp2_with fail
  refine (sTableOk_any a n cap f _ hn HR.out ok HO.out).mono ?_
  rintro e w1 ⟨rfl, B1⟩
  cases ok
  · have HF : Hid (r = -1) := HP.out.bad (fun hh => absurd (HO.out.2 hh.1) (by simp))
    go_wp2_with fail
    go_ret
    exact ⟨ret_int HF.out.symm, B1⟩
  · have HT : Hid (tabOk n f) := HO.out.1 rfl
    go_wp2_with fail
    refine (l1In_any _ _ _ _).mono ?_
    rintro e w' ⟨rfl, rfl⟩
    by_cases ht : 0 ≤ now ∧ now ≤ 1000000000
    · have HTm : Hid (timeOk now) := ht
      have h8 := HT.out.1
      rw [decide_eq_true ht]
      go_wp2_with fail
      go_loop [7] (fun i => ∃ k : Nat, k ≤ n ∧ i = .int .i64 k ∧ ∀ i, i < k → ¬ ((f i).m = mac ∧ now - (f i).t ≤ 20)) (fun i => n - (intOf i).toNat)
      case atStart => exact ⟨0, Nat.zero_le _, rfl, fun i hi => by omega⟩
      case round =>
        obtain ⟨k, hk, rfl, hall⟩ := hrel
        have HA : Hid (∀ i, i < k → ¬ ((f i).m = mac ∧ now - (f i).t ≤ 20)) := hall
        clear hall
        by_cases hlt : k < n
        · have hlt' : (k : Int) < n := by omega
          obtain ⟨g, o, rfl, c1, c2, c3⟩ := (HR.out.up B1) k hlt
          have hx := (HT.out.2 k hlt).1
          have HH : Hid ((f k).m = mac → now - (f k).t ≤ 20 → r = (f k).p) := fun e1 e2 => by
            rw [HP.out.good HT.out HTm.out, portS_hit HT.out.2 hlt e1 e2]
          have HS : Hid (¬ ((f k).m = mac ∧ now - (f k).t ≤ 20) → ∀ i, i < k + 1 → ¬ ((f i).m = mac ∧ now - (f i).t ≤ 20)) := fun hh i hi => by
            by_cases e : i = k
            · subst e; exact hh
            · exact HA.out i (by omega)
          generalize f k = x at *
          obtain ⟨m, p, t⟩ := x
          obtain ⟨x1, x2, x3⟩ := hx
          dsimp only at c1 c2 c3 x1 x2 x3 HH HS
          have hw : IntKind.i64.wrap (now - t) = now - t := wrapE _ (by omega) (by omega)
          by_cases hm : m = mac
          · have hmq : (m == mac) = true := by simp [hm]
            by_cases hs : now - t ≤ 20
            · have HF : Hid (r = p) := HH.out hm hs
              clear hm HH HS x1 x2 x3
              go_wp2_with fail
              go_ret
              exact ⟨ret_int HF.out.symm, B1⟩
            · have HS2 : Hid (∀ i, i < k + 1 → ¬ ((f i).m = mac ∧ now - (f i).t ≤ 20)) := HS.out (fun hh => hs hh.2)
              clear hm HH HS x1 x2 x3
              go_wp2_with fail
              go_round
              case rel => exact ⟨k + 1, by omega, by go_num, HS2.out⟩
              case measure => simp [intOf]; omega
          · have hmq : (m == mac) = false := by simp [hm]
            have HS2 : Hid (∀ i, i < k + 1 → ¬ ((f i).m = mac ∧ now - (f i).t ≤ 20)) := HS.out (fun hh => hm hh.1)
            clear hm HH HS x1 x2 x3
            go_wp2_with fail
            go_round
            case rel => exact ⟨k + 1, by omega, by go_num, HS2.out⟩
            case measure => simp [intOf]; omega
        · obtain rfl : k = n := by omega
          have HF : Hid (r = -1) := by rw [Hid, HP.out.good HT.out HTm.out, portS_miss HA.out]
          go_wp2_with fail
          go_ret
          exact ⟨ret_int HF.out.symm, B1⟩
    · have HF : Hid (r = -1) := HP.out.bad (fun hh => ht hh.2)
      rw [decide_eq_false ht]
      clear ht
      go_wp2_with fail
      go_ret
      exact ⟨ret_int HF.out.symm, B1⟩
end Go.Proofs.Ytaikjgjdggpnjaa
