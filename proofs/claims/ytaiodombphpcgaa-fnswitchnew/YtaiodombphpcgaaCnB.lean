/- Limits behind their interface: what each may hold; both sides tell whether a configuration is right. -/
import Derived.Test.YtaiodombphpcgaaCnA
namespace Go.Proofs.Ytaiodombphpcgaa
open Go.RowKit
set_option linter.unusedVariables false
set_option linter.unusedSimpArgs false

theorem lossyMost_any (C : Cfg) (w : World) :
    Calls Try.prog 96 #[.agg #[], .agg C.cells] w fun e w' => e = .returned (.int .i64 C.lo) ∧ Below w.heap.size w w' := by
  have HA : Hid (∀ o o', Below w.heap.size w ((w.alloc o).alloc o')) := fun o o' => ((Below.refl _ _).alloc (Nat.le_refl _) _).alloc (by simp) _
  unfold Cfg.cells
  go_enter Try.func96, Try.ntmps96
  go_wp2_with fail
  go_ret
  exact ⟨rfl, HA.out _ _⟩
theorem portMost_any (C : Cfg) (i : Int) (w : World) (h1 : -1000 ≤ C.xo) (h2 : C.xo ≤ 1000) (h3 : -1000 ≤ C.hd) (h4 : C.hd ≤ 1000) :
    Calls Try.prog 99 #[.agg #[.int .i64 i], .agg C.cells] w fun e w' => e = .returned (.int .i64 (C.xo + C.hd)) ∧ Below w.heap.size w w' := by
  have HA : Hid (∀ o o', Below w.heap.size w ((w.alloc o).alloc o')) := fun o o' => ((Below.refl _ _).alloc (Nat.le_refl _) _).alloc (by simp) _
  have e1 : IntKind.i64.wrap (C.xo + C.hd) = C.xo + C.hd := wrapC _ (by omega) (by omega)
  unfold Cfg.cells
  go_enter Try.func99, Try.ntmps99
  go_wp2_with fail
  go_ret
  exact ⟨ret_int (by first | rfl | exact e1 | exact e1.symm), HA.out _ _⟩
def mostV (C : Cfg) : Nat → Int
  | 0 => C.lo
  | _ + 1 => C.xo + C.hd
def sumP (C : Cfg) : Nat → Int
  | 0 => 0
  | k + 1 => sumP C k + mostV C k
theorem most_le {C : Cfg} (h : C.Num) (k : Nat) : 0 ≤ mostV C k ∧ mostV C k ≤ 2000 := by
  have := h.xo; have := h.hd; have := h.lo
  cases k <;> simp only [mostV] <;> omega
theorem sumP_le {C : Cfg} (h : C.Num) (k : Nat) : 0 ≤ sumP C k ∧ sumP C k ≤ 2000 * (k : Int) := by
  induction k with
  | zero => simp [sumP]
  | succ k ih =>
    have := most_le h k
    simp only [sumP]
    omega
theorem sumP_all {C : Cfg} {n : Nat} (h1 : 2 ≤ n) (h2 : n ≤ 4) : sumP C (n + 1) = (n : Int) * (C.xo + C.hd) + C.lo := by
  have : n = 2 ∨ n = 3 ∨ n = 4 := by omega
  rcases this with rfl | rfl | rfl <;> simp only [sumP, mostV] <;> omega
set_option maxHeartbeats 1000000 in
theorem promised_any (C : Cfg) (n : Nat) (w : World) (hn : n ≤ 4) (hp : C.p = (n : Int)) (hN : C.Num) :
    Calls Try.prog 22 #[.agg C.cells] w fun e w' => e = .returned (.int .i64 (sumP C (n + 1))) ∧ Below w.heap.size w w' := by
  have HN : Hid C.Num := hN
  have HP : Hid (C.p = (n : Int)) := hp
  have hB0 : Below (w.heap.size + 1) (w.alloc (.cells #[.int .i64 C.p, .int .i64 C.c, .int .i64 C.xo, .int .i64 C.xn, .int .i64 C.hd, .int .i64 C.lo, .int .i64 C.dl] 25)) (w.alloc (.cells #[.int .i64 C.p, .int .i64 C.c, .int .i64 C.xo, .int .i64 C.xn, .int .i64 C.hd, .int .i64 C.lo, .int .i64 C.dl] 25)) := Below.refl _ _
  clear hN hp
  unfold Cfg.cells
  go_enter Try.func22, Try.ntmps22
  go_wp2_with fail
  refine (limitsOf_any C n _ hn HP.out).mono ?_
  rintro e w1 ⟨⟨g, cap, rfl, hown⟩, hb1⟩
  have hB1 := next hB0 hb1
  have HR : Hid (RdRow w1 (some ⟨g, 0, none⟩) (n + 1) limV) := lims_read hown
  clear hb1 hB0 hown
  go_wp2_with fail
  go_loopw [3, 9] (fun s i wr => ∃ k : Nat, k ≤ n + 1 ∧ i = .int .i64 k ∧ s = .int .i64 (sumP C k) ∧ Below w1.heap.size w1 wr) (fun _ i _ => n + 1 - (intOf i).toNat)
  case atStart => exact ⟨0, Nat.zero_le _, rfl, rfl, Below.refl _ _⟩
  case round =>
    obtain ⟨k, hk, rfl, rfl, hBr⟩ := hrel
    have hB := next hB1 hBr
    have cb := boxed hB
    have HS : Hid (0 ≤ sumP C k ∧ sumP C k ≤ 2000 * (k : Int)) := sumP_le HN.out k
    by_cases hlt : k < n + 1
    · have hlt' : (k : Int) < ((n + 1 : Nat) : Int) := by omega
      obtain ⟨g', o', ea, c1⟩ := (HR.out.up hBr) k hlt
      cases ea
      rw [Nat.zero_add] at c1
      have HM : Hid (IntKind.i64.wrap (sumP C k + mostV C k) = sumP C (k + 1)) := by
        have := HS.out
        have := most_le HN.out k
        exact wrapC _ (by omega) (by omega)
      cases k with
      | zero =>
        dsimp only [limV, lossyV] at c1
        have e1 : IntKind.i64.wrap (sumP C 0 + C.lo) = sumP C 1 := HM.out
        go_wp2_with fail
        refine (lossyMost_any C _).mono ?_
        rintro e w2 ⟨rfl, hb2⟩
        have hBr2 := hBr.trans (hb2.mono hBr.size)
        clear hBr hb2 hB cb c1 HM
        go_wp2_with fail
        go_roundw
        case rel => exact ⟨1, by omega, by first | rfl | go_num, by first | rfl | (rw [e1]), hBr2⟩
        case measure => simp [intOf]
      | succ j =>
        dsimp only [limV, portV] at c1
        have e1 : IntKind.i64.wrap (sumP C (j + 1) + (C.xo + C.hd)) = sumP C (j + 1 + 1) := HM.out
        go_wp2_with fail
        refine (portMost_any C _ _ (by have := HN.out.xo; omega) (by have := HN.out.xo; omega) (by have := HN.out.hd; omega) (by have := HN.out.hd; omega)).mono ?_
        rintro e w2 ⟨rfl, hb2⟩
        have hBr2 := hBr.trans (hb2.mono hBr.size)
        clear hBr hb2 hB cb c1 HM
        go_wp2_with fail
        go_roundw
        case rel => exact ⟨j + 1 + 1, by omega, by go_num, by first | rfl | (rw [e1]), hBr2⟩
        case measure => simp [intOf]; omega
    · obtain rfl : k = n + 1 := by omega
      have B := under hB
      go_wp2_with fail
      go_ret
      exact ⟨rfl, B⟩
set_option maxHeartbeats 2000000 in
theorem iConfigOk_any (C : Cfg) (w : World) (ok : Bool) (hok : ok = true ↔ C.Ok) :
    Calls Try.prog 10 #[.agg C.cells] w fun e w' => e = .returned (.bool ok) ∧ Below w.heap.size w w' := by
  obtain ⟨b, hb⟩ := ok_decC C.Num
  have HO : Hid (ok = true ↔ C.Ok) := hok
  have hB : Below (w.heap.size + 1) (w.alloc (.cells #[.int .i64 C.p, .int .i64 C.c, .int .i64 C.xo, .int .i64 C.xn, .int .i64 C.hd, .int .i64 C.lo, .int .i64 C.dl] 25)) (w.alloc (.cells #[.int .i64 C.p, .int .i64 C.c, .int .i64 C.xo, .int .i64 C.xn, .int .i64 C.hd, .int .i64 C.lo, .int .i64 C.dl] 25)) := Below.refl _ _
  have cb := boxed hB
  clear hok
  unfold Cfg.cells
  cases b
  · have HF : Hid (ok = false) := by
      show ok = false
      rw [Bool.eq_false_iff]
      intro e
      have := hb.2 (HO.out.1 e).num
      cases this
    have HNb : Hid (false = true ↔ C.Num) := hb
    clear hb
    go_enter Try.func10, Try.ntmps10
    go_wp2_with fail
    refine wp_region_held_drew (S := fun w' => ∀ o, w'.cell? ⟨w.heap.size, o, none⟩ = (#[.int .i64 C.p, .int .i64 C.c, .int .i64 C.xo, .int .i64 C.xn, .int .i64 C.hd, .int .i64 C.lo, .int .i64 C.dl] : Array Value)[o]?) (by kernel_rfl) cb (fun hHeld => ?_)
    refine takeD (i := 0) (some 3) (v := ?_) rfl rfl (by kernel_rfl) (by kernel_rfl) (by kernel_rfl) (fun _ _ _ h => h) (by kernel_rfl) ?_ (by assumption) ?_
    rotate_left
    · intro wx hSw
      try dsimp only at hSw
      go_simp
      try (with_reducible rfl)
    try simp only [Act.put, List.setIfInBounds_toArray, List.set_cons_zero, List.set_cons_succ]
    refine wpAnyH_ready (rs := [1]) (by kernel_rfl) (by simp) ?_
    refine AllReadyH.cons rfl (fun K hK => ?_) AllReadyH.nil
    go_simp
    have hB := hB.drew
    refine (iNum_any C _ false HNb.out).mono ?_
    rintro e w1 ⟨rfl, hb1⟩
    replace hB := next hB hb1
    have cb := boxed hB
    clear hb1
    go_wp2_with fail
    refine hK.out _ _ cb (fun hHeld => ?_)
    clear hK K
    try simp only [Act.put, List.setIfInBounds_toArray, List.set_cons_zero, List.set_cons_succ]
    refine takeD (i := 2) (some 5) (v := ?_) rfl rfl (by kernel_rfl) (by kernel_rfl) (by kernel_rfl) (fun _ _ _ h => h) (by kernel_rfl) ?_ (by assumption) ?_
    rotate_left
    · intro wx hSw
      try dsimp only at hSw
      go_simp
      try (with_reducible rfl)
    try simp only [Act.put, List.setIfInBounds_toArray, List.set_cons_zero, List.set_cons_succ]
    refine skipD (i := 3) (some 6) rfl rfl (by kernel_rfl) (by kernel_rfl) (by kernel_rfl) (fun _ _ _ h => h) (by kernel_rfl) (by assumption) ?_
    try simp only [Act.put, List.setIfInBounds_toArray, List.set_cons_zero, List.set_cons_succ]
    refine skipD (i := 4) (some 7) rfl rfl (by kernel_rfl) (by kernel_rfl) (by kernel_rfl) (fun _ _ _ h => h) (by kernel_rfl) (by assumption) ?_
    try simp only [Act.put, List.setIfInBounds_toArray, List.set_cons_zero, List.set_cons_succ]
    refine skipD (i := 5) (some 8) rfl rfl (by kernel_rfl) (by kernel_rfl) (by kernel_rfl) (fun _ _ _ h => h) (by kernel_rfl) (by assumption) ?_
    try simp only [Act.put, List.setIfInBounds_toArray, List.set_cons_zero, List.set_cons_succ]
    refine skipD (i := 6) (some 9) rfl rfl (by kernel_rfl) (by kernel_rfl) (by kernel_rfl) (fun _ _ _ h => h) (by kernel_rfl) (by assumption) ?_
    try simp only [Act.put, List.setIfInBounds_toArray, List.set_cons_zero, List.set_cons_succ]
    refine skipD (i := 7) (some 10) rfl rfl (by kernel_rfl) (by kernel_rfl) (by kernel_rfl) (fun _ _ _ h => h) (by kernel_rfl) (by assumption) ?_
    try simp only [Act.put, List.setIfInBounds_toArray, List.set_cons_zero, List.set_cons_succ]
    refine takeD (i := 8) (some 11) (v := ?_) rfl rfl (by kernel_rfl) (by kernel_rfl) (by kernel_rfl) (fun _ _ _ h => h) (by kernel_rfl) ?_ (by assumption) ?_
    rotate_left
    · intro wx hSw
      try dsimp only at hSw
      go_simp
      try (with_reducible rfl)
    try simp only [Act.put, List.setIfInBounds_toArray, List.set_cons_zero, List.set_cons_succ]
    refine takeD (i := 9) (some 12) (v := ?_) rfl rfl (by kernel_rfl) (by kernel_rfl) (by kernel_rfl) (fun _ _ _ h => h) (by kernel_rfl) ?_ (by assumption) ?_
    rotate_left
    · intro wx hSw
      try dsimp only at hSw
      go_simp
      try (with_reducible rfl)
    try simp only [Act.put, List.setIfInBounds_toArray, List.set_cons_zero, List.set_cons_succ]
    refine skipD (i := 10) (some 13) rfl rfl (by kernel_rfl) (by kernel_rfl) (by kernel_rfl) (fun _ _ _ h => h) (by kernel_rfl) (by assumption) ?_
    try simp only [Act.put, List.setIfInBounds_toArray, List.set_cons_zero, List.set_cons_succ]
    refine skipD (i := 12) (some 15) rfl rfl (by kernel_rfl) (by kernel_rfl) (by kernel_rfl) (fun _ _ _ h => h) (by kernel_rfl) (by assumption) ?_
    try simp only [Act.put, List.setIfInBounds_toArray, List.set_cons_zero, List.set_cons_succ]
    refine skipD (i := 13) (some 16) rfl rfl (by kernel_rfl) (by kernel_rfl) (by kernel_rfl) (fun _ _ _ h => h) (by kernel_rfl) (by assumption) ?_
    try simp only [Act.put, List.setIfInBounds_toArray, List.set_cons_zero, List.set_cons_succ]
    refine skipD (i := 11) (some 14) rfl rfl (by kernel_rfl) (by kernel_rfl) (by kernel_rfl) (fun _ _ _ h => h) (by kernel_rfl) (by assumption) ?_
    try simp only [Act.put, List.setIfInBounds_toArray, List.set_cons_zero, List.set_cons_succ]
    refine skipD (i := 14) (some 17) rfl rfl (by kernel_rfl) (by kernel_rfl) (by kernel_rfl) (fun _ _ _ h => h) (by kernel_rfl) (by assumption) ?_
    try simp only [Act.put, List.setIfInBounds_toArray, List.set_cons_zero, List.set_cons_succ]
    refine takeD (i := 15) (some 18) (v := ?_) rfl rfl (by kernel_rfl) (by kernel_rfl) (by kernel_rfl) (fun _ _ _ h => h) (by kernel_rfl) ?_ (by assumption) ?_
    rotate_left
    · intro wx hSw
      try dsimp only at hSw
      go_simp
      try (with_reducible rfl)
    try simp only [Act.put, List.setIfInBounds_toArray, List.set_cons_zero, List.set_cons_succ]
    refine wpAnyH_ready (rs := [16]) (by kernel_rfl) (by simp) ?_
    refine AllReadyH.cons rfl (fun K hK => ?_) AllReadyH.nil
    go_simp
    refine hK.out _ _ cb (fun hHeld => ?_)
    clear hK K
    try simp only [Act.put, List.setIfInBounds_toArray, List.set_cons_zero, List.set_cons_succ]
    refine wpAnyH_done (by kernel_rfl) ?_ _
    have B := under hB
    go_wp2_with fail
    go_ret
    exact ⟨ret_bool HF.out.symm, B⟩
  have HNm : Hid C.Num := hb.1 rfl
  have HNb : Hid (true = true ↔ C.Num) := hb
  clear hb
  by_cases hh : C.hd ≥ 5 * (2 * C.dl + 1)
  rotate_left
  · have HF : Hid (ok = false) := by
      show ok = false
      rw [Bool.eq_false_iff]
      intro e
      exact hh (HO.out.1 e).head
    have hh' : decide (5 * (2 * C.dl + 1) ≤ C.hd) = false := decide_eq_false hh
    go_enter Try.func10, Try.ntmps10
    go_wp2_with fail
    refine wp_region_held_drew (S := fun w' => ∀ o, w'.cell? ⟨w.heap.size, o, none⟩ = (#[.int .i64 C.p, .int .i64 C.c, .int .i64 C.xo, .int .i64 C.xn, .int .i64 C.hd, .int .i64 C.lo, .int .i64 C.dl] : Array Value)[o]?) (by kernel_rfl) cb (fun hHeld => ?_)
    refine takeD (i := 0) (some 3) (v := ?_) rfl rfl (by kernel_rfl) (by kernel_rfl) (by kernel_rfl) (fun _ _ _ h => h) (by kernel_rfl) ?_ (by assumption) ?_
    rotate_left
    · intro wx hSw
      try dsimp only at hSw
      go_simp
      try (with_reducible rfl)
    try simp only [Act.put, List.setIfInBounds_toArray, List.set_cons_zero, List.set_cons_succ]
    refine wpAnyH_ready (rs := [1]) (by kernel_rfl) (by simp) ?_
    refine AllReadyH.cons rfl (fun K hK => ?_) AllReadyH.nil
    go_simp
    have hB := hB.drew
    refine (iNum_any C _ true ⟨fun _ => HNm.out, fun _ => rfl⟩).mono ?_
    rintro e w1 ⟨rfl, hb1⟩
    replace hB := next hB hb1
    have cb := boxed hB
    clear hb1
    go_wp2_with fail
    refine hK.out _ _ cb (fun hHeld => ?_)
    clear hK K
    try simp only [Act.put, List.setIfInBounds_toArray, List.set_cons_zero, List.set_cons_succ]
    refine takeD (i := 2) (some 5) (v := ?_) rfl rfl (by kernel_rfl) (by kernel_rfl) (by kernel_rfl) (fun _ _ _ h => h) (by kernel_rfl) ?_ (by assumption) ?_
    rotate_left
    · intro wx hSw
      try dsimp only at hSw
      go_simp
      try (with_reducible rfl)
    try simp only [Act.put, List.setIfInBounds_toArray, List.set_cons_zero, List.set_cons_succ]
    refine takeD (i := 3) (some 6) (v := ?_) rfl rfl (by kernel_rfl) (by kernel_rfl) (by kernel_rfl) (fun _ _ _ h => h) (by kernel_rfl) ?_ (by assumption) ?_
    rotate_left
    · intro wx hSw
      try dsimp only at hSw
      go_simp
      try (with_reducible rfl)
    try simp only [Act.put, List.setIfInBounds_toArray, List.set_cons_zero, List.set_cons_succ]
    refine takeD (i := 4) (some 7) (v := ?_) rfl rfl (by kernel_rfl) (by kernel_rfl) (by kernel_rfl) (fun _ _ _ h => h) (by kernel_rfl) ?_ (by assumption) ?_
    rotate_left
    · intro wx hSw
      try dsimp only at hSw
      go_simp
      try (with_reducible rfl)
    try simp only [Act.put, List.setIfInBounds_toArray, List.set_cons_zero, List.set_cons_succ]
    refine takeD (i := 5) (some 8) (v := ?_) rfl rfl (by kernel_rfl) (by kernel_rfl) (by kernel_rfl) (fun _ _ _ h => h) (by kernel_rfl) ?_ (by assumption) ?_
    rotate_left
    · intro wx hSw
      try dsimp only at hSw
      go_simp
      try (with_reducible rfl)
    try simp only [Act.put, List.setIfInBounds_toArray, List.set_cons_zero, List.set_cons_succ]
    refine wpAnyH_ready (rs := [6]) (by kernel_rfl) (by simp) ?_
    refine AllReadyH.cons rfl (fun K hK => ?_) AllReadyH.nil
    go_simp
    refine (headNeeded_any C _ HNm.out.dl.1 HNm.out.dl.2).mono ?_
    rintro e w2 ⟨rfl, hb2⟩
    replace hB := next hB hb2
    replace cb := boxed hB
    clear hb2
    go_wp2_with fail
    refine hK.out _ _ cb (fun hHeld => ?_)
    clear hK K
    try simp only [Act.put, List.setIfInBounds_toArray, List.set_cons_zero, List.set_cons_succ]
    refine takeD (i := 7) (some 10) (v := ?_) rfl rfl (by kernel_rfl) (by kernel_rfl) (by kernel_rfl) (fun _ _ _ h => h) (by kernel_rfl) ?_ (by assumption) ?_
    rotate_left
    · intro wx hSw
      try dsimp only at hSw
      go_simp
      try (with_reducible rfl)
    try simp only [Act.put, List.setIfInBounds_toArray, List.set_cons_zero, List.set_cons_succ]
    refine takeD (i := 8) (some 11) (v := ?_) rfl rfl (by kernel_rfl) (by kernel_rfl) (by kernel_rfl) (fun _ _ _ h => h) (by kernel_rfl) ?_ (by assumption) ?_
    rotate_left
    · intro wx hSw
      try dsimp only at hSw
      go_simp
      try (with_reducible rfl)
    try simp only [Act.put, List.setIfInBounds_toArray, List.set_cons_zero, List.set_cons_succ]
    refine takeD (i := 9) (some 12) (v := ?_) rfl rfl (by kernel_rfl) (by kernel_rfl) (by kernel_rfl) (fun _ _ _ h => h) (by kernel_rfl) ?_ (by assumption) ?_
    rotate_left
    · intro wx hSw
      try dsimp only at hSw
      go_simp
      try (with_reducible rfl)
    try simp only [Act.put, List.setIfInBounds_toArray, List.set_cons_zero, List.set_cons_succ]
    refine skipD (i := 10) (some 13) rfl rfl (by kernel_rfl) (by kernel_rfl) (by kernel_rfl) (fun _ _ _ h => h) (by kernel_rfl) (by assumption) ?_
    try simp only [Act.put, List.setIfInBounds_toArray, List.set_cons_zero, List.set_cons_succ]
    refine skipD (i := 12) (some 15) rfl rfl (by kernel_rfl) (by kernel_rfl) (by kernel_rfl) (fun _ _ _ h => h) (by kernel_rfl) (by assumption) ?_
    try simp only [Act.put, List.setIfInBounds_toArray, List.set_cons_zero, List.set_cons_succ]
    refine skipD (i := 13) (some 16) rfl rfl (by kernel_rfl) (by kernel_rfl) (by kernel_rfl) (fun _ _ _ h => h) (by kernel_rfl) (by assumption) ?_
    try simp only [Act.put, List.setIfInBounds_toArray, List.set_cons_zero, List.set_cons_succ]
    refine skipD (i := 11) (some 14) rfl rfl (by kernel_rfl) (by kernel_rfl) (by kernel_rfl) (fun _ _ _ h => h) (by kernel_rfl) (by assumption) ?_
    try simp only [Act.put, List.setIfInBounds_toArray, List.set_cons_zero, List.set_cons_succ]
    refine skipD (i := 14) (some 17) rfl rfl (by kernel_rfl) (by kernel_rfl) (by kernel_rfl) (fun _ _ _ h => h) (by kernel_rfl) (by assumption) ?_
    try simp only [Act.put, List.setIfInBounds_toArray, List.set_cons_zero, List.set_cons_succ]
    refine takeD (i := 15) (some 18) (v := ?_) rfl rfl (by kernel_rfl) (by kernel_rfl) (by kernel_rfl) (fun _ _ _ h => h) (by kernel_rfl) ?_ (by assumption) ?_
    rotate_left
    · intro wx hSw
      try dsimp only at hSw
      go_simp
      try (with_reducible rfl)
    try simp only [Act.put, List.setIfInBounds_toArray, List.set_cons_zero, List.set_cons_succ]
    refine wpAnyH_ready (rs := [16]) (by kernel_rfl) (by simp) ?_
    refine AllReadyH.cons rfl (fun K hK => ?_) AllReadyH.nil
    go_simp
    refine hK.out _ _ cb (fun hHeld => ?_)
    clear hK K
    try simp only [Act.put, List.setIfInBounds_toArray, List.set_cons_zero, List.set_cons_succ]
    refine wpAnyH_done (by kernel_rfl) ?_ _
    have B := under hB
    go_wp2_with fail
    go_ret
    exact ⟨ret_bool HF.out.symm, B⟩
  · have hh' : decide (5 * (2 * C.dl + 1) ≤ C.hd) = true := decide_eq_true hh
    have HH : Hid (C.hd ≥ 5 * (2 * C.dl + 1)) := hh
    obtain ⟨n, hn2, hn4, hpn⟩ : ∃ n : Nat, 2 ≤ n ∧ n ≤ 4 ∧ C.p = (n : Int) := ⟨C.p.toNat, by have := HNm.out.p; omega, by have := HNm.out.p; omega, by have := HNm.out.p; omega⟩
    have HP : Hid (C.p = (n : Int)) := hpn
    have HE : Hid (decide (sumP C (n + 1) ≤ C.c) = ok) := by
      rw [Hid, Bool.eq_iff_iff, HO.out, sumP_all hn2 hn4, ← hpn]
      simp only [decide_eq_true_eq]
      exact ⟨fun h => ⟨HNm.out, HH.out, h⟩, fun h => h.sum⟩
    clear hh hpn
    go_enter Try.func10, Try.ntmps10
    go_wp2_with fail
    refine wp_region_held_drew (S := fun w' => ∀ o, w'.cell? ⟨w.heap.size, o, none⟩ = (#[.int .i64 C.p, .int .i64 C.c, .int .i64 C.xo, .int .i64 C.xn, .int .i64 C.hd, .int .i64 C.lo, .int .i64 C.dl] : Array Value)[o]?) (by kernel_rfl) cb (fun hHeld => ?_)
    refine takeD (i := 0) (some 3) (v := ?_) rfl rfl (by kernel_rfl) (by kernel_rfl) (by kernel_rfl) (fun _ _ _ h => h) (by kernel_rfl) ?_ (by assumption) ?_
    rotate_left
    · intro wx hSw
      try dsimp only at hSw
      go_simp
      try (with_reducible rfl)
    try simp only [Act.put, List.setIfInBounds_toArray, List.set_cons_zero, List.set_cons_succ]
    refine wpAnyH_ready (rs := [1]) (by kernel_rfl) (by simp) ?_
    refine AllReadyH.cons rfl (fun K hK => ?_) AllReadyH.nil
    go_simp
    have hB := hB.drew
    refine (iNum_any C _ true ⟨fun _ => HNm.out, fun _ => rfl⟩).mono ?_
    rintro e w1 ⟨rfl, hb1⟩
    replace hB := next hB hb1
    have cb := boxed hB
    clear hb1
    go_wp2_with fail
    refine hK.out _ _ cb (fun hHeld => ?_)
    clear hK K
    try simp only [Act.put, List.setIfInBounds_toArray, List.set_cons_zero, List.set_cons_succ]
    refine takeD (i := 2) (some 5) (v := ?_) rfl rfl (by kernel_rfl) (by kernel_rfl) (by kernel_rfl) (fun _ _ _ h => h) (by kernel_rfl) ?_ (by assumption) ?_
    rotate_left
    · intro wx hSw
      try dsimp only at hSw
      go_simp
      try (with_reducible rfl)
    try simp only [Act.put, List.setIfInBounds_toArray, List.set_cons_zero, List.set_cons_succ]
    refine takeD (i := 3) (some 6) (v := ?_) rfl rfl (by kernel_rfl) (by kernel_rfl) (by kernel_rfl) (fun _ _ _ h => h) (by kernel_rfl) ?_ (by assumption) ?_
    rotate_left
    · intro wx hSw
      try dsimp only at hSw
      go_simp
      try (with_reducible rfl)
    try simp only [Act.put, List.setIfInBounds_toArray, List.set_cons_zero, List.set_cons_succ]
    refine takeD (i := 4) (some 7) (v := ?_) rfl rfl (by kernel_rfl) (by kernel_rfl) (by kernel_rfl) (fun _ _ _ h => h) (by kernel_rfl) ?_ (by assumption) ?_
    rotate_left
    · intro wx hSw
      try dsimp only at hSw
      go_simp
      try (with_reducible rfl)
    try simp only [Act.put, List.setIfInBounds_toArray, List.set_cons_zero, List.set_cons_succ]
    refine takeD (i := 5) (some 8) (v := ?_) rfl rfl (by kernel_rfl) (by kernel_rfl) (by kernel_rfl) (fun _ _ _ h => h) (by kernel_rfl) ?_ (by assumption) ?_
    rotate_left
    · intro wx hSw
      try dsimp only at hSw
      go_simp
      try (with_reducible rfl)
    try simp only [Act.put, List.setIfInBounds_toArray, List.set_cons_zero, List.set_cons_succ]
    refine wpAnyH_ready (rs := [6]) (by kernel_rfl) (by simp) ?_
    refine AllReadyH.cons rfl (fun K hK => ?_) AllReadyH.nil
    go_simp
    refine (headNeeded_any C _ HNm.out.dl.1 HNm.out.dl.2).mono ?_
    rintro e w2 ⟨rfl, hb2⟩
    replace hB := next hB hb2
    replace cb := boxed hB
    clear hb2
    go_wp2_with fail
    refine hK.out _ _ cb (fun hHeld => ?_)
    clear hK K
    try simp only [Act.put, List.setIfInBounds_toArray, List.set_cons_zero, List.set_cons_succ]
    refine takeD (i := 7) (some 10) (v := ?_) rfl rfl (by kernel_rfl) (by kernel_rfl) (by kernel_rfl) (fun _ _ _ h => h) (by kernel_rfl) ?_ (by assumption) ?_
    rotate_left
    · intro wx hSw
      try dsimp only at hSw
      go_simp
      try (with_reducible rfl)
    try simp only [Act.put, List.setIfInBounds_toArray, List.set_cons_zero, List.set_cons_succ]
    refine takeD (i := 8) (some 11) (v := ?_) rfl rfl (by kernel_rfl) (by kernel_rfl) (by kernel_rfl) (fun _ _ _ h => h) (by kernel_rfl) ?_ (by assumption) ?_
    rotate_left
    · intro wx hSw
      try dsimp only at hSw
      go_simp
      try (with_reducible rfl)
    try simp only [Act.put, List.setIfInBounds_toArray, List.set_cons_zero, List.set_cons_succ]
    refine takeD (i := 9) (some 12) (v := ?_) rfl rfl (by kernel_rfl) (by kernel_rfl) (by kernel_rfl) (fun _ _ _ h => h) (by kernel_rfl) ?_ (by assumption) ?_
    rotate_left
    · intro wx hSw
      try dsimp only at hSw
      go_simp
      try (with_reducible rfl)
    try simp only [Act.put, List.setIfInBounds_toArray, List.set_cons_zero, List.set_cons_succ]
    refine takeD (i := 10) (some 13) (v := ?_) rfl rfl (by kernel_rfl) (by kernel_rfl) (by kernel_rfl) (fun _ _ _ h => h) (by kernel_rfl) ?_ (by assumption) ?_
    rotate_left
    · intro wx hSw
      try dsimp only at hSw
      go_simp
      try (with_reducible rfl)
    try simp only [Act.put, List.setIfInBounds_toArray, List.set_cons_zero, List.set_cons_succ]
    refine takeD (i := 12) (some 15) (v := ?_) rfl rfl (by kernel_rfl) (by kernel_rfl) (by kernel_rfl) (fun _ _ _ h => h) (by kernel_rfl) ?_ (by assumption) ?_
    rotate_left
    · intro wx hSw
      try dsimp only at hSw
      go_simp
      try (with_reducible rfl)
    try simp only [Act.put, List.setIfInBounds_toArray, List.set_cons_zero, List.set_cons_succ]
    refine takeD (i := 13) (some 16) (v := ?_) rfl rfl (by kernel_rfl) (by kernel_rfl) (by kernel_rfl) (fun _ _ _ h => h) (by kernel_rfl) ?_ (by assumption) ?_
    rotate_left
    · intro wx hSw
      try dsimp only at hSw
      go_simp
      try (with_reducible rfl)
    try simp only [Act.put, List.setIfInBounds_toArray, List.set_cons_zero, List.set_cons_succ]
    refine wpAnyH_ready (rs := [11]) (by kernel_rfl) (by simp) ?_
    refine AllReadyH.cons rfl (fun K hK => ?_) AllReadyH.nil
    go_simp
    refine (promised_any C n _ hn4 HP.out HNm.out).mono ?_
    rintro e w3 ⟨rfl, hb3⟩
    replace hB := next hB hb3
    replace cb := boxed hB
    clear hb3
    go_wp2_with fail
    refine hK.out _ _ cb (fun hHeld => ?_)
    clear hK K
    try simp only [Act.put, List.setIfInBounds_toArray, List.set_cons_zero, List.set_cons_succ]
    refine takeD (i := 14) (some 17) (v := ?_) rfl rfl (by kernel_rfl) (by kernel_rfl) (by kernel_rfl) (fun _ _ _ h => h) (by kernel_rfl) ?_ (by assumption) ?_
    rotate_left
    · intro wx hSw
      try dsimp only at hSw
      go_simp
      try (with_reducible rfl)
    try simp only [Act.put, List.setIfInBounds_toArray, List.set_cons_zero, List.set_cons_succ]
    refine takeD (i := 15) (some 18) (v := ?_) rfl rfl (by kernel_rfl) (by kernel_rfl) (by kernel_rfl) (fun _ _ _ h => h) (by kernel_rfl) ?_ (by assumption) ?_
    rotate_left
    · intro wx hSw
      try dsimp only at hSw
      go_simp
      try (with_reducible rfl)
    try simp only [Act.put, List.setIfInBounds_toArray, List.set_cons_zero, List.set_cons_succ]
    refine wpAnyH_ready (rs := [16]) (by kernel_rfl) (by simp) ?_
    refine AllReadyH.cons rfl (fun K hK => ?_) AllReadyH.nil
    go_simp
    refine hK.out _ _ cb (fun hHeld => ?_)
    clear hK K
    try simp only [Act.put, List.setIfInBounds_toArray, List.set_cons_zero, List.set_cons_succ]
    refine wpAnyH_done (by kernel_rfl) ?_ _
    have B := under hB
    go_wp2_with fail
    go_ret
    exact ⟨ret_bool HE.out, B⟩
set_option maxHeartbeats 2000000 in
theorem sConfigOk_any (C : Cfg) (w : World) (ok : Bool) (hok : ok = true ↔ C.Ok) :
    Calls Try.prog 36 #[.agg C.cells] w fun e w' => e = .returned (.bool ok) ∧ Below w.heap.size w w' := by
  have HO : Hid (ok = true ↔ C.Ok) := hok
  have HA : Hid (∀ o, Below w.heap.size w (w.alloc o)) := fun o => (Below.refl _ _).alloc (Nat.le_refl _) _
  clear hok
  unfold Cfg.cells
  go_enter Try.func36, Try.ntmps36
  go_wp2_with fail
  refine (l1In_any _ _ _ _).mono ?_
  rintro e w' ⟨rfl, hw⟩
  rw [hw]
  clear hw w'
  by_cases h_p : 2 ≤ C.p ∧ C.p ≤ 4
  rotate_left
  · have HF : Hid (ok = false) := by
      show ok = false
      rw [Bool.eq_false_iff]
      intro e
      exact h_p (HO.out.1 e).num.p
    rw [decide_eq_false h_p]
    clear h_p
    go_wp2_with fail
    go_ret
    exact ⟨ret_bool HF.out.symm, HA.out _⟩
  rw [decide_eq_true h_p]
  have H_p : Hid (2 ≤ C.p ∧ C.p ≤ 4) := h_p
  clear h_p
  go_wp2_with fail
  refine (l1In_any _ _ _ _).mono ?_
  rintro e w' ⟨rfl, hw⟩
  rw [hw]
  clear hw w'
  by_cases h_c : 1 ≤ C.c ∧ C.c ≤ 1000
  rotate_left
  · have HF : Hid (ok = false) := by
      show ok = false
      rw [Bool.eq_false_iff]
      intro e
      exact h_c (HO.out.1 e).num.c
    rw [decide_eq_false h_c]
    clear h_c
    go_wp2_with fail
    go_ret
    exact ⟨ret_bool HF.out.symm, HA.out _⟩
  rw [decide_eq_true h_c]
  have H_c : Hid (1 ≤ C.c ∧ C.c ≤ 1000) := h_c
  clear h_c
  go_wp2_with fail
  refine (l1In_any _ _ _ _).mono ?_
  rintro e w' ⟨rfl, hw⟩
  rw [hw]
  clear hw w'
  by_cases h_xo : 1 ≤ C.xo ∧ C.xo ≤ 1000
  rotate_left
  · have HF : Hid (ok = false) := by
      show ok = false
      rw [Bool.eq_false_iff]
      intro e
      exact h_xo (HO.out.1 e).num.xo
    rw [decide_eq_false h_xo]
    clear h_xo
    go_wp2_with fail
    go_ret
    exact ⟨ret_bool HF.out.symm, HA.out _⟩
  rw [decide_eq_true h_xo]
  have H_xo : Hid (1 ≤ C.xo ∧ C.xo ≤ 1000) := h_xo
  have h_xo1 := h_xo.1
  have h_xo2 := h_xo.2
  clear h_xo
  go_wp2_with fail
  refine (l1In_any _ _ _ _).mono ?_
  rintro e w' ⟨rfl, hw⟩
  rw [hw]
  clear hw w'
  by_cases h_xn : 0 ≤ C.xn ∧ C.xn ≤ C.xo - 1
  rotate_left
  · have HF : Hid (ok = false) := by
      show ok = false
      rw [Bool.eq_false_iff]
      intro e
      exact h_xn (HO.out.1 e).num.xn
    rw [decide_eq_false h_xn]
    clear h_xn
    go_wp2_with fail
    go_ret
    exact ⟨ret_bool HF.out.symm, HA.out _⟩
  rw [decide_eq_true h_xn]
  have H_xn : Hid (0 ≤ C.xn ∧ C.xn ≤ C.xo - 1) := h_xn
  clear h_xn
  go_wp2_with fail
  refine (l1In_any _ _ _ _).mono ?_
  rintro e w' ⟨rfl, hw⟩
  rw [hw]
  clear hw w'
  by_cases h_hd : 0 ≤ C.hd ∧ C.hd ≤ 1000
  rotate_left
  · have HF : Hid (ok = false) := by
      show ok = false
      rw [Bool.eq_false_iff]
      intro e
      exact h_hd (HO.out.1 e).num.hd
    rw [decide_eq_false h_hd]
    clear h_hd
    go_wp2_with fail
    go_ret
    exact ⟨ret_bool HF.out.symm, HA.out _⟩
  rw [decide_eq_true h_hd]
  have H_hd : Hid (0 ≤ C.hd ∧ C.hd ≤ 1000) := h_hd
  clear h_hd
  go_wp2_with fail
  refine (l1In_any _ _ _ _).mono ?_
  rintro e w' ⟨rfl, hw⟩
  rw [hw]
  clear hw w'
  by_cases h_lo : 0 ≤ C.lo ∧ C.lo ≤ 1000
  rotate_left
  · have HF : Hid (ok = false) := by
      show ok = false
      rw [Bool.eq_false_iff]
      intro e
      exact h_lo (HO.out.1 e).num.lo
    rw [decide_eq_false h_lo]
    clear h_lo
    go_wp2_with fail
    go_ret
    exact ⟨ret_bool HF.out.symm, HA.out _⟩
  rw [decide_eq_true h_lo]
  have H_lo : Hid (0 ≤ C.lo ∧ C.lo ≤ 1000) := h_lo
  clear h_lo
  go_wp2_with fail
  refine (l1In_any _ _ _ _).mono ?_
  rintro e w' ⟨rfl, hw⟩
  rw [hw]
  clear hw w'
  by_cases h_dl : 1 ≤ C.dl ∧ C.dl ≤ 3
  rotate_left
  · have HF : Hid (ok = false) := by
      show ok = false
      rw [Bool.eq_false_iff]
      intro e
      exact h_dl (HO.out.1 e).num.dl
    rw [decide_eq_false h_dl]
    clear h_dl
    go_wp2_with fail
    go_ret
    exact ⟨ret_bool HF.out.symm, HA.out _⟩
  rw [decide_eq_true h_dl]
  have H_dl : Hid (1 ≤ C.dl ∧ C.dl ≤ 3) := h_dl
  clear h_dl
  have HNm : Hid C.Num := ⟨H_p.out, H_c.out, H_xo.out, H_xn.out, H_hd.out, H_lo.out, H_dl.out⟩
  have e1 : IntKind.i64.wrap (2 * C.dl) = 2 * C.dl := wrapC _ (by have := H_dl.out; omega) (by have := H_dl.out; omega)
  have e2 : IntKind.i64.wrap (2 * C.dl + 1) = 2 * C.dl + 1 := wrapC _ (by have := H_dl.out; omega) (by have := H_dl.out; omega)
  have e3 : IntKind.i64.wrap ((2 * C.dl + 1) * 5) = (2 * C.dl + 1) * 5 := wrapC _ (by have := H_dl.out; omega) (by have := H_dl.out; omega)
  have e4 : IntKind.i64.wrap (C.xo + C.hd) = C.xo + C.hd := wrapC _ (by have := H_xo.out; have := H_hd.out; omega) (by have := H_xo.out; have := H_hd.out; omega)
  have hpc : 2 ≤ C.p ∧ C.p ≤ 4 := H_p.out
  have hp3 : C.p = 2 ∨ C.p = 3 ∨ C.p = 4 := by omega
  have e5 : IntKind.i64.wrap (C.p * (C.xo + C.hd)) = C.p * (C.xo + C.hd) := by
    have := H_xo.out
    have := H_hd.out
    rcases hp3 with h | h | h <;> rw [h] <;> exact wrapC _ (by omega) (by omega)
  have e6 : IntKind.i64.wrap (C.p * (C.xo + C.hd) + C.lo) = C.p * (C.xo + C.hd) + C.lo := by
    have := H_xo.out
    have := H_hd.out
    have := H_lo.out
    rcases hp3 with h | h | h <;> rw [h] <;> exact wrapC _ (by omega) (by omega)
  clear hpc hp3
  by_cases hh : (2 * C.dl + 1) * 5 ≤ C.hd
  rotate_left
  · have HF : Hid (ok = false) := by
      show ok = false
      rw [Bool.eq_false_iff]
      intro e
      have := (HO.out.1 e).head
      omega
    have hh' : decide ((2 * C.dl + 1) * 5 ≤ C.hd) = false := decide_eq_false hh
    go_wp2_with fail
    go_ret
    exact ⟨ret_bool HF.out.symm, HA.out _⟩
  · have hh' : decide ((2 * C.dl + 1) * 5 ≤ C.hd) = true := decide_eq_true hh
    have HE : Hid (decide (C.p * (C.xo + C.hd) + C.lo ≤ C.c) = ok) := by
      rw [Hid, Bool.eq_iff_iff, HO.out]
      simp only [decide_eq_true_eq]
      exact ⟨fun h => ⟨HNm.out, by omega, h⟩, fun h => h.sum⟩
    go_wp2_with fail
    go_ret
    exact ⟨ret_bool HE.out, HA.out _⟩
end Go.Proofs.Ytaiodombphpcgaa
