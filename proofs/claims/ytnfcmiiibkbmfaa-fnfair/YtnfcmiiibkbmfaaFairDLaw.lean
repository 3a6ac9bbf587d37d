/- Two classes share what is picked as their quanta say: on every code the law answers true. -/
import Derived.Test.YtnfcmiiibkbmfaaFairS
namespace Go.Proofs.Ytnfcmiiibkbmfaa
open Go.RowKit
set_option linter.unusedVariables false
set_option linter.unusedSimpArgs false

theorem wrapF (x : Int) (h1 : -9223372036854775808 ≤ x) (h2 : x ≤ 9223372036854775807) : IntKind.i64.wrap x = x := by
  rw [IntKind.wrap_i64]; omega
theorem wrapU (x : Nat) (h : x ≤ 255) : IntKind.u8.wrap (x : Int) = (x : Int) := by
  simp [IntKind.wrap, IntKind.bits, IntKind.signed]
  omega
theorem mul_bd (a q : Int) (h0 : 0 ≤ a) (h1 : a ≤ 400) (h2 : 1 ≤ q) (h3 : q ≤ 6) : 0 ≤ a * q ∧ a * q ≤ 2400 := by
  rcases (by omega : q = 1 ∨ q = 2 ∨ q = 3 ∨ q = 4 ∨ q = 5 ∨ q = 6) with rfl | rfl | rfl | rfl | rfl | rfl <;> omega
theorem Rnd.Small.fitF {R : Rnd} (h : R.Small) : R.Fit := ⟨Nat.le_trans h.q (by unfold maxLen; omega), Nat.le_trans h.d (by unfold maxLen; omega), Nat.le_trans h.s (by unfold maxLen; omega), fun i hi => Nat.le_trans (h.l i hi) (by unfold maxLen; omega)⟩
set_option maxRecDepth 100000 in
set_option maxHeartbeats 8000000 in
theorem fairLaw_any (a : Option Addr) (len cap : Nat) (w : World) (hl : len ≤ maxLen) (hC : len ≤ 1048576 → Code w.heap.size (.slice a len cap) len w) :
    Calls Try.prog 4 #[.slice a len cap] w fun e w' => e = .returned (.bool true) ∧ Below w.heap.size w w' := by
  by_cases hbig : 1048576 < (len : Int)
  · clear hC
    go_enter Try.func4, Try.ntmps4
    go_wp2_with fail
    refine (bigC_any a len cap _ hl).mono ?_
    rintro e w' ⟨rfl, hw⟩
    rw [hw, decide_eq_true hbig]
    clear hw w'
    go_wp2_with fail
    go_ret
    exact ⟨rfl, Below.refl _ _⟩
  by_cases h4 : (len : Int) < 4
  · clear hC
    go_enter Try.func4, Try.ntmps4
    go_wp2_with fail
    refine (bigC_any a len cap _ hl).mono ?_
    rintro e w' ⟨rfl, hw⟩
    rw [hw, decide_eq_false (by omega)]
    clear hw w'
    go_wp2_with fail
    go_ret
    exact ⟨rfl, Below.refl _ _⟩
  obtain ⟨bc, off, rfl, hbc, hby⟩ : ∃ bc off, a = some ⟨bc, off, none⟩ ∧ bc < w.heap.size ∧ ∀ i, i < len → ∃ z : Nat, z ≤ 255 ∧ w.cell? ⟨bc, off + i, none⟩ = some (.int .u8 z) := by
    rcases hC (by omega) with ⟨_, e⟩ | ⟨b, o, c, e, h1, _, h2⟩
    · omega
    · cases e
      exact ⟨b, o, rfl, h1, h2⟩
  have HBy : Hid (∀ i, i < len → ∃ z : Nat, z ≤ 255 ∧ ∀ W, Below w.heap.size w W → W.cell? ⟨bc, off + i, none⟩ = some (.int .u8 z)) := fun i hi => by
    obtain ⟨z, h1, h2⟩ := hby i hi
    exact ⟨z, h1, fun W hW => (hW.cell (p := ⟨bc, off + i, none⟩) hbc).trans h2⟩
  clear hC hby
  obtain ⟨z0, hz0, HZ0⟩ := HBy.out 0 (by omega)
  obtain ⟨z1, hz1, HZ1⟩ := HBy.out 1 (by omega)
  have HZ : Hid (∀ W, Below w.heap.size w W → W.cell? ⟨bc, off, none⟩ = some (.int .u8 z0) ∧ W.cell? ⟨bc, off + 1, none⟩ = some (.int .u8 z1)) := fun W hW => ⟨by have := HZ0 W hW; simpa using this, HZ1 W hW⟩
  clear HZ0 HZ1
  obtain ⟨r0, er0, hr0⟩ := tmod_nat z0 6 (by omega)
  obtain ⟨r1, er1, hr1⟩ := tmod_nat z1 6 (by omega)
  have er0' : (z0 : Int).tmod 6 = (r0 : Int) := er0
  have er1' : (z1 : Int).tmod 6 = (r1 : Int) := er1
  have u0 := wrapU r0 (by omega)
  have u1 := wrapU r1 (by omega)
  have v0 := wrapF (r0 : Int) (by omega) (by omega)
  have v1 := wrapF (r1 : Int) (by omega) (by omega)
  have x0 := wrapF (1 + (r0 : Int)) (by omega) (by omega)
  have x1 := wrapF (1 + (r1 : Int)) (by omega) (by omega)
  clear er0 er1
  go_enter Try.func4, Try.ntmps4
  go_wp2_with fail
  refine (bigC_any (some ⟨bc, off, none⟩) len cap _ hl).mono ?_
  rintro e w' ⟨rfl, hw⟩
  rw [hw, decide_eq_false (by omega)]
  clear hw w'
  have hi0 : (0 : Int) < (len : Int) := by omega
  have hi1 : (1 : Int) < (len : Int) := by omega
  have hi2 : 0 < len := by omega
  have hi3 : 1 < len := by omega
  go_wp2_with fail
  have HB0 : Hid (Below w.heap.size w w.drew) := (Below.refl _ _).drew
  have hSS : w.drew.cell? ⟨bc, off, none⟩ = some (.int .u8 z0) ∧ w.drew.cell? ⟨bc, off + 1, none⟩ = some (.int .u8 z1) := HZ.out _ HB0.out
  refine wp_region_held_drew (S := fun w' => w'.cell? ⟨bc, off, none⟩ = some (.int .u8 z0) ∧ w'.cell? ⟨bc, off + 1, none⟩ = some (.int .u8 z1)) (by kernel_rfl) hSS (fun hHeld => ?_)
  generalize w.drew = V at *
  refine takeD (i := 0) (some 24) (v := ?_) rfl rfl (by kernel_rfl) (by kernel_rfl) (by kernel_rfl) (fun _ _ _ h => h) (by kernel_rfl) ?_ (by assumption) ?_
  rotate_left
  · intro wx hSw
    obtain ⟨hS1, hS2⟩ := hSw
    go_simp
    try (with_reducible rfl)
  try simp only [Act.put, List.setIfInBounds_toArray, List.set_cons_zero, List.set_cons_succ]
  refine takeD (i := 1) (some 25) (v := ?_) rfl rfl (by kernel_rfl) (by kernel_rfl) (by kernel_rfl) (fun _ _ _ h => h) (by kernel_rfl) ?_ (by assumption) ?_
  rotate_left
  · intro wx hSw
    obtain ⟨hS1, hS2⟩ := hSw
    go_simp
    try (with_reducible rfl)
  try simp only [Act.put, List.setIfInBounds_toArray, List.set_cons_zero, List.set_cons_succ]
  refine takeD (i := 2) (some 26) (v := ?_) rfl rfl (by kernel_rfl) (by kernel_rfl) (by kernel_rfl) (fun _ _ _ h => h) (by kernel_rfl) ?_ (by assumption) ?_
  rotate_left
  · intro wx hSw
    obtain ⟨hS1, hS2⟩ := hSw
    go_simp
    try (with_reducible rfl)
  try simp only [Act.put, List.setIfInBounds_toArray, List.set_cons_zero, List.set_cons_succ]
  refine takeD (i := 3) (some 27) (v := ?_) rfl rfl (by kernel_rfl) (by kernel_rfl) (by kernel_rfl) (fun _ _ _ h => h) (by kernel_rfl) ?_ (by assumption) ?_
  rotate_left
  · intro wx hSw
    obtain ⟨hS1, hS2⟩ := hSw
    go_simp
    try (with_reducible rfl)
  try simp only [Act.put, List.setIfInBounds_toArray, List.set_cons_zero, List.set_cons_succ]
  refine takeD (i := 4) (some 28) (v := ?_) rfl rfl (by kernel_rfl) (by kernel_rfl) (by kernel_rfl) (fun _ _ _ h => h) (by kernel_rfl) ?_ (by assumption) ?_
  rotate_left
  · intro wx hSw
    obtain ⟨hS1, hS2⟩ := hSw
    go_simp
    try (with_reducible rfl)
  try simp only [Act.put, List.setIfInBounds_toArray, List.set_cons_zero, List.set_cons_succ]
  refine takeD (i := 5) (some 29) (v := ?_) rfl rfl (by kernel_rfl) (by kernel_rfl) (by kernel_rfl) (fun _ _ _ h => h) (by kernel_rfl) ?_ (by assumption) ?_
  rotate_left
  · intro wx hSw
    obtain ⟨hS1, hS2⟩ := hSw
    go_simp
    try (with_reducible rfl)
  try simp only [Act.put, List.setIfInBounds_toArray, List.set_cons_zero, List.set_cons_succ]
  refine takeD (i := 6) (some 30) (v := ?_) rfl rfl (by kernel_rfl) (by kernel_rfl) (by kernel_rfl) (fun _ _ _ h => h) (by kernel_rfl) ?_ (by assumption) ?_
  rotate_left
  · intro wx hSw
    obtain ⟨hS1, hS2⟩ := hSw
    go_simp
    try (with_reducible rfl)
  try simp only [Act.put, List.setIfInBounds_toArray, List.set_cons_zero, List.set_cons_succ]
  refine takeD (i := 7) (some 31) (v := ?_) rfl rfl (by kernel_rfl) (by kernel_rfl) (by kernel_rfl) (fun _ _ _ h => h) (by kernel_rfl) ?_ (by assumption) ?_
  rotate_left
  · intro wx hSw
    obtain ⟨hS1, hS2⟩ := hSw
    go_simp
    try (with_reducible rfl)
  try simp only [Act.put, List.setIfInBounds_toArray, List.set_cons_zero, List.set_cons_succ]
  refine takeD (i := 8) (some 32) (v := ?_) rfl rfl (by kernel_rfl) (by kernel_rfl) (by kernel_rfl) (fun _ _ _ h => h) (by kernel_rfl) ?_ (by assumption) ?_
  rotate_left
  · intro wx hSw
    obtain ⟨hS1, hS2⟩ := hSw
    go_simp
    try (with_reducible rfl)
  try simp only [Act.put, List.setIfInBounds_toArray, List.set_cons_zero, List.set_cons_succ]
  refine takeD (i := 9) (some 33) (v := ?_) rfl rfl (by kernel_rfl) (by kernel_rfl) (by kernel_rfl) (fun _ _ _ h => h) (by kernel_rfl) ?_ (by assumption) ?_
  rotate_left
  · intro wx hSw
    obtain ⟨hS1, hS2⟩ := hSw
    go_simp
    try (with_reducible rfl)
  try simp only [Act.put, List.setIfInBounds_toArray, List.set_cons_zero, List.set_cons_succ]
  refine takeD (i := 10) (some 34) (v := ?_) rfl rfl (by kernel_rfl) (by kernel_rfl) (by kernel_rfl) (fun _ _ _ h => h) (by kernel_rfl) ?_ (by assumption) ?_
  rotate_left
  · intro wx hSw
    obtain ⟨hS1, hS2⟩ := hSw
    go_simp
    try (with_reducible rfl)
  try simp only [Act.put, List.setIfInBounds_toArray, List.set_cons_zero, List.set_cons_succ]
  refine takeD (i := 11) (some 35) (v := ?_) rfl rfl (by kernel_rfl) (by kernel_rfl) (by kernel_rfl) (fun _ _ _ h => h) (by kernel_rfl) ?_ (by assumption) ?_
  rotate_left
  · intro wx hSw
    obtain ⟨hS1, hS2⟩ := hSw
    go_simp
    try (with_reducible rfl)
  try simp only [Act.put, List.setIfInBounds_toArray, List.set_cons_zero, List.set_cons_succ]
  refine wpAnyH_ready (rs := [12]) (by kernel_rfl) (by simp) ?_
  refine AllReadyH.cons rfl (fun K hK => ?_) AllReadyH.nil
  go_simp
  have HB1 : Hid (Below w.heap.size w (V.alloc (.cells #[.int .i64 (1 + (r0 : Int)), .int .i64 (1 + (r1 : Int))] 2))) := HB0.out.trans (((Below.refl V.heap.size V).alloc (Nat.le_refl _) _).mono HB0.out.size)
  have kQ := blk_new V (.cells #[.int .i64 (1 + (r0 : Int)), .int .i64 (1 + (r1 : Int))] 2)
  have hgq : w.heap.size ≤ V.heap.size := HB0.out.size
  have hVs : V.heap.size < (V.alloc (.cells #[.int .i64 (1 + (r0 : Int)), .int .i64 (1 + (r1 : Int))] 2)).heap.size := by simp
  replace hSS := HZ.out _ HB1.out
  generalize V.alloc (.cells #[.int .i64 (1 + (r0 : Int)), .int .i64 (1 + (r1 : Int))] 2) = V1 at *
  generalize V.heap.size = gq at *
  refine hK.out _ _ hSS (fun hHeld => ?_)
  clear hK K
  try simp only [Act.put, List.setIfInBounds_toArray, List.set_cons_zero, List.set_cons_succ]
  refine wpAnyH_ready (rs := [13]) (by kernel_rfl) (by simp) ?_
  refine AllReadyH.cons rfl (fun K hK => ?_) AllReadyH.nil
  go_simp
  refine hK.out _ _ hSS (fun hHeld => ?_)
  clear hK K
  try simp only [Act.put, List.setIfInBounds_toArray, List.set_cons_zero, List.set_cons_succ]
  refine wpAnyH_done (by kernel_rfl) ?_ _
  clear hHeld HB0 u0 u1 v0 v1 x0 x1 er0' er1' HZ hz0 hz1 hi0 hi1 hi3
  obtain ⟨q0, eq0⟩ : ∃ q0 : Int, 1 + (r0 : Int) = q0 := ⟨_, rfl⟩
  obtain ⟨q1, eq1⟩ : ∃ q1 : Int, 1 + (r1 : Int) = q1 := ⟨_, rfl⟩
  have hq0 : 1 ≤ q0 ∧ q0 ≤ 6 := by omega
  have hq1 : 1 ≤ q1 ∧ q1 ≤ 6 := by omega
  rw [eq0, eq1]
  rw [eq0, eq1] at kQ
  clear eq0 eq1 hr0 hr1
  have HRw : Hid (RdRow V1 (some ⟨gq, 0, none⟩) 2 fun i => .int .i64 (if i = 0 then q0 else q1)) := fun i hi => ⟨gq, 0, rfl, by
    rw [Nat.zero_add, blk_cell kQ]
    rcases (by omega : i = 0 ∨ i = 1) with rfl | rfl <;> rfl⟩
  have HNo : Hid ((newR 2 (fun i => if i = 0 then q0 else q1) none 0 0 0).Ok) := new_ok (by omega) (fun i hi => by split <;> omega)
  go_wp2_with fail
  refine (iRoundNew_any gq 0 2 2 (fun i => if i = 0 then q0 else q1) _ (by omega) HRw.out true ⟨fun _ => HNo.out, fun _ => rfl⟩).mono ?_
  rintro e w3 ⟨R, rfl, hO, hb, hA1⟩
  have HRR : Hid (R.Ok ∧ FairR R q0 q1 0 0 ∧ ∀ j, j < 2 → R.L j ≤ 0) := ⟨hA1.okI.2 HNo.out, (FairR.new (f := fun i => if i = 0 then q0 else q1) rfl).alike hA1, fun j _ => by rw [hA1.l]; exact Nat.le_refl _⟩
  have HAl : Hid (Alike (newM 2 (fun i => if i = 0 then q0 else q1) true) R) := hA1
  have HF : Hid (FS w gq w3.heap.size q0 q1 R (w3.alloc (.cells #[.slice R.aQ R.nQ R.cQ, .slice R.aD R.nD R.cD, .int .i64 R.turn, .bool R.fresh, .slice R.aS R.nS R.cS] 27))) := by
    have hA := (Below.refl w3.heap.size w3).alloc (Nat.le_refl _) (.cells #[.slice R.aQ R.nQ R.cQ, .slice R.aD R.nD R.cD, .int .i64 R.turn, .bool R.fresh, .slice R.aS R.nS R.cS] 27)
    have h1 := hb.trans (hA.mono hb.size)
    exact ⟨HB1.out.trans (h1.mono HB1.out.size), (h1.block _ (blk_lt kQ)).trans kQ, blk_new _ _, (hO.o.up hA).mono (by omega), HRR.out.1, hgq, by have := hb.size; have := blk_lt kQ; omega⟩
  have HRw2 : Hid (RdRow (w3.alloc (.cells #[.slice R.aQ R.nQ R.cQ, .slice R.aD R.nD R.cD, .int .i64 R.turn, .bool R.fresh, .slice R.aS R.nS R.cS] 27)) (some ⟨gq, 0, none⟩) 2 fun i => .int .i64 (if i = 0 then q0 else q1)) := (HRw.out.up hb).up ((Below.refl w3.heap.size w3).alloc (Nat.le_refl _) (.cells #[.slice R.aQ R.nQ R.cQ, .slice R.aD R.nD R.cD, .int .i64 R.turn, .bool R.fresh, .slice R.aS R.nS R.cS] 27))
  clear hO hb hA1 kQ hVs HRw HB1
  dsimp only [Rnd.cells]
  go_wp2_with fail
  generalize w3.alloc (.cells #[.slice R.aQ R.nQ R.cQ, .slice R.aD R.nD R.cD, .int .i64 R.turn, .bool R.fresh, .slice R.aS R.nS R.cS] 27) = w4 at *
  generalize w3.heap.size = bx at *
  refine (sRoundNew_any gq 0 2 2 (fun i => if i = 0 then q0 else q1) _ (by omega) HRw2.out true ⟨fun _ => HNo.out, fun _ => rfl⟩).mono ?_
  rintro e w5 ⟨Y, rfl, hY, hb, hA1⟩
  have HRY : Hid (Alike R Y) := HAl.out.symm.trans hA1
  have hA := (Below.refl w5.heap.size w5).alloc (Nat.le_refl _) (.cells #[.slice Y.aQ Y.nQ Y.cQ, .slice Y.aD Y.nD Y.cD, .int .i64 Y.turn, .bool Y.fresh, .slice Y.aS Y.nS Y.cS] 27)
  have kY := blk_new w5 (.cells #[.slice Y.aQ Y.nQ Y.cQ, .slice Y.aD Y.nD Y.cD, .int .i64 Y.turn, .bool Y.fresh, .slice Y.aS Y.nS Y.cS] 27)
  replace hY := hY.up hA
  replace HF : Hid (FS w gq bx q0 q1 R (w5.alloc (.cells #[.slice Y.aQ Y.nQ Y.cQ, .slice Y.aD Y.nD Y.cD, .int .i64 Y.turn, .bool Y.fresh, .slice Y.aS Y.nS Y.cS] 27))) := (HF.out.below hb).below hA
  have cR := blk_cell HF.out.box
  have cY := blk_cell kY
  clear hb hA1 hA HRw2 HNo HAl
  dsimp only [Rnd.cells] at cR ⊢
  go_wp2_with fail
  clear cR cY
  generalize w5.alloc (.cells #[.slice Y.aQ Y.nQ Y.cQ, .slice Y.aD Y.nD Y.cD, .int .i64 Y.turn, .bool Y.fresh, .slice Y.aS Y.nS Y.cS] 27) = w6 at *
  refine (sameRound_any R Y _ (ok_smallA HRR.out.1) HF.out.own.rd hY.rd HRY.out).mono ?_
  rintro e w7 ⟨rfl, hb⟩
  replace HF : Hid (FS w gq bx q0 q1 R w7) := HF.out.below hb
  clear hb hY kY HRY
  have hlz : ¬ ((len : Int) = 0) := by omega
  have hlb : ((len : Int) == 0) = false := by simp; omega
  have hlN : ¬ len = 0 := by omega
  go_wp2_with fail
  go_loopw [8] (fun i wr => ∃ (k : Nat) (X : Rnd), k ≤ 80 ∧ i = .int .i64 k ∧ FS w gq bx q0 q1 X wr ∧ FairR X q0 q1 0 0 ∧ ∀ j, j < 2 → X.L j ≤ k) (fun i _ => 80 - (intOf i).toNat)
  case atStart => exact ⟨0, R, by omega, rfl, HF.out, HRR.out.2⟩
  case round =>
    clear HF HRR
    obtain ⟨k, X, hk, rfl, hF, hX, hL⟩ := hrel
    have HF : Hid (FS w gq bx q0 q1 X wr) := hF
    have HX : Hid (FairR X q0 q1 0 0) := hX
    have HL : Hid (∀ j, j < 2 → X.L j ≤ k) := hL
    clear hF hX hL
    by_cases hlt : k < 80
    · have hlt' : (k : Int) < 80 := by omega
      obtain ⟨c2, ec2, hc2⟩ := tmod_nat k 2 (by omega)
      have ec2' : (k : Int).tmod 2 = (c2 : Int) := ec2
      obtain ⟨il, eil, hil⟩ := tmod_nat k len (by omega)
      obtain ⟨z, hz, HZz⟩ := HBy.out il hil
      have HZ : Hid (∀ W, Below w.heap.size w W → W.cell? ⟨bc, off + il, none⟩ = some (.int .u8 z)) := HZz
      obtain ⟨s5, es5, hs5⟩ := tmod_nat z 5 (by omega)
      have es5' : (z : Int).tmod 5 = (s5 : Int) := es5
      have y0 := wrapF (c2 : Int) (by omega) (by omega)
      have y1 := wrapF (il : Int) (by omega) (by omega)
      have y2 := wrapU s5 (by omega)
      have y3 := wrapF (s5 : Int) (by omega) (by omega)
      have y4 := wrapF (1 + (s5 : Int)) (by omega) (by omega)
      have hil' : (il : Int) < (len : Int) := by omega
      clear ec2 es5 HZz
      go_wp2_with fail
      have hd : Below wr.heap.size wr wr.drew := (Below.refl _ _).drew
      replace HF : Hid (FS w gq bx q0 q1 X wr.drew) := HF.out.below hd
      have hSS : wr.drew.cell? ⟨bc, off + il, none⟩ = some (.int .u8 z) := HZ.out _ HF.out.bel
      refine wp_region_held_drew (S := fun w' => w'.cell? ⟨bc, off + il, none⟩ = some (.int .u8 z)) (by kernel_rfl) hSS (fun hHeld => ?_)
      clear hd
      generalize wr.drew = V at *
      have cA := blk_cell HF.out.box
      unfold Rnd.cells at cA
      refine takeD (i := 1) (some 74) (v := ?_) rfl rfl (by kernel_rfl) (by kernel_rfl) (by kernel_rfl) (fun _ _ _ h => h) (by kernel_rfl) ?_ (by assumption) ?_
      rotate_left
      · intro wx hSw
        try dsimp only at hSw
        go_simp
        try (with_reducible rfl)
      try simp only [Act.put, List.setIfInBounds_toArray, List.set_cons_zero, List.set_cons_succ]
      refine takeD (i := 2) (some 75) (v := ?_) rfl rfl (by kernel_rfl) (by kernel_rfl) (by kernel_rfl) (fun _ _ _ h => h) (by kernel_rfl) ?_ (by assumption) ?_
      rotate_left
      · intro wx hSw
        try dsimp only at hSw
        go_simp
        try (with_reducible rfl)
      try simp only [Act.put, List.setIfInBounds_toArray, List.set_cons_zero, List.set_cons_succ]
      refine takeD (i := 3) (some 76) (v := ?_) rfl rfl (by kernel_rfl) (by kernel_rfl) (by kernel_rfl) (fun _ _ _ h => h) (by kernel_rfl) ?_ (by assumption) ?_
      rotate_left
      · intro wx hSw
        try dsimp only at hSw
        go_simp
        try (with_reducible rfl)
      try simp only [Act.put, List.setIfInBounds_toArray, List.set_cons_zero, List.set_cons_succ]
      refine takeD (i := 4) (some 77) (v := ?_) rfl rfl (by kernel_rfl) (by kernel_rfl) (by kernel_rfl) (fun _ _ _ h => h) (by kernel_rfl) ?_ (by assumption) ?_
      rotate_left
      · intro wx hSw
        try dsimp only at hSw
        go_simp
        try (with_reducible rfl)
      try simp only [Act.put, List.setIfInBounds_toArray, List.set_cons_zero, List.set_cons_succ]
      refine takeD (i := 5) (some 78) (v := ?_) rfl rfl (by kernel_rfl) (by kernel_rfl) (by kernel_rfl) (fun _ _ _ h => h) (by kernel_rfl) ?_ (by assumption) ?_
      rotate_left
      · intro wx hSw
        try dsimp only at hSw
        go_simp
        try (with_reducible rfl)
      try simp only [Act.put, List.setIfInBounds_toArray, List.set_cons_zero, List.set_cons_succ]
      refine takeD (i := 6) (some 79) (v := ?_) rfl rfl (by kernel_rfl) (by kernel_rfl) (by kernel_rfl) (fun _ _ _ h => h) (by kernel_rfl) ?_ (by assumption) ?_
      rotate_left
      · intro wx hSw
        try dsimp only at hSw
        go_simp
        try (with_reducible rfl)
      try simp only [Act.put, List.setIfInBounds_toArray, List.set_cons_zero, List.set_cons_succ]
      refine takeD (i := 7) (some 80) (v := ?_) rfl rfl (by kernel_rfl) (by kernel_rfl) (by kernel_rfl) (fun _ _ _ h => h) (by kernel_rfl) ?_ (by assumption) ?_
      rotate_left
      · intro wx hSw
        try dsimp only at hSw
        go_simp
        try (with_reducible rfl)
      try simp only [Act.put, List.setIfInBounds_toArray, List.set_cons_zero, List.set_cons_succ]
      refine takeD (i := 8) (some 81) (v := ?_) rfl rfl (by kernel_rfl) (by kernel_rfl) (by kernel_rfl) (fun _ _ _ h => h) (by kernel_rfl) ?_ (by assumption) ?_
      rotate_left
      · intro wx hSw
        try dsimp only at hSw
        go_simp
        try (with_reducible rfl)
      try simp only [Act.put, List.setIfInBounds_toArray, List.set_cons_zero, List.set_cons_succ]
      refine takeD (i := 9) (some 82) (v := ?_) rfl rfl (by kernel_rfl) (by kernel_rfl) (by kernel_rfl) (fun _ _ _ h => h) (by kernel_rfl) ?_ (by assumption) ?_
      rotate_left
      · intro wx hSw
        try dsimp only at hSw
        go_simp
        try (with_reducible rfl)
      try simp only [Act.put, List.setIfInBounds_toArray, List.set_cons_zero, List.set_cons_succ]
      refine takeD (i := 10) (some 83) (v := ?_) rfl rfl (by kernel_rfl) (by kernel_rfl) (by kernel_rfl) (fun _ _ _ h => h) (by kernel_rfl) ?_ (by assumption) ?_
      rotate_left
      · intro wx hSw
        try dsimp only at hSw
        go_simp
        try (with_reducible rfl)
      try simp only [Act.put, List.setIfInBounds_toArray, List.set_cons_zero, List.set_cons_succ]
      refine takeD (i := 11) (some 84) (v := ?_) rfl rfl (by kernel_rfl) (by kernel_rfl) (by kernel_rfl) (fun _ _ _ h => h) (by kernel_rfl) ?_ (by assumption) ?_
      rotate_left
      · intro wx hSw
        try dsimp only at hSw
        go_simp
        try (with_reducible rfl)
      try simp only [Act.put, List.setIfInBounds_toArray, List.set_cons_zero, List.set_cons_succ]
      refine takeD (i := 12) (some 85) (v := ?_) rfl rfl (by kernel_rfl) (by kernel_rfl) (by kernel_rfl) (fun _ _ _ h => h) (by kernel_rfl) ?_ (by assumption) ?_
      rotate_left
      · intro wx hSw
        try dsimp only at hSw
        go_simp
        try (with_reducible rfl)
      try simp only [Act.put, List.setIfInBounds_toArray, List.set_cons_zero, List.set_cons_succ]
      refine wpAnyH_ready (rs := [0]) (by kernel_rfl) (by simp) ?_
      refine AllReadyH.cons rfl (fun K hK => ?_) AllReadyH.nil
      go_simp
      refine hK.out _ _ hSS (fun hHeld => ?_)
      clear hK K
      try simp only [Act.put, List.setIfInBounds_toArray, List.set_cons_zero, List.set_cons_succ]
      refine wpAnyH_ready (rs := [13]) (by kernel_rfl) (by simp) ?_
      refine AllReadyH.cons rfl (fun K hK => ?_) AllReadyH.nil
      go_simp
      refine (iWaits_any X (c2 : Int) (1 + (s5 : Int)) _ (ok_smallA HF.out.ok) HF.out.own.rd true ⟨fun _ => waitable HF.out.ok HX.out hc2 (by omega) hlt HL.out, fun _ => rfl⟩).mono ?_
      rintro e V2 ⟨Y, rfl, hO, hb, hA1⟩
      have hw := waited_fair HF.out.ok HX.out hc2 (by omega) hlt HL.out hA1
      have hlo : gq + 1 ≤ V.heap.size := blk_lt HF.out.row
      replace HF : Hid (FS w gq bx q0 q1 X V2) := HF.out.below hb
      have HL2 : Hid (FS w gq bx q0 q1 Y (put5 V2 bx (.slice Y.aQ Y.nQ Y.cQ) (.slice Y.aD Y.nD Y.cD) (.int .i64 Y.turn) (.bool Y.fresh) (.slice Y.aS Y.nS Y.cS)) ∧ FairR Y q0 q1 0 0 ∧ ∀ j, j < 2 → Y.L j ≤ k + 1) := ⟨HF.out.lay (hO.o.mono hlo) hw.2.1, hw.2.2.1, hw.2.2.2⟩
      have hSS2 : V2.cell? ⟨bc, off + il, none⟩ = some (.int .u8 z) := HZ.out _ HF.out.bel
      clear hO hb hA1 hw hlo cA
      try go_wp2_with fail
      refine hK.out _ _ hSS2 (fun hHeld => ?_)
      clear hK K
      try simp only [Act.put, List.setIfInBounds_toArray, List.set_cons_zero, List.set_cons_succ]
      try unfold Rnd.cells
      refine takeD (i := 14) (some 72) (v := ?_) rfl rfl (by kernel_rfl) (by kernel_rfl) (by kernel_rfl) (fun _ _ _ h => h) (by kernel_rfl) ?_ (by assumption) ?_
      rotate_left
      · intro wx hSw
        try dsimp only at hSw
        go_simp
        try (with_reducible rfl)
      try simp only [Act.put, List.setIfInBounds_toArray, List.set_cons_zero, List.set_cons_succ]
      refine takeD (i := 15) (some 87) (v := ?_) rfl rfl (by kernel_rfl) (by kernel_rfl) (by kernel_rfl) (fun _ _ _ h => h) (by kernel_rfl) ?_ (by assumption) ?_
      rotate_left
      · intro wx hSw
        try dsimp only at hSw
        go_simp
        try (with_reducible rfl)
      try simp only [Act.put, List.setIfInBounds_toArray, List.set_cons_zero, List.set_cons_succ]
      refine takeD (i := 16) (some 88) (v := ?_) rfl rfl (by kernel_rfl) (by kernel_rfl) (by kernel_rfl) (fun _ _ _ h => h) (by kernel_rfl) ?_ (by assumption) ?_
      rotate_left
      · intro wx hSw
        try dsimp only at hSw
        go_simp
        try (with_reducible rfl)
      try simp only [Act.put, List.setIfInBounds_toArray, List.set_cons_zero, List.set_cons_succ]
      have cA := blk_cell HF.out.box
      have fA := blk_free HF.out.box
      unfold Rnd.cells at cA
      have hSS3 : (put5 V2 bx (.slice Y.aQ Y.nQ Y.cQ) (.slice Y.aD Y.nD Y.cD) (.int .i64 Y.turn) (.bool Y.fresh) (.slice Y.aS Y.nS Y.cS)).cell? ⟨bc, off + il, none⟩ = some (.int .u8 z) := HZ.out _ HL2.out.1.bel
      unfold put5 at hSS3 HL2
      refine wpAnyH_ready (rs := [17]) (by kernel_rfl) (by simp) ?_
      refine AllReadyH.cons rfl (fun K hK => ?_) AllReadyH.nil
      go_simp
      refine hK.out _ _ hSS3 (fun hHeld => ?_)
      clear hK K
      try simp only [Act.put, List.setIfInBounds_toArray, List.set_cons_zero, List.set_cons_succ]
      refine wpAnyH_done (by kernel_rfl) ?_ _
      clear cA fA
      go_wp2_with fail
      go_roundw
      case rel => exact ⟨k + 1, Y, by omega, by go_num, HL2.out.1, HL2.out.2⟩
      case measure => simp [intOf]; omega
    · obtain rfl : k = 80 := by omega
      clear HL hk
      go_wp2_with fail
      go_loopw [9, 10, 11] (fun sa sb i wr => ∃ (k : Nat) (X : Rnd) (a b : Int), k ≤ 80 ∧ sa = .int .i64 a ∧ sb = .int .i64 b ∧ i = .int .i64 k ∧ FS w gq bx q0 q1 X wr ∧ FairR X q0 q1 a b ∧ 0 ≤ a ∧ a ≤ 5 * (k : Int) ∧ 0 ≤ b ∧ b ≤ 5 * (k : Int)) (fun _ _ i _ => 80 - (intOf i).toNat)
      case atStart => exact ⟨0, X, 0, 0, by omega, rfl, rfl, rfl, HF.out, HX.out, by omega, by omega, by omega, by omega⟩
      case round =>
        clear HF HX
        obtain ⟨k, X, a, b, hk, rfl, rfl, rfl, hF, hX, ha0, ha1, hb0, hb1⟩ := hrel
        have HF : Hid (FS w gq bx q0 q1 X wr) := hF
        have HX : Hid (FairR X q0 q1 a b) := hX
        clear hF hX
        by_cases hlt : k < 80
        · have hlt' : (k : Int) < 80 := by omega
          have hnS : X.nS = 2 := HF.out.ok.s.trans HX.out.n
          obtain ⟨g2, o2, e2, c0⟩ := HF.out.own.rd.s 0 (by omega)
          obtain ⟨g3, o3, e3, c1⟩ := HF.out.own.rd.s 1 (by omega)
          rw [e2] at e3
          cases e3
          dsimp only at c0 c1
          rw [Nat.add_zero] at c0
          have HE2 : Hid (X.aS = some ⟨g2, o2, none⟩) := e2
          have cA : ∀ o, wr.cell? ⟨bx, o, none⟩ = (#[.slice X.aQ X.nQ X.cQ, .slice X.aD X.nD X.cD, .int .i64 X.turn, .bool X.fresh, .slice (some ⟨g2, o2, none⟩) X.nS X.cS] : Array Value)[o]? := by
            have := blk_cell HF.out.box
            unfold Rnd.cells at this
            rw [e2] at this
            exact this
          have n0 : (0 : Int) < (X.nS : Int) := by omega
          have n1 : (1 : Int) < (X.nS : Int) := by omega
          have n2 : 0 < X.nS := by omega
          have n3 : 1 < X.nS := by omega
          clear e2 hnS
          by_cases l0 : 1 < X.L 0
          · have l0' : (1 : Int) < (X.L 0 : Int) := by omega
            by_cases l1 : 1 < X.L 1
            · have l1' : (1 : Int) < (X.L 1 : Int) := by omega
              obtain ⟨M, x, s, hp⟩ := pickM_ex X
              have HPk : Hid (PickM X M x s) := hp
              clear hp
              go_wp2_with fail
              have eX : Value.agg #[.slice X.aQ X.nQ X.cQ, .slice X.aD X.nD X.cD, .int .i64 X.turn, .bool X.fresh, .slice (some ⟨g2, o2, none⟩) X.nS X.cS] = Value.agg X.cells := by unfold Rnd.cells; rw [HE2.out]
              rw [eX]
              clear eX
              refine (iPicked_any X M x s _ (ok_smallA HF.out.ok) HF.out.own.rd HPk.out).mono ?_
              rintro e w9 ⟨Y, rfl, hO, hb, hA1⟩
              obtain ⟨hYo, hs1, hs5, m0, m1, hcase⟩ := picked_fair HF.out.ok HX.out l0 l1 HPk.out hA1
              have HYo : Hid Y.Ok := hYo
              have hA := (Below.refl w9.heap.size w9).alloc (Nat.le_refl _) (.cells #[.slice Y.aQ Y.nQ Y.cQ, .slice Y.aD Y.nD Y.cD, .int .i64 Y.turn, .bool Y.fresh, .slice Y.aS Y.nS Y.cS] 27)
              have hlo : gq + 1 ≤ wr.heap.size := blk_lt HF.out.row
              have HOY : Hid (OwnRo (w9.alloc (.cells #[.slice Y.aQ Y.nQ Y.cQ, .slice Y.aD Y.nD Y.cD, .int .i64 Y.turn, .bool Y.fresh, .slice Y.aS Y.nS Y.cS] 27)) (gq + 1) Y) := (hO.up hA).mono hlo
              have kN := blk_new w9 (.cells #[.slice Y.aQ Y.nQ Y.cQ, .slice Y.aD Y.nD Y.cD, .int .i64 Y.turn, .bool Y.fresh, .slice Y.aS Y.nS Y.cS] 27)
              have hne : w9.heap.size ≠ bx := by have := blk_lt HF.out.box; have := hb.size; omega
              have hne2 : bx ≠ w9.heap.size := fun e => hne e.symm
              replace HF : Hid (FS w gq bx q0 q1 X (w9.alloc (.cells #[.slice Y.aQ Y.nQ Y.cQ, .slice Y.aD Y.nD Y.cD, .int .i64 Y.turn, .bool Y.fresh, .slice Y.aS Y.nS Y.cS] 27))) := (HF.out.below hb).below hA
              clear hO hb hA1 hA hlo hYo HPk cA c0 c1 n0 n1 n2 n3 l0' l1'
              have cA := True.intro
              dsimp only [Rnd.cells]
              rcases hcase with ⟨rfl, hFY⟩ | ⟨rfl, hFY⟩
              · have hw0 : IntKind.i64.wrap (a + s) = a + s := wrapF _ (by omega) (by omega)
                go_wp2_with fail
                generalize w9.alloc (.cells #[.slice Y.aQ Y.nQ Y.cQ, .slice Y.aD Y.nD Y.cD, .int .i64 Y.turn, .bool Y.fresh, .slice Y.aS Y.nS Y.cS] 27) = w10 at *
                generalize w9.heap.size = bN at *
                have hn1 : 0 ≤ a + s ∧ a + s ≤ 5 * ((k : Int) + 1) := by omega
                clear hw0 cA
                generalize a + s = a2 at *
                have hA4 : 0 ≤ a2 ∧ a2 ≤ 400 ∧ a2 ≤ 5 * ((k : Int) + 1) := by omega
                have hB4 : 0 ≤ b ∧ b ≤ 400 ∧ b ≤ 5 * ((k : Int) + 1) := by omega
                have hMo := hFY.most HYo.out m0 m1 hq0 hq1
                have HFY : Hid (FairR Y q0 q1 a2 b) := hFY
                obtain ⟨pA, hpA⟩ : ∃ pA, a2 * q1 = pA := ⟨_, rfl⟩
                obtain ⟨pB, hpB⟩ : ∃ pB, b * q0 = pB := ⟨_, rfl⟩
                obtain ⟨pQ, hpQ⟩ : ∃ pQ, q0 * q1 = pQ := ⟨_, rfl⟩
                have bA := mul_bd a2 q1 (by omega) (by omega) (by omega) (by omega)
                have bB := mul_bd b q0 (by omega) (by omega) (by omega) (by omega)
                have bQ := mul_bd q0 q1 (by omega) (by omega) (by omega) (by omega)
                rw [hpA, hpB, hpQ] at hMo
                rw [hpA] at bA
                rw [hpB] at bB
                rw [hpQ] at bQ
                have y1 := wrapF pA (by omega) (by omega)
                have y2 := wrapF pB (by omega) (by omega)
                have y3 := wrapF (pA - pB) (by omega) (by omega)
                have y4 := wrapF pQ (by omega) (by omega)
                have y5 := wrapF (q0 + q1) (by omega) (by omega)
                have y6 := wrapF (5 * (q0 + q1)) (by omega) (by omega)
                have y7 := wrapF (pQ + 5 * (q0 + q1)) (by omega) (by omega)
                have y8 := wrapF (-(pA - pB)) (by omega) (by omega)
                have hd1 : ¬ pQ + 5 * (q0 + q1) < pA - pB := by omega
                have hd2 : ¬ pQ + 5 * (q0 + q1) < -(pA - pB) := by omega
                clear hFY hn1
                have hd : Below w10.heap.size w10 w10.drew := (Below.refl _ _).drew
                replace HF : Hid (FS w gq bx q0 q1 X w10.drew) := HF.out.below hd
                replace HOY : Hid (OwnRo w10.drew (gq + 1) Y) := HOY.out.up hd
                replace kN := (hd.block _ (blk_lt kN)).trans kN
                clear hd
                have hSS21 : w10.drew.cell? ⟨gq, 0, none⟩ = some (.int .i64 q0) ∧ w10.drew.cell? ⟨gq, 1, none⟩ = some (.int .i64 q1) := ⟨by rw [blk_cell HF.out.row]; rfl, by rw [blk_cell HF.out.row]; rfl⟩
                refine wp_region_held_drew (S := fun w' => w'.cell? ⟨gq, 0, none⟩ = some (.int .i64 q0) ∧ w'.cell? ⟨gq, 1, none⟩ = some (.int .i64 q1)) (by kernel_rfl) hSS21 (fun hHeld => ?_)
                generalize w10.drew = V3 at *
                refine takeD (i := 0) (some 123) (v := ?_) rfl rfl (by kernel_rfl) (by kernel_rfl) (by kernel_rfl) (fun _ _ _ h => h) (by kernel_rfl) ?_ (by assumption) ?_
                rotate_left
                · intro wx hSw
                  obtain ⟨hS1, hS2⟩ := hSw
                  go_simp
                  try (with_reducible rfl)
                try simp only [Act.put, List.setIfInBounds_toArray, List.set_cons_zero, List.set_cons_succ]
                refine takeD (i := 1) (some 124) (v := ?_) rfl rfl (by kernel_rfl) (by kernel_rfl) (by kernel_rfl) (fun _ _ _ h => h) (by kernel_rfl) ?_ (by assumption) ?_
                rotate_left
                · intro wx hSw
                  obtain ⟨hS1, hS2⟩ := hSw
                  go_simp
                  try (with_reducible rfl)
                try simp only [Act.put, List.setIfInBounds_toArray, List.set_cons_zero, List.set_cons_succ]
                refine takeD (i := 2) (some 125) (v := ?_) rfl rfl (by kernel_rfl) (by kernel_rfl) (by kernel_rfl) (fun _ _ _ h => h) (by kernel_rfl) ?_ (by assumption) ?_
                rotate_left
                · intro wx hSw
                  obtain ⟨hS1, hS2⟩ := hSw
                  go_simp
                  try (with_reducible rfl)
                try simp only [Act.put, List.setIfInBounds_toArray, List.set_cons_zero, List.set_cons_succ]
                refine takeD (i := 3) (some 126) (v := ?_) rfl rfl (by kernel_rfl) (by kernel_rfl) (by kernel_rfl) (fun _ _ _ h => h) (by kernel_rfl) ?_ (by assumption) ?_
                rotate_left
                · intro wx hSw
                  obtain ⟨hS1, hS2⟩ := hSw
                  go_simp
                  try (with_reducible rfl)
                try simp only [Act.put, List.setIfInBounds_toArray, List.set_cons_zero, List.set_cons_succ]
                refine takeD (i := 4) (some 127) (v := ?_) rfl rfl (by kernel_rfl) (by kernel_rfl) (by kernel_rfl) (fun _ _ _ h => h) (by kernel_rfl) ?_ (by assumption) ?_
                rotate_left
                · intro wx hSw
                  obtain ⟨hS1, hS2⟩ := hSw
                  go_simp
                  try (with_reducible rfl)
                try simp only [Act.put, List.setIfInBounds_toArray, List.set_cons_zero, List.set_cons_succ]
                refine takeD (i := 5) (some 128) (v := ?_) rfl rfl (by kernel_rfl) (by kernel_rfl) (by kernel_rfl) (fun _ _ _ h => h) (by kernel_rfl) ?_ (by assumption) ?_
                rotate_left
                · intro wx hSw
                  obtain ⟨hS1, hS2⟩ := hSw
                  go_simp
                  try (with_reducible rfl)
                try simp only [Act.put, List.setIfInBounds_toArray, List.set_cons_zero, List.set_cons_succ]
                refine takeD (i := 6) (some 129) (v := ?_) rfl rfl (by kernel_rfl) (by kernel_rfl) (by kernel_rfl) (fun _ _ _ h => h) (by kernel_rfl) ?_ (by assumption) ?_
                rotate_left
                · intro wx hSw
                  obtain ⟨hS1, hS2⟩ := hSw
                  go_simp
                  try (with_reducible rfl)
                try simp only [Act.put, List.setIfInBounds_toArray, List.set_cons_zero, List.set_cons_succ]
                refine takeD (i := 7) (some 130) (v := ?_) rfl rfl (by kernel_rfl) (by kernel_rfl) (by kernel_rfl) (fun _ _ _ h => h) (by kernel_rfl) ?_ (by assumption) ?_
                rotate_left
                · intro wx hSw
                  obtain ⟨hS1, hS2⟩ := hSw
                  go_simp
                  try (with_reducible rfl)
                try simp only [Act.put, List.setIfInBounds_toArray, List.set_cons_zero, List.set_cons_succ]
                refine takeD (i := 8) (some 131) (v := ?_) rfl rfl (by kernel_rfl) (by kernel_rfl) (by kernel_rfl) (fun _ _ _ h => h) (by kernel_rfl) ?_ (by assumption) ?_
                rotate_left
                · intro wx hSw
                  obtain ⟨hS1, hS2⟩ := hSw
                  go_simp
                  try (with_reducible rfl)
                try simp only [Act.put, List.setIfInBounds_toArray, List.set_cons_zero, List.set_cons_succ]
                refine takeD (i := 9) (some 132) (v := ?_) rfl rfl (by kernel_rfl) (by kernel_rfl) (by kernel_rfl) (fun _ _ _ h => h) (by kernel_rfl) ?_ (by assumption) ?_
                rotate_left
                · intro wx hSw
                  obtain ⟨hS1, hS2⟩ := hSw
                  go_simp
                  try (with_reducible rfl)
                try simp only [Act.put, List.setIfInBounds_toArray, List.set_cons_zero, List.set_cons_succ]
                refine takeD (i := 10) (some 133) (v := ?_) rfl rfl (by kernel_rfl) (by kernel_rfl) (by kernel_rfl) (fun _ _ _ h => h) (by kernel_rfl) ?_ (by assumption) ?_
                rotate_left
                · intro wx hSw
                  obtain ⟨hS1, hS2⟩ := hSw
                  go_simp
                  try (with_reducible rfl)
                try simp only [Act.put, List.setIfInBounds_toArray, List.set_cons_zero, List.set_cons_succ]
                refine wpAnyH_ready (rs := [11]) (by kernel_rfl) (by simp) ?_
                refine AllReadyH.cons rfl (fun K hK => ?_) AllReadyH.nil
                go_simp
                refine hK.out _ _ hSS21 (fun hHeld => ?_)
                clear hK K
                try simp only [Act.put, List.setIfInBounds_toArray, List.set_cons_zero, List.set_cons_succ]
                refine wpAnyH_done (by kernel_rfl) ?_ _
                clear hHeld
                go_wp2_with fail
                have hd : Below V3.heap.size V3 V3.drew := (Below.refl _ _).drew
                replace HF : Hid (FS w gq bx q0 q1 X V3.drew) := HF.out.below hd
                replace HOY : Hid (OwnRo V3.drew (gq + 1) Y) := HOY.out.up hd
                replace kN := (hd.block _ (blk_lt kN)).trans kN
                clear hd
                have hSS22 : V3.drew.cell? ⟨gq, 0, none⟩ = some (.int .i64 q0) ∧ V3.drew.cell? ⟨gq, 1, none⟩ = some (.int .i64 q1) := ⟨by rw [blk_cell HF.out.row]; rfl, by rw [blk_cell HF.out.row]; rfl⟩
                refine wp_region_held_drew (S := fun w' => w'.cell? ⟨gq, 0, none⟩ = some (.int .i64 q0) ∧ w'.cell? ⟨gq, 1, none⟩ = some (.int .i64 q1)) (by kernel_rfl) hSS22 (fun hHeld => ?_)
                generalize V3.drew = V4 at *
                refine takeD (i := 0) (some 134) (v := ?_) rfl rfl (by kernel_rfl) (by kernel_rfl) (by kernel_rfl) (fun _ _ _ h => h) (by kernel_rfl) ?_ (by assumption) ?_
                rotate_left
                · intro wx hSw
                  obtain ⟨hS1, hS2⟩ := hSw
                  go_simp
                  try (with_reducible rfl)
                try simp only [Act.put, List.setIfInBounds_toArray, List.set_cons_zero, List.set_cons_succ]
                refine takeD (i := 1) (some 135) (v := ?_) rfl rfl (by kernel_rfl) (by kernel_rfl) (by kernel_rfl) (fun _ _ _ h => h) (by kernel_rfl) ?_ (by assumption) ?_
                rotate_left
                · intro wx hSw
                  obtain ⟨hS1, hS2⟩ := hSw
                  go_simp
                  try (with_reducible rfl)
                try simp only [Act.put, List.setIfInBounds_toArray, List.set_cons_zero, List.set_cons_succ]
                refine takeD (i := 2) (some 136) (v := ?_) rfl rfl (by kernel_rfl) (by kernel_rfl) (by kernel_rfl) (fun _ _ _ h => h) (by kernel_rfl) ?_ (by assumption) ?_
                rotate_left
                · intro wx hSw
                  obtain ⟨hS1, hS2⟩ := hSw
                  go_simp
                  try (with_reducible rfl)
                try simp only [Act.put, List.setIfInBounds_toArray, List.set_cons_zero, List.set_cons_succ]
                refine takeD (i := 3) (some 137) (v := ?_) rfl rfl (by kernel_rfl) (by kernel_rfl) (by kernel_rfl) (fun _ _ _ h => h) (by kernel_rfl) ?_ (by assumption) ?_
                rotate_left
                · intro wx hSw
                  obtain ⟨hS1, hS2⟩ := hSw
                  go_simp
                  try (with_reducible rfl)
                try simp only [Act.put, List.setIfInBounds_toArray, List.set_cons_zero, List.set_cons_succ]
                refine takeD (i := 4) (some 138) (v := ?_) rfl rfl (by kernel_rfl) (by kernel_rfl) (by kernel_rfl) (fun _ _ _ h => h) (by kernel_rfl) ?_ (by assumption) ?_
                rotate_left
                · intro wx hSw
                  obtain ⟨hS1, hS2⟩ := hSw
                  go_simp
                  try (with_reducible rfl)
                try simp only [Act.put, List.setIfInBounds_toArray, List.set_cons_zero, List.set_cons_succ]
                refine takeD (i := 5) (some 139) (v := ?_) rfl rfl (by kernel_rfl) (by kernel_rfl) (by kernel_rfl) (fun _ _ _ h => h) (by kernel_rfl) ?_ (by assumption) ?_
                rotate_left
                · intro wx hSw
                  obtain ⟨hS1, hS2⟩ := hSw
                  go_simp
                  try (with_reducible rfl)
                try simp only [Act.put, List.setIfInBounds_toArray, List.set_cons_zero, List.set_cons_succ]
                refine takeD (i := 6) (some 140) (v := ?_) rfl rfl (by kernel_rfl) (by kernel_rfl) (by kernel_rfl) (fun _ _ _ h => h) (by kernel_rfl) ?_ (by assumption) ?_
                rotate_left
                · intro wx hSw
                  obtain ⟨hS1, hS2⟩ := hSw
                  go_simp
                  try (with_reducible rfl)
                try simp only [Act.put, List.setIfInBounds_toArray, List.set_cons_zero, List.set_cons_succ]
                refine takeD (i := 7) (some 141) (v := ?_) rfl rfl (by kernel_rfl) (by kernel_rfl) (by kernel_rfl) (fun _ _ _ h => h) (by kernel_rfl) ?_ (by assumption) ?_
                rotate_left
                · intro wx hSw
                  obtain ⟨hS1, hS2⟩ := hSw
                  go_simp
                  try (with_reducible rfl)
                try simp only [Act.put, List.setIfInBounds_toArray, List.set_cons_zero, List.set_cons_succ]
                refine takeD (i := 8) (some 142) (v := ?_) rfl rfl (by kernel_rfl) (by kernel_rfl) (by kernel_rfl) (fun _ _ _ h => h) (by kernel_rfl) ?_ (by assumption) ?_
                rotate_left
                · intro wx hSw
                  obtain ⟨hS1, hS2⟩ := hSw
                  go_simp
                  try (with_reducible rfl)
                try simp only [Act.put, List.setIfInBounds_toArray, List.set_cons_zero, List.set_cons_succ]
                refine takeD (i := 9) (some 143) (v := ?_) rfl rfl (by kernel_rfl) (by kernel_rfl) (by kernel_rfl) (fun _ _ _ h => h) (by kernel_rfl) ?_ (by assumption) ?_
                rotate_left
                · intro wx hSw
                  obtain ⟨hS1, hS2⟩ := hSw
                  go_simp
                  try (with_reducible rfl)
                try simp only [Act.put, List.setIfInBounds_toArray, List.set_cons_zero, List.set_cons_succ]
                refine takeD (i := 10) (some 144) (v := ?_) rfl rfl (by kernel_rfl) (by kernel_rfl) (by kernel_rfl) (fun _ _ _ h => h) (by kernel_rfl) ?_ (by assumption) ?_
                rotate_left
                · intro wx hSw
                  obtain ⟨hS1, hS2⟩ := hSw
                  go_simp
                  try (with_reducible rfl)
                try simp only [Act.put, List.setIfInBounds_toArray, List.set_cons_zero, List.set_cons_succ]
                refine takeD (i := 11) (some 145) (v := ?_) rfl rfl (by kernel_rfl) (by kernel_rfl) (by kernel_rfl) (fun _ _ _ h => h) (by kernel_rfl) ?_ (by assumption) ?_
                rotate_left
                · intro wx hSw
                  obtain ⟨hS1, hS2⟩ := hSw
                  go_simp
                  try (with_reducible rfl)
                try simp only [Act.put, List.setIfInBounds_toArray, List.set_cons_zero, List.set_cons_succ]
                refine takeD (i := 12) (some 146) (v := ?_) rfl rfl (by kernel_rfl) (by kernel_rfl) (by kernel_rfl) (fun _ _ _ h => h) (by kernel_rfl) ?_ (by assumption) ?_
                rotate_left
                · intro wx hSw
                  obtain ⟨hS1, hS2⟩ := hSw
                  go_simp
                  try (with_reducible rfl)
                try simp only [Act.put, List.setIfInBounds_toArray, List.set_cons_zero, List.set_cons_succ]
                refine takeD (i := 13) (some 147) (v := ?_) rfl rfl (by kernel_rfl) (by kernel_rfl) (by kernel_rfl) (fun _ _ _ h => h) (by kernel_rfl) ?_ (by assumption) ?_
                rotate_left
                · intro wx hSw
                  obtain ⟨hS1, hS2⟩ := hSw
                  go_simp
                  try (with_reducible rfl)
                try simp only [Act.put, List.setIfInBounds_toArray, List.set_cons_zero, List.set_cons_succ]
                refine takeD (i := 14) (some 148) (v := ?_) rfl rfl (by kernel_rfl) (by kernel_rfl) (by kernel_rfl) (fun _ _ _ h => h) (by kernel_rfl) ?_ (by assumption) ?_
                rotate_left
                · intro wx hSw
                  obtain ⟨hS1, hS2⟩ := hSw
                  go_simp
                  try (with_reducible rfl)
                try simp only [Act.put, List.setIfInBounds_toArray, List.set_cons_zero, List.set_cons_succ]
                refine takeD (i := 15) (some 149) (v := ?_) rfl rfl (by kernel_rfl) (by kernel_rfl) (by kernel_rfl) (fun _ _ _ h => h) (by kernel_rfl) ?_ (by assumption) ?_
                rotate_left
                · intro wx hSw
                  obtain ⟨hS1, hS2⟩ := hSw
                  go_simp
                  try (with_reducible rfl)
                try simp only [Act.put, List.setIfInBounds_toArray, List.set_cons_zero, List.set_cons_succ]
                refine wpAnyH_ready (rs := [16]) (by kernel_rfl) (by simp) ?_
                refine AllReadyH.cons rfl (fun K hK => ?_) AllReadyH.nil
                go_simp
                refine hK.out _ _ hSS22 (fun hHeld => ?_)
                clear hK K
                try simp only [Act.put, List.setIfInBounds_toArray, List.set_cons_zero, List.set_cons_succ]
                refine wpAnyH_done (by kernel_rfl) ?_ _
                clear hHeld
                have cN := blk_cell kN
                unfold Rnd.cells at cN
                have cB := blk_cell HF.out.box
                have fB := blk_free HF.out.box
                unfold Rnd.cells at cB
                have HL2 : Hid (FS w gq bx q0 q1 Y (put5 V4 bx (.slice Y.aQ Y.nQ Y.cQ) (.slice Y.aD Y.nD Y.cD) (.int .i64 Y.turn) (.bool Y.fresh) (.slice Y.aS Y.nS Y.cS))) := HF.out.lay HOY.out HYo.out
                unfold put5 at HL2
                go_wp2_with fail
                go_roundw
                case rel =>
                  repeat apply Exists.intro
                  refine ⟨?_, rfl⟩
                  exact ⟨k + 1, Y, a2, b, by omega, rfl, rfl, by go_num, HL2.out, HFY.out, by omega, by omega, by omega, by omega⟩
                case measure => simp [intOf]; omega
              · have hw0 : IntKind.i64.wrap (b + s) = b + s := wrapF _ (by omega) (by omega)
                go_wp2_with fail
                generalize w9.alloc (.cells #[.slice Y.aQ Y.nQ Y.cQ, .slice Y.aD Y.nD Y.cD, .int .i64 Y.turn, .bool Y.fresh, .slice Y.aS Y.nS Y.cS] 27) = w10 at *
                generalize w9.heap.size = bN at *
                have hn1 : 0 ≤ b + s ∧ b + s ≤ 5 * ((k : Int) + 1) := by omega
                clear hw0 cA
                generalize b + s = b2 at *
                have hA4 : 0 ≤ a ∧ a ≤ 400 ∧ a ≤ 5 * ((k : Int) + 1) := by omega
                have hB4 : 0 ≤ b2 ∧ b2 ≤ 400 ∧ b2 ≤ 5 * ((k : Int) + 1) := by omega
                have hMo := hFY.most HYo.out m0 m1 hq0 hq1
                have HFY : Hid (FairR Y q0 q1 a b2) := hFY
                obtain ⟨pA, hpA⟩ : ∃ pA, a * q1 = pA := ⟨_, rfl⟩
                obtain ⟨pB, hpB⟩ : ∃ pB, b2 * q0 = pB := ⟨_, rfl⟩
                obtain ⟨pQ, hpQ⟩ : ∃ pQ, q0 * q1 = pQ := ⟨_, rfl⟩
                have bA := mul_bd a q1 (by omega) (by omega) (by omega) (by omega)
                have bB := mul_bd b2 q0 (by omega) (by omega) (by omega) (by omega)
                have bQ := mul_bd q0 q1 (by omega) (by omega) (by omega) (by omega)
                rw [hpA, hpB, hpQ] at hMo
                rw [hpA] at bA
                rw [hpB] at bB
                rw [hpQ] at bQ
                have y1 := wrapF pA (by omega) (by omega)
                have y2 := wrapF pB (by omega) (by omega)
                have y3 := wrapF (pA - pB) (by omega) (by omega)
                have y4 := wrapF pQ (by omega) (by omega)
                have y5 := wrapF (q0 + q1) (by omega) (by omega)
                have y6 := wrapF (5 * (q0 + q1)) (by omega) (by omega)
                have y7 := wrapF (pQ + 5 * (q0 + q1)) (by omega) (by omega)
                have y8 := wrapF (-(pA - pB)) (by omega) (by omega)
                have hd1 : ¬ pQ + 5 * (q0 + q1) < pA - pB := by omega
                have hd2 : ¬ pQ + 5 * (q0 + q1) < -(pA - pB) := by omega
                clear hFY hn1
                have hd : Below w10.heap.size w10 w10.drew := (Below.refl _ _).drew
                replace HF : Hid (FS w gq bx q0 q1 X w10.drew) := HF.out.below hd
                replace HOY : Hid (OwnRo w10.drew (gq + 1) Y) := HOY.out.up hd
                replace kN := (hd.block _ (blk_lt kN)).trans kN
                clear hd
                have hSS21 : w10.drew.cell? ⟨gq, 0, none⟩ = some (.int .i64 q0) ∧ w10.drew.cell? ⟨gq, 1, none⟩ = some (.int .i64 q1) := ⟨by rw [blk_cell HF.out.row]; rfl, by rw [blk_cell HF.out.row]; rfl⟩
                refine wp_region_held_drew (S := fun w' => w'.cell? ⟨gq, 0, none⟩ = some (.int .i64 q0) ∧ w'.cell? ⟨gq, 1, none⟩ = some (.int .i64 q1)) (by kernel_rfl) hSS21 (fun hHeld => ?_)
                generalize w10.drew = V3 at *
                refine takeD (i := 0) (some 123) (v := ?_) rfl rfl (by kernel_rfl) (by kernel_rfl) (by kernel_rfl) (fun _ _ _ h => h) (by kernel_rfl) ?_ (by assumption) ?_
                rotate_left
                · intro wx hSw
                  obtain ⟨hS1, hS2⟩ := hSw
                  go_simp
                  try (with_reducible rfl)
                try simp only [Act.put, List.setIfInBounds_toArray, List.set_cons_zero, List.set_cons_succ]
                refine takeD (i := 1) (some 124) (v := ?_) rfl rfl (by kernel_rfl) (by kernel_rfl) (by kernel_rfl) (fun _ _ _ h => h) (by kernel_rfl) ?_ (by assumption) ?_
                rotate_left
                · intro wx hSw
                  obtain ⟨hS1, hS2⟩ := hSw
                  go_simp
                  try (with_reducible rfl)
                try simp only [Act.put, List.setIfInBounds_toArray, List.set_cons_zero, List.set_cons_succ]
                refine takeD (i := 2) (some 125) (v := ?_) rfl rfl (by kernel_rfl) (by kernel_rfl) (by kernel_rfl) (fun _ _ _ h => h) (by kernel_rfl) ?_ (by assumption) ?_
                rotate_left
                · intro wx hSw
                  obtain ⟨hS1, hS2⟩ := hSw
                  go_simp
                  try (with_reducible rfl)
                try simp only [Act.put, List.setIfInBounds_toArray, List.set_cons_zero, List.set_cons_succ]
                refine takeD (i := 3) (some 126) (v := ?_) rfl rfl (by kernel_rfl) (by kernel_rfl) (by kernel_rfl) (fun _ _ _ h => h) (by kernel_rfl) ?_ (by assumption) ?_
                rotate_left
                · intro wx hSw
                  obtain ⟨hS1, hS2⟩ := hSw
                  go_simp
                  try (with_reducible rfl)
                try simp only [Act.put, List.setIfInBounds_toArray, List.set_cons_zero, List.set_cons_succ]
                refine takeD (i := 4) (some 127) (v := ?_) rfl rfl (by kernel_rfl) (by kernel_rfl) (by kernel_rfl) (fun _ _ _ h => h) (by kernel_rfl) ?_ (by assumption) ?_
                rotate_left
                · intro wx hSw
                  obtain ⟨hS1, hS2⟩ := hSw
                  go_simp
                  try (with_reducible rfl)
                try simp only [Act.put, List.setIfInBounds_toArray, List.set_cons_zero, List.set_cons_succ]
                refine takeD (i := 5) (some 128) (v := ?_) rfl rfl (by kernel_rfl) (by kernel_rfl) (by kernel_rfl) (fun _ _ _ h => h) (by kernel_rfl) ?_ (by assumption) ?_
                rotate_left
                · intro wx hSw
                  obtain ⟨hS1, hS2⟩ := hSw
                  go_simp
                  try (with_reducible rfl)
                try simp only [Act.put, List.setIfInBounds_toArray, List.set_cons_zero, List.set_cons_succ]
                refine takeD (i := 6) (some 129) (v := ?_) rfl rfl (by kernel_rfl) (by kernel_rfl) (by kernel_rfl) (fun _ _ _ h => h) (by kernel_rfl) ?_ (by assumption) ?_
                rotate_left
                · intro wx hSw
                  obtain ⟨hS1, hS2⟩ := hSw
                  go_simp
                  try (with_reducible rfl)
                try simp only [Act.put, List.setIfInBounds_toArray, List.set_cons_zero, List.set_cons_succ]
                refine takeD (i := 7) (some 130) (v := ?_) rfl rfl (by kernel_rfl) (by kernel_rfl) (by kernel_rfl) (fun _ _ _ h => h) (by kernel_rfl) ?_ (by assumption) ?_
                rotate_left
                · intro wx hSw
                  obtain ⟨hS1, hS2⟩ := hSw
                  go_simp
                  try (with_reducible rfl)
                try simp only [Act.put, List.setIfInBounds_toArray, List.set_cons_zero, List.set_cons_succ]
                refine takeD (i := 8) (some 131) (v := ?_) rfl rfl (by kernel_rfl) (by kernel_rfl) (by kernel_rfl) (fun _ _ _ h => h) (by kernel_rfl) ?_ (by assumption) ?_
                rotate_left
                · intro wx hSw
                  obtain ⟨hS1, hS2⟩ := hSw
                  go_simp
                  try (with_reducible rfl)
                try simp only [Act.put, List.setIfInBounds_toArray, List.set_cons_zero, List.set_cons_succ]
                refine takeD (i := 9) (some 132) (v := ?_) rfl rfl (by kernel_rfl) (by kernel_rfl) (by kernel_rfl) (fun _ _ _ h => h) (by kernel_rfl) ?_ (by assumption) ?_
                rotate_left
                · intro wx hSw
                  obtain ⟨hS1, hS2⟩ := hSw
                  go_simp
                  try (with_reducible rfl)
                try simp only [Act.put, List.setIfInBounds_toArray, List.set_cons_zero, List.set_cons_succ]
                refine takeD (i := 10) (some 133) (v := ?_) rfl rfl (by kernel_rfl) (by kernel_rfl) (by kernel_rfl) (fun _ _ _ h => h) (by kernel_rfl) ?_ (by assumption) ?_
                rotate_left
                · intro wx hSw
                  obtain ⟨hS1, hS2⟩ := hSw
                  go_simp
                  try (with_reducible rfl)
                try simp only [Act.put, List.setIfInBounds_toArray, List.set_cons_zero, List.set_cons_succ]
                refine wpAnyH_ready (rs := [11]) (by kernel_rfl) (by simp) ?_
                refine AllReadyH.cons rfl (fun K hK => ?_) AllReadyH.nil
                go_simp
                refine hK.out _ _ hSS21 (fun hHeld => ?_)
                clear hK K
                try simp only [Act.put, List.setIfInBounds_toArray, List.set_cons_zero, List.set_cons_succ]
                refine wpAnyH_done (by kernel_rfl) ?_ _
                clear hHeld
                go_wp2_with fail
                have hd : Below V3.heap.size V3 V3.drew := (Below.refl _ _).drew
                replace HF : Hid (FS w gq bx q0 q1 X V3.drew) := HF.out.below hd
                replace HOY : Hid (OwnRo V3.drew (gq + 1) Y) := HOY.out.up hd
                replace kN := (hd.block _ (blk_lt kN)).trans kN
                clear hd
                have hSS22 : V3.drew.cell? ⟨gq, 0, none⟩ = some (.int .i64 q0) ∧ V3.drew.cell? ⟨gq, 1, none⟩ = some (.int .i64 q1) := ⟨by rw [blk_cell HF.out.row]; rfl, by rw [blk_cell HF.out.row]; rfl⟩
                refine wp_region_held_drew (S := fun w' => w'.cell? ⟨gq, 0, none⟩ = some (.int .i64 q0) ∧ w'.cell? ⟨gq, 1, none⟩ = some (.int .i64 q1)) (by kernel_rfl) hSS22 (fun hHeld => ?_)
                generalize V3.drew = V4 at *
                refine takeD (i := 0) (some 134) (v := ?_) rfl rfl (by kernel_rfl) (by kernel_rfl) (by kernel_rfl) (fun _ _ _ h => h) (by kernel_rfl) ?_ (by assumption) ?_
                rotate_left
                · intro wx hSw
                  obtain ⟨hS1, hS2⟩ := hSw
                  go_simp
                  try (with_reducible rfl)
                try simp only [Act.put, List.setIfInBounds_toArray, List.set_cons_zero, List.set_cons_succ]
                refine takeD (i := 1) (some 135) (v := ?_) rfl rfl (by kernel_rfl) (by kernel_rfl) (by kernel_rfl) (fun _ _ _ h => h) (by kernel_rfl) ?_ (by assumption) ?_
                rotate_left
                · intro wx hSw
                  obtain ⟨hS1, hS2⟩ := hSw
                  go_simp
                  try (with_reducible rfl)
                try simp only [Act.put, List.setIfInBounds_toArray, List.set_cons_zero, List.set_cons_succ]
                refine takeD (i := 2) (some 136) (v := ?_) rfl rfl (by kernel_rfl) (by kernel_rfl) (by kernel_rfl) (fun _ _ _ h => h) (by kernel_rfl) ?_ (by assumption) ?_
                rotate_left
                · intro wx hSw
                  obtain ⟨hS1, hS2⟩ := hSw
                  go_simp
                  try (with_reducible rfl)
                try simp only [Act.put, List.setIfInBounds_toArray, List.set_cons_zero, List.set_cons_succ]
                refine takeD (i := 3) (some 137) (v := ?_) rfl rfl (by kernel_rfl) (by kernel_rfl) (by kernel_rfl) (fun _ _ _ h => h) (by kernel_rfl) ?_ (by assumption) ?_
                rotate_left
                · intro wx hSw
                  obtain ⟨hS1, hS2⟩ := hSw
                  go_simp
                  try (with_reducible rfl)
                try simp only [Act.put, List.setIfInBounds_toArray, List.set_cons_zero, List.set_cons_succ]
                refine takeD (i := 4) (some 138) (v := ?_) rfl rfl (by kernel_rfl) (by kernel_rfl) (by kernel_rfl) (fun _ _ _ h => h) (by kernel_rfl) ?_ (by assumption) ?_
                rotate_left
                · intro wx hSw
                  obtain ⟨hS1, hS2⟩ := hSw
                  go_simp
                  try (with_reducible rfl)
                try simp only [Act.put, List.setIfInBounds_toArray, List.set_cons_zero, List.set_cons_succ]
                refine takeD (i := 5) (some 139) (v := ?_) rfl rfl (by kernel_rfl) (by kernel_rfl) (by kernel_rfl) (fun _ _ _ h => h) (by kernel_rfl) ?_ (by assumption) ?_
                rotate_left
                · intro wx hSw
                  obtain ⟨hS1, hS2⟩ := hSw
                  go_simp
                  try (with_reducible rfl)
                try simp only [Act.put, List.setIfInBounds_toArray, List.set_cons_zero, List.set_cons_succ]
                refine takeD (i := 6) (some 140) (v := ?_) rfl rfl (by kernel_rfl) (by kernel_rfl) (by kernel_rfl) (fun _ _ _ h => h) (by kernel_rfl) ?_ (by assumption) ?_
                rotate_left
                · intro wx hSw
                  obtain ⟨hS1, hS2⟩ := hSw
                  go_simp
                  try (with_reducible rfl)
                try simp only [Act.put, List.setIfInBounds_toArray, List.set_cons_zero, List.set_cons_succ]
                refine takeD (i := 7) (some 141) (v := ?_) rfl rfl (by kernel_rfl) (by kernel_rfl) (by kernel_rfl) (fun _ _ _ h => h) (by kernel_rfl) ?_ (by assumption) ?_
                rotate_left
                · intro wx hSw
                  obtain ⟨hS1, hS2⟩ := hSw
                  go_simp
                  try (with_reducible rfl)
                try simp only [Act.put, List.setIfInBounds_toArray, List.set_cons_zero, List.set_cons_succ]
                refine takeD (i := 8) (some 142) (v := ?_) rfl rfl (by kernel_rfl) (by kernel_rfl) (by kernel_rfl) (fun _ _ _ h => h) (by kernel_rfl) ?_ (by assumption) ?_
                rotate_left
                · intro wx hSw
                  obtain ⟨hS1, hS2⟩ := hSw
                  go_simp
                  try (with_reducible rfl)
                try simp only [Act.put, List.setIfInBounds_toArray, List.set_cons_zero, List.set_cons_succ]
                refine takeD (i := 9) (some 143) (v := ?_) rfl rfl (by kernel_rfl) (by kernel_rfl) (by kernel_rfl) (fun _ _ _ h => h) (by kernel_rfl) ?_ (by assumption) ?_
                rotate_left
                · intro wx hSw
                  obtain ⟨hS1, hS2⟩ := hSw
                  go_simp
                  try (with_reducible rfl)
                try simp only [Act.put, List.setIfInBounds_toArray, List.set_cons_zero, List.set_cons_succ]
                refine takeD (i := 10) (some 144) (v := ?_) rfl rfl (by kernel_rfl) (by kernel_rfl) (by kernel_rfl) (fun _ _ _ h => h) (by kernel_rfl) ?_ (by assumption) ?_
                rotate_left
                · intro wx hSw
                  obtain ⟨hS1, hS2⟩ := hSw
                  go_simp
                  try (with_reducible rfl)
                try simp only [Act.put, List.setIfInBounds_toArray, List.set_cons_zero, List.set_cons_succ]
                refine takeD (i := 11) (some 145) (v := ?_) rfl rfl (by kernel_rfl) (by kernel_rfl) (by kernel_rfl) (fun _ _ _ h => h) (by kernel_rfl) ?_ (by assumption) ?_
                rotate_left
                · intro wx hSw
                  obtain ⟨hS1, hS2⟩ := hSw
                  go_simp
                  try (with_reducible rfl)
                try simp only [Act.put, List.setIfInBounds_toArray, List.set_cons_zero, List.set_cons_succ]
                refine takeD (i := 12) (some 146) (v := ?_) rfl rfl (by kernel_rfl) (by kernel_rfl) (by kernel_rfl) (fun _ _ _ h => h) (by kernel_rfl) ?_ (by assumption) ?_
                rotate_left
                · intro wx hSw
                  obtain ⟨hS1, hS2⟩ := hSw
                  go_simp
                  try (with_reducible rfl)
                try simp only [Act.put, List.setIfInBounds_toArray, List.set_cons_zero, List.set_cons_succ]
                refine takeD (i := 13) (some 147) (v := ?_) rfl rfl (by kernel_rfl) (by kernel_rfl) (by kernel_rfl) (fun _ _ _ h => h) (by kernel_rfl) ?_ (by assumption) ?_
                rotate_left
                · intro wx hSw
                  obtain ⟨hS1, hS2⟩ := hSw
                  go_simp
                  try (with_reducible rfl)
                try simp only [Act.put, List.setIfInBounds_toArray, List.set_cons_zero, List.set_cons_succ]
                refine takeD (i := 14) (some 148) (v := ?_) rfl rfl (by kernel_rfl) (by kernel_rfl) (by kernel_rfl) (fun _ _ _ h => h) (by kernel_rfl) ?_ (by assumption) ?_
                rotate_left
                · intro wx hSw
                  obtain ⟨hS1, hS2⟩ := hSw
                  go_simp
                  try (with_reducible rfl)
                try simp only [Act.put, List.setIfInBounds_toArray, List.set_cons_zero, List.set_cons_succ]
                refine takeD (i := 15) (some 149) (v := ?_) rfl rfl (by kernel_rfl) (by kernel_rfl) (by kernel_rfl) (fun _ _ _ h => h) (by kernel_rfl) ?_ (by assumption) ?_
                rotate_left
                · intro wx hSw
                  obtain ⟨hS1, hS2⟩ := hSw
                  go_simp
                  try (with_reducible rfl)
                try simp only [Act.put, List.setIfInBounds_toArray, List.set_cons_zero, List.set_cons_succ]
                refine wpAnyH_ready (rs := [16]) (by kernel_rfl) (by simp) ?_
                refine AllReadyH.cons rfl (fun K hK => ?_) AllReadyH.nil
                go_simp
                refine hK.out _ _ hSS22 (fun hHeld => ?_)
                clear hK K
                try simp only [Act.put, List.setIfInBounds_toArray, List.set_cons_zero, List.set_cons_succ]
                refine wpAnyH_done (by kernel_rfl) ?_ _
                clear hHeld
                have cN := blk_cell kN
                unfold Rnd.cells at cN
                have cB := blk_cell HF.out.box
                have fB := blk_free HF.out.box
                unfold Rnd.cells at cB
                have HL2 : Hid (FS w gq bx q0 q1 Y (put5 V4 bx (.slice Y.aQ Y.nQ Y.cQ) (.slice Y.aD Y.nD Y.cD) (.int .i64 Y.turn) (.bool Y.fresh) (.slice Y.aS Y.nS Y.cS))) := HF.out.lay HOY.out HYo.out
                unfold put5 at HL2
                go_wp2_with fail
                go_roundw
                case rel =>
                  repeat apply Exists.intro
                  refine ⟨?_, rfl⟩
                  exact ⟨k + 1, Y, a, b2, by omega, rfl, rfl, by go_num, HL2.out, HFY.out, by omega, by omega, by omega, by omega⟩
                case measure => simp [intOf]; omega
            · have l1' : ¬ (1 : Int) < (X.L 1 : Int) := by omega
              have B := HF.out.bel
              go_wp2_with fail
              go_ret
              exact ⟨rfl, B⟩
          · have l0' : ¬ (1 : Int) < (X.L 0 : Int) := by omega
            have B := HF.out.bel
            go_wp2_with fail
            go_ret
            exact ⟨rfl, B⟩
        · obtain rfl : k = 80 := by omega
          have B := HF.out.bel
          go_wp2_with fail
          go_ret
          exact ⟨rfl, B⟩
end Go.Proofs.Ytnfcmiiibkbmfaa
