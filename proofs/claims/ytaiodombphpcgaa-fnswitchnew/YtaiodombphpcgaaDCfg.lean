/- A configuration, as the reader draws it. -/
import Derived.Test.YtaiodombphpcgaaCnC
import Derived.Test.YtaiodombphpcgaaRd2
namespace Go.Proofs.Ytaiodombphpcgaa
open Go.RowKit
set_option linter.unusedVariables false
set_option linter.unusedSimpArgs false

theorem Rd.drewC {g : Nat} {cv : Value} {w : World} (h : Rd g cv w) : Rd g cv w.drew := h.keep (fun _ _ => rfl)
theorem Kept.drewC {g : Nat} {a b : World} (h : Kept g a b) : Kept g a b.drew := ⟨h.os, h.tape, h.output, h.size, h.block⟩
/-- seven stores -/
def put7 (W : World) (k : Nat) (C : Cfg) : World := ((((((W.setCell ⟨k, 0, none⟩ (.int .i64 C.p)).setCell ⟨k, 1, none⟩ (.int .i64 C.c)).setCell ⟨k, 2, none⟩ (.int .i64 C.xo)).setCell ⟨k, 3, none⟩ (.int .i64 C.xn)).setCell ⟨k, 4, none⟩ (.int .i64 C.hd)).setCell ⟨k, 5, none⟩ (.int .i64 C.lo)).setCell ⟨k, 6, none⟩ (.int .i64 C.dl)
theorem put7_blk {W : World} {k : Nat} {a b c d e f g : Value} {t : TypeId} (h : W.heap[k]? = some (.cells #[a, b, c, d, e, f, g] t (0, 0))) (C : Cfg) : (put7 W k C).heap[k]? = some (.cells C.cells t (0, 0)) := by
  have h6 := blk_set (i := 6) (blk_set (i := 5) (blk_set (i := 4) (blk_set (i := 3) (blk_set (i := 2) (blk_set (i := 1) (blk_set (i := 0) h (.int .i64 C.p)) (.int .i64 C.c)) (.int .i64 C.xo)) (.int .i64 C.xn)) (.int .i64 C.hd)) (.int .i64 C.lo)) (.int .i64 C.dl)
  simp only [List.setIfInBounds_toArray, List.set_cons_zero, List.set_cons_succ] at h6
  exact h6
theorem put7_kept {g k : Nat} {a W : World} (h : Kept g a W) (hk : a.heap.size ≤ k) (C : Cfg) : Kept g a (put7 W k C) := ((((((h.setNew hk 0 _).setNew hk 1 _).setNew hk 2 _).setNew hk 3 _).setNew hk 4 _).setNew hk 5 _).setNew hk 6 _
theorem put7_rd {g k : Nat} {cv : Value} {W : World} (h : Rd g cv W) (hk : g < k) (C : Cfg) : Rd g cv (put7 W k C) := ((((((h.setNew hk 0 _).setNew hk 1 _).setNew hk 2 _).setNew hk 3 _).setNew hk 4 _).setNew hk 5 _).setNew hk 6 _
set_option maxRecDepth 100000 in
set_option maxHeartbeats 8000000 in
theorem config_any (g : Nat) (cv : Value) (w : World) (h : Rd g cv w) :
    Calls Try.prog 14 #[.pointer (some ⟨g, 0, none⟩)] w fun e w' => ∃ C : Cfg, e = .returned (.agg C.cells) ∧ 2 ≤ C.p ∧ C.p ≤ 4 ∧ Rd g cv w' ∧ Kept g w w' := by
  have hR := h.alloc (.cells #[.int .i64 0, .int .i64 0, .int .i64 0, .int .i64 0, .int .i64 0, .int .i64 0, .int .i64 0] 25)
  have HK0 : Hid (∀ W, Kept g (w.alloc (.cells #[.int .i64 0, .int .i64 0, .int .i64 0, .int .i64 0, .int .i64 0, .int .i64 0, .int .i64 0] 25)) W → W.heap[w.heap.size]? = some (.cells #[.int .i64 0, .int .i64 0, .int .i64 0, .int .i64 0, .int .i64 0, .int .i64 0, .int .i64 0] 25 (0, 0)) ∧ Kept g w W) := fun W hW => ⟨kblk hW (blk_new _ _) (by have := h.lt; omega), kept_alloc hW⟩
  have Hg : Hid (g < w.heap.size) := h.lt
  have hJ : Kept g (w.alloc (.cells #[.int .i64 0, .int .i64 0, .int .i64 0, .int .i64 0, .int .i64 0, .int .i64 0, .int .i64 0] 25)) (w.alloc (.cells #[.int .i64 0, .int .i64 0, .int .i64 0, .int .i64 0, .int .i64 0, .int .i64 0, .int .i64 0] 25)) := Kept.refl _ _
  clear h
  go_enter Try.func14, Try.ntmps14
  go_wp2_with fail
  refine (below_any g cv 3 _ hR (by omega) (by omega)).mono ?_
  rintro e w1 ⟨x, hx, rfl, hR1, hJ1⟩
  replace hJ := hJ.trans hJ1
  clear hR
  have hR := hR1
  clear hR1 hJ1
  go_wp2_with fail
  refine (below_any g cv 12 _ hR (by omega) (by omega)).mono ?_
  rintro e w2 ⟨y, hy, rfl, hR1, hJ1⟩
  replace hJ := hJ.trans hJ1
  clear hR
  have hR := hR1
  clear hR1 hJ1
  go_wp2_with fail
  refine (below_any g cv 3 _ hR (by omega) (by omega)).mono ?_
  rintro e w3 ⟨v, hv, rfl, hR1, hJ1⟩
  replace hJ := hJ.trans hJ1
  clear hR
  have hR := hR1
  clear hR1 hJ1
  go_wp2_with fail
  refine (below_any g cv 20 _ hR (by omega) (by omega)).mono ?_
  rintro e w4 ⟨z, hz, rfl, hR1, hJ1⟩
  replace hJ := hJ.trans hJ1
  clear hR
  have hR := hR1
  clear hR1 hJ1
  have hP1 : 2 ≤ 2 + (x : Int) := by omega
  have hP2 : 2 + (x : Int) ≤ 4 := by omega
  have hY1 : 2 ≤ 2 + (y : Int) := by omega
  have hY2 : 2 + (y : Int) ≤ 13 := by omega
  have hV1 : 1 ≤ 1 + (v : Int) := by omega
  have hV2 : 1 + (v : Int) ≤ 3 := by omega
  have hZ1 : 5 ≤ 5 + (z : Int) := by omega
  have hZ2 : 5 + (z : Int) ≤ 24 := by omega
  go_wp2_with fail
  generalize 2 + (x : Int) = P at *
  generalize 2 + (y : Int) = Y at *
  generalize 1 + (v : Int) = V at *
  generalize 5 + (z : Int) = Z at *
  clear hx hy hv hz
  have kC := blk_new w4 (.cells #[.int .i64 P, .int .i64 0, .int .i64 Y, .int .i64 0, .int .i64 0, .int .i64 Z, .int .i64 V] 25)
  have HgC : Hid ((w.alloc (.cells #[.int .i64 0, .int .i64 0, .int .i64 0, .int .i64 0, .int .i64 0, .int .i64 0, .int .i64 0] 25)).heap.size ≤ w4.heap.size ∧ w4.heap.size ≠ g) := ⟨hJ.size, by have := hR.lt; omega⟩
  replace hJ := hJ.alloc (.cells #[.int .i64 P, .int .i64 0, .int .i64 Y, .int .i64 0, .int .i64 0, .int .i64 Z, .int .i64 V] 25)
  replace hR := hR.alloc (.cells #[.int .i64 P, .int .i64 0, .int .i64 Y, .int .i64 0, .int .i64 0, .int .i64 Z, .int .i64 V] 25)
  generalize w4.alloc (.cells #[.int .i64 P, .int .i64 0, .int .i64 Y, .int .i64 0, .int .i64 0, .int .i64 Z, .int .i64 V] 25) = w5 at *
  refine (below_any g cv Y _ hR (by omega) (by omega)).mono ?_
  rintro e w6 ⟨x5, hx5, rfl, hR1, hJ1⟩
  replace hJ := hJ.trans hJ1
  replace kC := kblk hJ1 kC HgC.out.2
  clear hR
  have hR := hR1
  clear hR1 hJ1
  have cC := blk_cell kC
  have fC := blk_free kC
  go_wp2_with fail
  clear cC fC
  replace hJ := hJ.setNew HgC.out.1 3 (.int .i64 x5)
  replace hR := hR.setNew (k := w4.heap.size) (by have := HgC.out; have := Hg.out; simp at *; omega) 3 (.int .i64 x5)
  replace kC := blk_set (i := 3) kC (.int .i64 x5)
  generalize w6.setCell ⟨w4.heap.size, 3, none⟩ (.int .i64 x5) = W7 at *
  generalize (x5 : Int) = X at *
  have e1 : IntKind.i64.wrap (2 * V) = 2 * V := wrapC _ (by omega) (by omega)
  have e2 : IntKind.i64.wrap (2 * V + 1) = 2 * V + 1 := wrapC _ (by omega) (by omega)
  have e3 : IntKind.i64.wrap ((2 * V + 1) * 5) = (2 * V + 1) * 5 := wrapC _ (by omega) (by omega)
  refine wp_region_held_drew (S := fun w' => w'.cell? ⟨w4.heap.size, 6, none⟩ = some (.int .i64 V)) (by kernel_rfl) (blk_cell kC 6) (fun hHeld => ?_)
  refine takeD (i := 0) (some 22) (v := ?_) rfl rfl (by kernel_rfl) (by kernel_rfl) (by kernel_rfl) (fun _ _ _ h => h) (by kernel_rfl) ?_ (by assumption) ?_
  rotate_left
  · intro wx hSw
    try dsimp only at hSw
    go_simp
    try (with_reducible rfl)
  try simp only [Act.put, List.setIfInBounds_toArray, List.set_cons_zero, List.set_cons_succ]
  refine takeD (i := 1) (some 23) (v := ?_) rfl rfl (by kernel_rfl) (by kernel_rfl) (by kernel_rfl) (fun _ _ _ h => h) (by kernel_rfl) ?_ (by assumption) ?_
  rotate_left
  · intro wx hSw
    try dsimp only at hSw
    go_simp
    try (with_reducible rfl)
  try simp only [Act.put, List.setIfInBounds_toArray, List.set_cons_zero, List.set_cons_succ]
  refine takeD (i := 2) (some 24) (v := ?_) rfl rfl (by kernel_rfl) (by kernel_rfl) (by kernel_rfl) (fun _ _ _ h => h) (by kernel_rfl) ?_ (by assumption) ?_
  rotate_left
  · intro wx hSw
    try dsimp only at hSw
    go_simp
    try (with_reducible rfl)
  try simp only [Act.put, List.setIfInBounds_toArray, List.set_cons_zero, List.set_cons_succ]
  refine takeD (i := 3) (some 25) (v := ?_) rfl rfl (by kernel_rfl) (by kernel_rfl) (by kernel_rfl) (fun _ _ _ h => h) (by kernel_rfl) ?_ (by assumption) ?_
  rotate_left
  · intro wx hSw
    try dsimp only at hSw
    go_simp
    try (with_reducible rfl)
  try simp only [Act.put, List.setIfInBounds_toArray, List.set_cons_zero, List.set_cons_succ]
  refine takeD (i := 4) (some 26) (v := ?_) rfl rfl (by kernel_rfl) (by kernel_rfl) (by kernel_rfl) (fun _ _ _ h => h) (by kernel_rfl) ?_ (by assumption) ?_
  rotate_left
  · intro wx hSw
    try dsimp only at hSw
    go_simp
    try (with_reducible rfl)
  try simp only [Act.put, List.setIfInBounds_toArray, List.set_cons_zero, List.set_cons_succ]
  refine takeD (i := 5) (some 27) (v := ?_) rfl rfl (by kernel_rfl) (by kernel_rfl) (by kernel_rfl) (fun _ _ _ h => h) (by kernel_rfl) ?_ (by assumption) ?_
  rotate_left
  · intro wx hSw
    try dsimp only at hSw
    go_simp
    try (with_reducible rfl)
  try simp only [Act.put, List.setIfInBounds_toArray, List.set_cons_zero, List.set_cons_succ]
  refine wpAnyH_ready (rs := [6]) (by kernel_rfl) (by simp) ?_
  refine AllReadyH.cons rfl (fun K hK => ?_) AllReadyH.nil
  go_simp
  replace hR := hR.drewC
  replace hJ := hJ.drewC
  have kC : W7.drew.heap[w4.heap.size]? = _ := kC
  refine (below_any g cv 4 _ hR (by omega) (by omega)).mono ?_
  rintro e w8 ⟨x6, hx6, rfl, hR1, hJ1⟩
  replace hJ := hJ.trans hJ1
  replace kC := kblk hJ1 kC HgC.out.2
  clear hR
  have hR := hR1
  clear hR1 hJ1
  have s : w8.cell? ⟨w4.heap.size, 6, none⟩ = some (.int .i64 V) := blk_cell kC 6
  have e1 : IntKind.i64.wrap (2 * V) = 2 * V := wrapC _ (by omega) (by omega)
  have e2 : IntKind.i64.wrap (2 * V + 1) = 2 * V + 1 := wrapC _ (by omega) (by omega)
  have e3 : IntKind.i64.wrap ((2 * V + 1) * 5) = (2 * V + 1) * 5 := wrapC _ (by omega) (by omega)
  have e4 : IntKind.i64.wrap ((2 * V + 1) * 5 + x6) = (2 * V + 1) * 5 + x6 := wrapC _ (by omega) (by omega)
  have cC := blk_cell kC
  have fC := blk_free kC
  have s2 : (w8.setCell ⟨w4.heap.size, 4, none⟩ (.int .i64 ((2 * V + 1) * 5 + x6))).cell? ⟨w4.heap.size, 6, none⟩ = some (.int .i64 V) := blk_cell (blk_set (i := 4) kC _) 6
  go_wp2_with fail
  refine hK.out _ _ s (fun hHeld => ?_)
  clear hK K
  try simp only [Act.put, List.setIfInBounds_toArray, List.set_cons_zero, List.set_cons_succ]
  refine takeD (i := 7) (some 29) (v := ?_) rfl rfl (by kernel_rfl) (by kernel_rfl) (by kernel_rfl) (fun _ _ _ h => h) (by kernel_rfl) ?_ (by assumption) ?_
  rotate_left
  · intro wx hSw
    try dsimp only at hSw
    go_simp
    try (with_reducible rfl)
  try simp only [Act.put, List.setIfInBounds_toArray, List.set_cons_zero, List.set_cons_succ]
  refine takeD (i := 8) (some 30) (v := ?_) rfl rfl (by kernel_rfl) (by kernel_rfl) (by kernel_rfl) (fun _ _ _ h => h) (by kernel_rfl) ?_ (by assumption) ?_
  rotate_left
  · intro wx hSw
    try dsimp only at hSw
    go_simp
    try (with_reducible rfl)
  try simp only [Act.put, List.setIfInBounds_toArray, List.set_cons_zero, List.set_cons_succ]
  refine wpAnyH_ready (rs := [9]) (by kernel_rfl) (by simp) ?_
  refine AllReadyH.cons rfl (fun K hK => ?_) AllReadyH.nil
  go_simp
  refine hK.out _ _ s2 (fun hHeld => ?_)
  clear hK K
  try simp only [Act.put, List.setIfInBounds_toArray, List.set_cons_zero, List.set_cons_succ]
  refine wpAnyH_done (by kernel_rfl) ?_ _
  clear hHeld s s2 cC fC
  replace hJ := hJ.setNew HgC.out.1 4 (.int .i64 ((2 * V + 1) * 5 + x6))
  replace hR := hR.setNew (k := w4.heap.size) (by have := HgC.out; have := Hg.out; simp at *; omega) 4 (.int .i64 ((2 * V + 1) * 5 + x6))
  replace kC := blk_set (i := 4) kC (.int .i64 ((2 * V + 1) * 5 + x6))
  have hH1 : 15 ≤ (2 * V + 1) * 5 + x6 := by omega
  have hH2 : (2 * V + 1) * 5 + x6 ≤ 38 := by omega
  clear e1 e2 e3 e4
  go_wp2_with fail
  generalize w8.setCell ⟨w4.heap.size, 4, none⟩ (.int .i64 ((2 * V + 1) * 5 + x6)) = W9 at *
  generalize (2 * V + 1) * 5 + (x6 : Int) = Hd at *
  have hP3 : P = 2 ∨ P = 3 ∨ P = 4 := by omega
  have e5 : IntKind.i64.wrap (Y + Hd) = Y + Hd := wrapC _ (by omega) (by omega)
  have e6 : IntKind.i64.wrap (P * (Y + Hd)) = P * (Y + Hd) := by
    rcases hP3 with h | h | h <;> rw [h] <;> exact wrapC _ (by omega) (by omega)
  have e7 : IntKind.i64.wrap (P * (Y + Hd) + Z) = P * (Y + Hd) + Z := by
    rcases hP3 with h | h | h <;> rw [h] <;> exact wrapC _ (by omega) (by omega)
  have HP3 : Hid (P = 2 ∨ P = 3 ∨ P = 4) := hP3
  clear hP3
  refine wp_region_held_drew (S := fun w' => w'.cell? ⟨w4.heap.size, 0, none⟩ = some (.int .i64 P) ∧ w'.cell? ⟨w4.heap.size, 2, none⟩ = some (.int .i64 Y) ∧ w'.cell? ⟨w4.heap.size, 4, none⟩ = some (.int .i64 Hd) ∧ w'.cell? ⟨w4.heap.size, 5, none⟩ = some (.int .i64 Z)) (by kernel_rfl) ⟨blk_cell kC 0, blk_cell kC 2, blk_cell kC 4, blk_cell kC 5⟩ (fun hHeld => ?_)
  refine takeD (i := 0) (some 31) (v := ?_) rfl rfl (by kernel_rfl) (by kernel_rfl) (by kernel_rfl) (fun _ _ _ h => h) (by kernel_rfl) ?_ (by assumption) ?_
  rotate_left
  · intro wx hSw
    obtain ⟨hS1, hS2, hS3, hS4⟩ := hSw
    go_simp
    try (with_reducible rfl)
  try simp only [Act.put, List.setIfInBounds_toArray, List.set_cons_zero, List.set_cons_succ]
  refine takeD (i := 1) (some 32) (v := ?_) rfl rfl (by kernel_rfl) (by kernel_rfl) (by kernel_rfl) (fun _ _ _ h => h) (by kernel_rfl) ?_ (by assumption) ?_
  rotate_left
  · intro wx hSw
    obtain ⟨hS1, hS2, hS3, hS4⟩ := hSw
    go_simp
    try (with_reducible rfl)
  try simp only [Act.put, List.setIfInBounds_toArray, List.set_cons_zero, List.set_cons_succ]
  refine takeD (i := 2) (some 33) (v := ?_) rfl rfl (by kernel_rfl) (by kernel_rfl) (by kernel_rfl) (fun _ _ _ h => h) (by kernel_rfl) ?_ (by assumption) ?_
  rotate_left
  · intro wx hSw
    obtain ⟨hS1, hS2, hS3, hS4⟩ := hSw
    go_simp
    try (with_reducible rfl)
  try simp only [Act.put, List.setIfInBounds_toArray, List.set_cons_zero, List.set_cons_succ]
  refine takeD (i := 3) (some 34) (v := ?_) rfl rfl (by kernel_rfl) (by kernel_rfl) (by kernel_rfl) (fun _ _ _ h => h) (by kernel_rfl) ?_ (by assumption) ?_
  rotate_left
  · intro wx hSw
    obtain ⟨hS1, hS2, hS3, hS4⟩ := hSw
    go_simp
    try (with_reducible rfl)
  try simp only [Act.put, List.setIfInBounds_toArray, List.set_cons_zero, List.set_cons_succ]
  refine takeD (i := 4) (some 35) (v := ?_) rfl rfl (by kernel_rfl) (by kernel_rfl) (by kernel_rfl) (fun _ _ _ h => h) (by kernel_rfl) ?_ (by assumption) ?_
  rotate_left
  · intro wx hSw
    obtain ⟨hS1, hS2, hS3, hS4⟩ := hSw
    go_simp
    try (with_reducible rfl)
  try simp only [Act.put, List.setIfInBounds_toArray, List.set_cons_zero, List.set_cons_succ]
  refine takeD (i := 5) (some 36) (v := ?_) rfl rfl (by kernel_rfl) (by kernel_rfl) (by kernel_rfl) (fun _ _ _ h => h) (by kernel_rfl) ?_ (by assumption) ?_
  rotate_left
  · intro wx hSw
    obtain ⟨hS1, hS2, hS3, hS4⟩ := hSw
    go_simp
    try (with_reducible rfl)
  try simp only [Act.put, List.setIfInBounds_toArray, List.set_cons_zero, List.set_cons_succ]
  refine takeD (i := 6) (some 37) (v := ?_) rfl rfl (by kernel_rfl) (by kernel_rfl) (by kernel_rfl) (fun _ _ _ h => h) (by kernel_rfl) ?_ (by assumption) ?_
  rotate_left
  · intro wx hSw
    obtain ⟨hS1, hS2, hS3, hS4⟩ := hSw
    go_simp
    try (with_reducible rfl)
  try simp only [Act.put, List.setIfInBounds_toArray, List.set_cons_zero, List.set_cons_succ]
  refine takeD (i := 7) (some 38) (v := ?_) rfl rfl (by kernel_rfl) (by kernel_rfl) (by kernel_rfl) (fun _ _ _ h => h) (by kernel_rfl) ?_ (by assumption) ?_
  rotate_left
  · intro wx hSw
    obtain ⟨hS1, hS2, hS3, hS4⟩ := hSw
    go_simp
    try (with_reducible rfl)
  try simp only [Act.put, List.setIfInBounds_toArray, List.set_cons_zero, List.set_cons_succ]
  refine takeD (i := 8) (some 39) (v := ?_) rfl rfl (by kernel_rfl) (by kernel_rfl) (by kernel_rfl) (fun _ _ _ h => h) (by kernel_rfl) ?_ (by assumption) ?_
  rotate_left
  · intro wx hSw
    obtain ⟨hS1, hS2, hS3, hS4⟩ := hSw
    go_simp
    try (with_reducible rfl)
  try simp only [Act.put, List.setIfInBounds_toArray, List.set_cons_zero, List.set_cons_succ]
  refine takeD (i := 9) (some 40) (v := ?_) rfl rfl (by kernel_rfl) (by kernel_rfl) (by kernel_rfl) (fun _ _ _ h => h) (by kernel_rfl) ?_ (by assumption) ?_
  rotate_left
  · intro wx hSw
    obtain ⟨hS1, hS2, hS3, hS4⟩ := hSw
    go_simp
    try (with_reducible rfl)
  try simp only [Act.put, List.setIfInBounds_toArray, List.set_cons_zero, List.set_cons_succ]
  refine takeD (i := 10) (some 41) (v := ?_) rfl rfl (by kernel_rfl) (by kernel_rfl) (by kernel_rfl) (fun _ _ _ h => h) (by kernel_rfl) ?_ (by assumption) ?_
  rotate_left
  · intro wx hSw
    obtain ⟨hS1, hS2, hS3, hS4⟩ := hSw
    go_simp
    try (with_reducible rfl)
  try simp only [Act.put, List.setIfInBounds_toArray, List.set_cons_zero, List.set_cons_succ]
  refine takeD (i := 11) (some 42) (v := ?_) rfl rfl (by kernel_rfl) (by kernel_rfl) (by kernel_rfl) (fun _ _ _ h => h) (by kernel_rfl) ?_ (by assumption) ?_
  rotate_left
  · intro wx hSw
    obtain ⟨hS1, hS2, hS3, hS4⟩ := hSw
    go_simp
    try (with_reducible rfl)
  try simp only [Act.put, List.setIfInBounds_toArray, List.set_cons_zero, List.set_cons_succ]
  refine wpAnyH_ready (rs := [12]) (by kernel_rfl) (by simp) ?_
  refine AllReadyH.cons rfl (fun K hK => ?_) AllReadyH.nil
  go_simp
  replace hR := hR.drewC
  replace hJ := hJ.drewC
  have kC : W9.drew.heap[w4.heap.size]? = _ := kC
  refine (below_any g cv 9 _ hR (by omega) (by omega)).mono ?_
  rintro e w10 ⟨x7, hx7, rfl, hR1, hJ1⟩
  replace hJ := hJ.trans hJ1
  replace kC := kblk hJ1 kC HgC.out.2
  clear hR
  have hR := hR1
  clear hR1 hJ1
  have s : w10.cell? ⟨w4.heap.size, 0, none⟩ = some (.int .i64 P) ∧ w10.cell? ⟨w4.heap.size, 2, none⟩ = some (.int .i64 Y) ∧ w10.cell? ⟨w4.heap.size, 4, none⟩ = some (.int .i64 Hd) ∧ w10.cell? ⟨w4.heap.size, 5, none⟩ = some (.int .i64 Z) := ⟨blk_cell kC 0, blk_cell kC 2, blk_cell kC 4, blk_cell kC 5⟩
  have e8 : IntKind.i64.wrap (P * (Y + Hd) + Z + x7) = P * (Y + Hd) + Z + x7 := by
    rcases HP3.out with h | h | h <;> rw [h] <;> exact wrapC _ (by omega) (by omega)
  have cC := blk_cell kC
  have fC := blk_free kC
  have s2 : (w10.setCell ⟨w4.heap.size, 1, none⟩ (.int .i64 (P * (Y + Hd) + Z + x7))).cell? ⟨w4.heap.size, 0, none⟩ = some (.int .i64 P) ∧ (w10.setCell ⟨w4.heap.size, 1, none⟩ (.int .i64 (P * (Y + Hd) + Z + x7))).cell? ⟨w4.heap.size, 2, none⟩ = some (.int .i64 Y) ∧ (w10.setCell ⟨w4.heap.size, 1, none⟩ (.int .i64 (P * (Y + Hd) + Z + x7))).cell? ⟨w4.heap.size, 4, none⟩ = some (.int .i64 Hd) ∧ (w10.setCell ⟨w4.heap.size, 1, none⟩ (.int .i64 (P * (Y + Hd) + Z + x7))).cell? ⟨w4.heap.size, 5, none⟩ = some (.int .i64 Z) := ⟨blk_cell (blk_set (i := 1) kC _) 0, blk_cell (blk_set (i := 1) kC _) 2, blk_cell (blk_set (i := 1) kC _) 4, blk_cell (blk_set (i := 1) kC _) 5⟩
  go_wp2_with fail
  refine hK.out _ _ s (fun hHeld => ?_)
  clear hK K
  try simp only [Act.put, List.setIfInBounds_toArray, List.set_cons_zero, List.set_cons_succ]
  refine takeD (i := 13) (some 44) (v := ?_) rfl rfl (by kernel_rfl) (by kernel_rfl) (by kernel_rfl) (fun _ _ _ h => h) (by kernel_rfl) ?_ (by assumption) ?_
  rotate_left
  · intro wx hSw
    obtain ⟨hS1, hS2, hS3, hS4⟩ := hSw
    go_simp
    try (with_reducible rfl)
  try simp only [Act.put, List.setIfInBounds_toArray, List.set_cons_zero, List.set_cons_succ]
  refine takeD (i := 14) (some 45) (v := ?_) rfl rfl (by kernel_rfl) (by kernel_rfl) (by kernel_rfl) (fun _ _ _ h => h) (by kernel_rfl) ?_ (by assumption) ?_
  rotate_left
  · intro wx hSw
    obtain ⟨hS1, hS2, hS3, hS4⟩ := hSw
    go_simp
    try (with_reducible rfl)
  try simp only [Act.put, List.setIfInBounds_toArray, List.set_cons_zero, List.set_cons_succ]
  refine wpAnyH_ready (rs := [15]) (by kernel_rfl) (by simp) ?_
  refine AllReadyH.cons rfl (fun K hK => ?_) AllReadyH.nil
  go_simp
  refine hK.out _ _ s2 (fun hHeld => ?_)
  clear hK K
  try simp only [Act.put, List.setIfInBounds_toArray, List.set_cons_zero, List.set_cons_succ]
  refine wpAnyH_done (by kernel_rfl) ?_ _
  clear hHeld s s2 cC fC
  replace hJ := hJ.setNew HgC.out.1 1 (.int .i64 (P * (Y + Hd) + Z + x7))
  replace hR := hR.setNew (k := w4.heap.size) (by have := HgC.out; have := Hg.out; simp at *; omega) 1 (.int .i64 (P * (Y + Hd) + Z + x7))
  replace kC := blk_set (i := 1) kC (.int .i64 (P * (Y + Hd) + Z + x7))
  clear e5 e6 e7 e8
  go_wp2_with fail
  generalize w10.setCell ⟨w4.heap.size, 1, none⟩ (.int .i64 (P * (Y + Hd) + Z + x7)) = W11 at *
  generalize P * (Y + Hd) + Z + (x7 : Int) = Ce at *
  refine (below_any g cv 30 _ hR (by omega) (by omega)).mono ?_
  rintro e w12 ⟨x8, hx8, rfl, hR1, hJ1⟩
  replace hJ := hJ.trans hJ1
  replace kC := kblk hJ1 kC HgC.out.2
  clear hR
  have hR := hR1
  clear hR1 hJ1
  by_cases h28 : x8 = 28
  · subst h28
    have cC := blk_cell kC
    have fC := blk_free kC
    have e9 : IntKind.i64.wrap (Hd - 5) = Hd - 5 := wrapC _ (by omega) (by omega)
    replace hJ := hJ.setNew HgC.out.1 4 (.int .i64 (Hd - 5))
    replace hR := hR.setNew (k := w4.heap.size) (by have := HgC.out; have := Hg.out; simp at *; omega) 4 (.int .i64 (Hd - 5))
    replace kC := blk_set (i := 4) kC (.int .i64 (Hd - 5))
    have kR := (HK0.out _ hJ).1
    have cC2 := blk_cell kC
    have cR := blk_cell kR
    have fR := blk_free kR
    have cB := blk_cell (put7_blk kR (⟨P, Ce, Y, X, Hd - 5, Z, V⟩ : Cfg))
    have HRf : Hid (Rd g cv (put7 (w12.setCell ⟨w4.heap.size, 4, none⟩ (.int .i64 (Hd - 5))) w.heap.size (⟨P, Ce, Y, X, Hd - 5, Z, V⟩ : Cfg))) := put7_rd hR Hg.out _
    have HKf : Hid (Kept g w (put7 (w12.setCell ⟨w4.heap.size, 4, none⟩ (.int .i64 (Hd - 5))) w.heap.size (⟨P, Ce, Y, X, Hd - 5, Z, V⟩ : Cfg))) := put7_kept (HK0.out _ hJ).2 (Nat.le_refl _) _
    clear hR hJ kC kR
    unfold put7 Cfg.cells at cB
    dsimp only at cB
    go_wp2_with fail
    exact bodyPost_ret (v := .agg (⟨P, Ce, Y, X, Hd - 5, Z, V⟩ : Cfg).cells) (by simp [results, Try.results14, go_sem, cB, Cfg.cells]) rfl ⟨⟨P, Ce, Y, X, Hd - 5, Z, V⟩, rfl, hP1, hP2, HRf.out, HKf.out⟩
  · have h28' : ((x8 : Int) == 28) = false := by simp; omega
    by_cases h29 : x8 = 29
    · subst h29
      go_wp2_with fail
      refine (off_any g cv 1 1000 _ hR (by omega) (by omega) (by omega)).mono ?_
      rintro e w13 ⟨x9, rfl, hR1, hJ1⟩
      replace hJ := hJ.trans hJ1
      replace kC := kblk hJ1 kC HgC.out.2
      clear hR
      have hR := hR1
      clear hR1 hJ1
      have cC := blk_cell kC
      have fC := blk_free kC
      replace hJ := hJ.setNew HgC.out.1 1 (.int .i64 x9)
      replace hR := hR.setNew (k := w4.heap.size) (by have := HgC.out; have := Hg.out; simp at *; omega) 1 (.int .i64 x9)
      replace kC := blk_set (i := 1) kC (.int .i64 x9)
      have kR := (HK0.out _ hJ).1
      have cC2 := blk_cell kC
      have cR := blk_cell kR
      have fR := blk_free kR
      have cB := blk_cell (put7_blk kR (⟨P, x9, Y, X, Hd, Z, V⟩ : Cfg))
      have HRf : Hid (Rd g cv (put7 (w13.setCell ⟨w4.heap.size, 1, none⟩ (.int .i64 x9)) w.heap.size (⟨P, x9, Y, X, Hd, Z, V⟩ : Cfg))) := put7_rd hR Hg.out _
      have HKf : Hid (Kept g w (put7 (w13.setCell ⟨w4.heap.size, 1, none⟩ (.int .i64 x9)) w.heap.size (⟨P, x9, Y, X, Hd, Z, V⟩ : Cfg))) := put7_kept (HK0.out _ hJ).2 (Nat.le_refl _) _
      clear hR hJ kC kR
      unfold put7 Cfg.cells at cB
      dsimp only at cB
      go_wp2_with fail
      exact bodyPost_ret (v := .agg (⟨P, x9, Y, X, Hd, Z, V⟩ : Cfg).cells) (by simp [results, Try.results14, go_sem, cB, Cfg.cells]) rfl ⟨⟨P, x9, Y, X, Hd, Z, V⟩, rfl, hP1, hP2, HRf.out, HKf.out⟩
    · have h29' : ((x8 : Int) == 29) = false := by simp; omega
      have kR := (HK0.out _ hJ).1
      have cC := blk_cell kC
      have cR := blk_cell kR
      have fR := blk_free kR
      have cB := blk_cell (put7_blk kR (⟨P, Ce, Y, X, Hd, Z, V⟩ : Cfg))
      have HRf : Hid (Rd g cv (put7 w12 w.heap.size (⟨P, Ce, Y, X, Hd, Z, V⟩ : Cfg))) := put7_rd hR Hg.out _
      have HKf : Hid (Kept g w (put7 w12 w.heap.size (⟨P, Ce, Y, X, Hd, Z, V⟩ : Cfg))) := put7_kept (HK0.out _ hJ).2 (Nat.le_refl _) _
      clear hR hJ kC kR
      unfold put7 Cfg.cells at cB
      dsimp only at cB
      go_wp2_with fail
      exact bodyPost_ret (v := .agg (⟨P, Ce, Y, X, Hd, Z, V⟩ : Cfg).cells) (by simp [results, Try.results14, go_sem, cB, Cfg.cells]) rfl ⟨⟨P, Ce, Y, X, Hd, Z, V⟩, rfl, hP1, hP2, HRf.out, HKf.out⟩
end Go.Proofs.Ytaiodombphpcgaa
