/- The program's pick: the next turn, the first of a class. -/
import Derived.Test.YtnfcmiiibkbmfaaPkO
namespace Go.Proofs.Ytnfcmiiibkbmfaa
open Go.RowKit
set_option linter.unusedVariables false
set_option linter.unusedSimpArgs false

theorem turn_two {w : World} {base top gb gD gS : Nat} {X : Rnd} (h : RepO w base top gb gD gS X) : RepO ((w.setCell ⟨gb, 2, none⟩ (.int .i64 (((X.now + 1) % X.nQ : Nat) : Int))).setCell ⟨gb, 3, none⟩ (.bool true)) base top gb gD gS (turnR X) :=
  (h.boxSet (Y := { X with turn := (((X.now + 1) % X.nQ : Nat) : Int) }) 2 _ rfl rfl).boxSet 3 _ rfl rfl
set_option maxHeartbeats 1000000 in
theorem beginTurn_any (X : Rnd) (base top gb gD gS : Nat) (w : World) (h : RepO w base top gb gD gS X) (hn : X.nQ ≤ 4) (ht : 0 ≤ X.turn ∧ X.turn < X.nQ) :
    Calls Try.prog 50 #[.pointer (some ⟨gb, 0, none⟩)] w fun e w' => (∃ v, e = .returned v) ∧ RepO w' base top gb gD gS (turnR X) ∧ Touch [gb] w w' := by
  have hrt := rem_turn ht
  have HD : Hid (RepO w.drew base top gb gD gS X) := h.up ((Below.refl _ _).drew)
  have HTu : Hid (Touch [gb] w w.drew) := Touch.ofBelow ((Below.refl _ _).drew)
  have hp := h.pos.1
  obtain ⟨T, hT⟩ : ∃ T : Int, T = (((X.now + 1) % X.nQ : Nat) : Int) := ⟨_, rfl⟩
  have HTT : Hid (T = (((X.now + 1) % X.nQ : Nat) : Int)) := hT
  rw [← hT] at hrt
  have hrt2 : (X.turn + 1) % (X.nQ : Int) = T := by rw [← hrt, Int.tmod_eq_emod_of_nonneg (by omega)]
  clear hT h
  have cb := HD.out.cb
  have fr := blk_free HD.out.box
  have hbx := HD.out.box
  have HF : Hid (∀ V, RepO V base top gb gD gS X → RepO ((V.setCell ⟨gb, 2, none⟩ (.int .i64 T)).setCell ⟨gb, 3, none⟩ (.bool true)) base top gb gD gS (turnR X)) := fun V hV => by rw [HTT.out]; exact turn_two hV
  obtain ⟨aQ, nQ, cQ, q, aD, nD, cD, d, turn, fresh, aS, nS, cS, A, L, C, z⟩ := X
  dsimp only at cb hrt hrt2 hn ht hp
  have ht2 : turn ≤ 4 := by omega
  have ht1 : 0 ≤ turn := ht.1
  have hnz : ((nQ : Int) == 0) = false := by simp; omega
  have hwr : IntKind.i64.wrap (turn + 1) = turn + 1 := wrapR _ (by omega) (by omega)
  have hnz2 : ¬ nQ = 0 := by omega
  have c0 : w.drew.cell? ⟨gb, 0, none⟩ = some (.slice aQ nQ cQ) := cb 0
  go_enter Try.func50, Try.ntmps50
  go_wp2_with fail
  refine wp_region_held_drew (S := fun w' => w'.cell? ⟨gb, 0, none⟩ = some (.slice aQ nQ cQ)) (by kernel_rfl) c0 (fun hHeld => ?_)
  generalize w.drew = V at *
  refine takeD (i := 0) (some 2) (v := ?_) rfl rfl (by kernel_rfl) (by kernel_rfl) (by kernel_rfl) (fun _ _ _ h => h) (by kernel_rfl) ?_ (by assumption) ?_
  rotate_left
  · intro wx hSw
    try dsimp only at hSw
    go_simp
    try (with_reducible rfl)
  try simp only [Act.put, List.setIfInBounds_toArray, List.set_cons_zero, List.set_cons_succ]
  refine takeD (i := 1) (some 3) (v := ?_) rfl rfl (by kernel_rfl) (by kernel_rfl) (by kernel_rfl) (fun _ _ _ h => h) (by kernel_rfl) ?_ (by assumption) ?_
  rotate_left
  · intro wx hSw
    try dsimp only at hSw
    go_simp
    try (with_reducible rfl)
  try simp only [Act.put, List.setIfInBounds_toArray, List.set_cons_zero, List.set_cons_succ]
  refine takeD (i := 2) (some 4) (v := ?_) rfl rfl (by kernel_rfl) (by kernel_rfl) (by kernel_rfl) (fun _ _ _ h => h) (by kernel_rfl) ?_ (by assumption) ?_
  rotate_left
  · intro wx hSw
    try dsimp only at hSw
    go_simp
    try (with_reducible rfl)
  try simp only [Act.put, List.setIfInBounds_toArray, List.set_cons_zero, List.set_cons_succ]
  refine takeD (i := 3) (some 5) (v := ?_) rfl rfl (by kernel_rfl) (by kernel_rfl) (by kernel_rfl) (fun _ _ _ h => h) (by kernel_rfl) ?_ (by assumption) ?_
  rotate_left
  · intro wx hSw
    try dsimp only at hSw
    go_simp
    try (with_reducible rfl)
  try simp only [Act.put, List.setIfInBounds_toArray, List.set_cons_zero, List.set_cons_succ]
  refine takeD (i := 6) (some 8) (v := ?_) rfl rfl (by kernel_rfl) (by kernel_rfl) (by kernel_rfl) (fun _ _ _ h => h) (by kernel_rfl) ?_ (by assumption) ?_
  rotate_left
  · intro wx hSw
    try dsimp only at hSw
    go_simp
    try (with_reducible rfl)
  try simp only [Act.put, List.setIfInBounds_toArray, List.set_cons_zero, List.set_cons_succ]
  refine takeD (i := 7) (some 9) (v := ?_) rfl rfl (by kernel_rfl) (by kernel_rfl) (by kernel_rfl) (fun _ _ _ h => h) (by kernel_rfl) ?_ (by assumption) ?_
  rotate_left
  · intro wx hSw
    try dsimp only at hSw
    go_simp
    try (with_reducible rfl)
  try simp only [Act.put, List.setIfInBounds_toArray, List.set_cons_zero, List.set_cons_succ]
  refine takeD (i := 8) (some 10) (v := ?_) rfl rfl (by kernel_rfl) (by kernel_rfl) (by kernel_rfl) (fun _ _ _ h => h) (by kernel_rfl) ?_ (by assumption) ?_
  rotate_left
  · intro wx hSw
    try dsimp only at hSw
    go_simp
    try (with_reducible rfl)
  try simp only [Act.put, List.setIfInBounds_toArray, List.set_cons_zero, List.set_cons_succ]
  refine takeD (i := 9) (some 11) (v := ?_) rfl rfl (by kernel_rfl) (by kernel_rfl) (by kernel_rfl) (fun _ _ _ h => h) (by kernel_rfl) ?_ (by assumption) ?_
  rotate_left
  · intro wx hSw
    try dsimp only at hSw
    go_simp
    try (with_reducible rfl)
  try simp only [Act.put, List.setIfInBounds_toArray, List.set_cons_zero, List.set_cons_succ]
  refine takeD (i := 10) (some 12) (v := ?_) rfl rfl (by kernel_rfl) (by kernel_rfl) (by kernel_rfl) (fun _ _ _ h => h) (by kernel_rfl) ?_ (by assumption) ?_
  rotate_left
  · intro wx hSw
    try dsimp only at hSw
    go_simp
    try (with_reducible rfl)
  try simp only [Act.put, List.setIfInBounds_toArray, List.set_cons_zero, List.set_cons_succ]
  refine wpAnyH_ready (rs := [4]) (by kernel_rfl) (by simp) ?_
  refine AllReadyH.cons rfl (fun K hK => ?_) AllReadyH.nil
  go_simp
  refine hK.out _ _ c0 (fun hHeld => ?_)
  clear hK K
  try simp only [Act.put, List.setIfInBounds_toArray, List.set_cons_zero, List.set_cons_succ]
  refine takeD (i := 5) (some 7) (v := ?_) rfl rfl (by kernel_rfl) (by kernel_rfl) (by kernel_rfl) (fun _ _ _ h => h) (by kernel_rfl) ?_ (by assumption) ?_
  rotate_left
  · intro wx hSw
    try dsimp only at hSw
    go_simp
    try (with_reducible rfl)
  try simp only [Act.put, List.setIfInBounds_toArray, List.set_cons_zero, List.set_cons_succ]
  refine takeD (i := 11) (some 13) (v := .int .i64 T) rfl rfl (by kernel_rfl) (by kernel_rfl) (by kernel_rfl) (fun _ _ _ h => h) (by kernel_rfl) ?_ (by assumption) ?_
  · intro wx hSw
    go_simp
  try simp only [Act.put, List.setIfInBounds_toArray, List.set_cons_zero, List.set_cons_succ]
  refine takeD (i := 12) (some 14) (v := ?_) rfl rfl (by kernel_rfl) (by kernel_rfl) (by kernel_rfl) (fun _ _ _ h => h) (by kernel_rfl) ?_ (by assumption) ?_
  rotate_left
  · intro wx hSw
    try dsimp only at hSw
    go_simp
    try (with_reducible rfl)
  try simp only [Act.put, List.setIfInBounds_toArray, List.set_cons_zero, List.set_cons_succ]
  refine takeD (i := 13) (some 15) (v := ?_) rfl rfl (by kernel_rfl) (by kernel_rfl) (by kernel_rfl) (fun _ _ _ h => h) (by kernel_rfl) ?_ (by assumption) ?_
  rotate_left
  · intro wx hSw
    try dsimp only at hSw
    go_simp
    try (with_reducible rfl)
  try simp only [Act.put, List.setIfInBounds_toArray, List.set_cons_zero, List.set_cons_succ]
  have c0s : (V.setCell ⟨gb, 2, none⟩ (.int .i64 T)).cell? ⟨gb, 0, none⟩ = some (.slice aQ nQ cQ) := (World.cell?_setCell_other _ _ _ _ (by simp)).trans c0
  refine wpAnyH_ready (rs := [14]) (by kernel_rfl) (by simp) ?_
  refine AllReadyH.cons rfl (fun K hK => ?_) AllReadyH.nil
  go_simp
  refine hK.out _ _ c0s (fun hHeld => ?_)
  clear hK K
  try simp only [Act.put, List.setIfInBounds_toArray, List.set_cons_zero, List.set_cons_succ]
  refine wpAnyH_done (by kernel_rfl) ?_ _
  have cb2 : (V.setCell ⟨gb, 2, none⟩ (.int .i64 T)).cell? ⟨gb, 3, none⟩ = some (.bool fresh) := (World.cell?_setCell_other _ _ _ _ (by simp)).trans (cb 3)
  have fr2 : (V.setCell ⟨gb, 2, none⟩ (.int .i64 T)).frozen? ⟨gb, 3, none⟩ = false := blk_free (blk_set (i := 2) hbx _) 3
  clear hHeld c0 c0s cb fr hbx
  go_wp2_with fail
  go_end0
  exact ⟨⟨_, rfl⟩, HF.out V HD.out, (HTu.out.set (by simp) 2 _).set (by simp) 3 _⟩
end Go.Proofs.Ytnfcmiiibkbmfaa
