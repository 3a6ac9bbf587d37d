/- New switches marked, and looked at again. -/
import Derived.Test.YtclibohnmjkliaaSwN
namespace Go.Proofs.Ytclibohnmjkliaa
open Go.RowKit
set_option linter.unusedVariables false
set_option linter.unusedSimpArgs false

theorem markNoLanes_any (m : Nat) (w : World) : Calls Try.prog 22 #[.slice none 0 0, .int .i64 m] w fun e w' => e = .returned (.int .i64 m) ∧ w = w' := by
  go_enter Try.func22, Try.ntmps22
  go_wp2_with fail
  go_loop [1, 5] (fun x i => x = .int .i64 m ∧ i = .int .i64 0) (fun _ _ => 0)
  case atStart => exact ⟨rfl, rfl⟩
  case round =>
    obtain ⟨rfl, rfl⟩ := hrel
    go_wp2_with fail
    go_ret
    exact ⟨rfl, rfl⟩
set_option maxRecDepth 100000 in
theorem heldNoLanes_any (m : Nat) (w : World) : Calls Try.prog 26 #[.slice none 0 0, .int .i64 m] w fun e w' => e = .returned (.int .i64 m) ∧ w = w' := by
  go_enter Try.func26, Try.ntmps26
  go_wp2_with fail
  go_loop [1, 5] (fun x i => x = .int .i64 m ∧ i = .int .i64 0) (fun _ _ => 0)
  case atStart => exact ⟨rfl, rfl⟩
  case round =>
    obtain ⟨rfl, rfl⟩ := hrel
    go_wp2_with fail
    go_ret
    exact ⟨rfl, rfl⟩
/-- a new switch, marked from 1 on -/
def MarkS (w : World) (base : Nat) (S : Sw) : Prop := S = zeroS ∨ ∃ g b, OwnSw w base g b (S.marked 1)
theorem MarkS.up {w w' : World} {base : Nat} {S : Sw} (h : MarkS w base S) (hb : Below w.heap.size w w') : MarkS w' base S := h.imp id (fun ⟨g, b, h⟩ => ⟨g, b, h.up hb⟩)
theorem zeroS_cells : zeroS.cells = #[.int .i64 0, .int .i64 0, .int .i64 0, .int .i64 0, .int .i64 0, .int .i64 0, .int .i64 0, .int .i64 0, .int .i64 0, .slice none 0 0, .slice none 0 0, .int .i64 0, .slice none 0 0, .slice none 0 0, .slice none 0 0, .int .i64 0, .int .i64 0] := rfl
theorem zeroS_total : zeroS.total 1 = 1 := rfl
theorem zeroC_total : zeroC.total 1 = 1 := rfl
set_option maxRecDepth 100000 in
set_option maxHeartbeats 4000000 in
theorem markZero_any (w : World) :
    Calls Try.prog 8 #[.agg zeroS.cells, .int .i64 1] w fun e w' => e = .returned (.int .i64 1) ∧ Below w.heap.size w w' := by
  have hB : Below (w.heap.size + 1) (w.alloc (.cells #[.int .i64 0, .int .i64 0, .int .i64 0, .int .i64 0, .int .i64 0, .int .i64 0, .int .i64 0, .int .i64 0, .int .i64 0, .slice none 0 0, .slice none 0 0, .int .i64 0, .slice none 0 0, .slice none 0 0, .slice none 0 0, .int .i64 0, .int .i64 0] 33)) (w.alloc (.cells #[.int .i64 0, .int .i64 0, .int .i64 0, .int .i64 0, .int .i64 0, .int .i64 0, .int .i64 0, .int .i64 0, .int .i64 0, .slice none 0 0, .slice none 0 0, .int .i64 0, .slice none 0 0, .slice none 0 0, .slice none 0 0, .int .i64 0, .int .i64 0] 33)) := Below.refl _ _
  have cb := boxed hB
  rw [zeroS_cells]
  go_enter Try.func8, Try.ntmps8
  go_wp2_with fail
  refine (markNoEntries_any 1 _).mono ?_
  rintro e w1 ⟨rfl, rfl⟩
  go_wp2_with fail
  refine (markCountsT_any zeroC 1 0 _ (zeroC_own _ _) ⟨Nat.zero_le _, Nat.zero_le _⟩ (by omega) (Nat.zero_le _)).mono ?_
  rintro e w2 ⟨rfl, _, ht⟩
  have hb : Below (w.alloc (.cells #[.int .i64 0, .int .i64 0, .int .i64 0, .int .i64 0, .int .i64 0, .int .i64 0, .int .i64 0, .int .i64 0, .int .i64 0, .slice none 0 0, .slice none 0 0, .int .i64 0, .slice none 0 0, .slice none 0 0, .slice none 0 0, .int .i64 0, .int .i64 0] 33)).heap.size (w.alloc (.cells #[.int .i64 0, .int .i64 0, .int .i64 0, .int .i64 0, .int .i64 0, .int .i64 0, .int .i64 0, .int .i64 0, .int .i64 0, .slice none 0 0, .slice none 0 0, .int .i64 0, .slice none 0 0, .slice none 0 0, .slice none 0 0, .int .i64 0, .int .i64 0] 33)) w2 := ht.below (Nat.le_refl _) (fun x hx => by simp [rowsT, blkV, zeroC] at hx)
  replace hB := next hB hb
  replace cb := boxed hB
  rw [zeroC_total]
  clear hb ht
  go_wp2_with fail
  refine (markNoPackets_any 1 _).mono ?_
  rintro e w3 ⟨rfl, rfl⟩
  go_wp2_with fail
  refine (markNoLanes_any 1 _).mono ?_
  rintro e w4 ⟨rfl, rfl⟩
  go_wp2_with fail
  go_ret
  exact ⟨rfl, under hB⟩
set_option maxRecDepth 100000 in
set_option maxHeartbeats 4000000 in
theorem heldZero_any (w : World) :
    Calls Try.prog 9 #[.agg zeroS.cells, .int .i64 1] w fun e w' => e = .returned (.int .i64 1) ∧ Below w.heap.size w w' := by
  have hB : Below (w.heap.size + 1) (w.alloc (.cells #[.int .i64 0, .int .i64 0, .int .i64 0, .int .i64 0, .int .i64 0, .int .i64 0, .int .i64 0, .int .i64 0, .int .i64 0, .slice none 0 0, .slice none 0 0, .int .i64 0, .slice none 0 0, .slice none 0 0, .slice none 0 0, .int .i64 0, .int .i64 0] 33)) (w.alloc (.cells #[.int .i64 0, .int .i64 0, .int .i64 0, .int .i64 0, .int .i64 0, .int .i64 0, .int .i64 0, .int .i64 0, .int .i64 0, .slice none 0 0, .slice none 0 0, .int .i64 0, .slice none 0 0, .slice none 0 0, .slice none 0 0, .int .i64 0, .int .i64 0] 33)) := Below.refl _ _
  have cb := boxed hB
  rw [zeroS_cells]
  go_enter Try.func9, Try.ntmps9
  go_wp2_with fail
  refine (heldNoEntries_any 1 _).mono ?_
  rintro e w1 ⟨rfl, rfl⟩
  go_wp2_with fail
  refine (heldCounts_any zeroC 1 0 _ ⟨.inl rfl, .inl rfl⟩ ⟨Nat.zero_le _, Nat.zero_le _⟩ (by omega)).mono ?_
  rintro e w2 ⟨rfl, hb⟩
  replace hB := next hB hb
  replace cb := boxed hB
  rw [zeroC_total]
  clear hb
  go_wp2_with fail
  refine (heldNoPackets_any 1 _).mono ?_
  rintro e w3 ⟨rfl, rfl⟩
  go_wp2_with fail
  refine (heldNoLanes_any 1 _).mono ?_
  rintro e w4 ⟨rfl, rfl⟩
  go_wp2_with fail
  go_ret
  exact ⟨rfl, under hB⟩
theorem markNew_any {base n : Nat} {C : Cfg} {ok : Bool} (S : Sw) (w : World) (h : NewS w base C n ok S) (hb : base ≤ w.heap.size) :
    Calls Try.prog 8 #[.agg S.cells, .int .i64 1] w fun e w' => ∃ T, e = .returned (.int .i64 (S.total 1 : Nat)) ∧ MarkS w' base S ∧ Touch T w w' ∧ ∀ w0, NewS w0 base C n ok S → ∀ x ∈ T, base ≤ x ∧ x < w0.heap.size := by
  have hs := h.small
  cases ok
  · obtain rfl : S = zeroS := h
    refine (markZero_any w).mono ?_
    rintro e w' ⟨rfl, hb⟩
    exact ⟨[], rfl, .inl rfl, Touch.ofBelow hb, fun _ _ x hx => by simp at hx⟩
  · obtain ⟨h1, h2, h3, h4, h5, h6, h7, g, b, h8⟩ := h
    refine (markSwitch_any S 1 base g b w h8 hs.1 (by omega) hs.2 hb).mono ?_
    rintro e w' ⟨rfl, hM, hT⟩
    refine ⟨_, rfl, .inr ⟨g, b, hM⟩, hT, fun w0 h0 x hx => ?_⟩
    obtain ⟨_, _, _, _, _, _, _, g', b', k8⟩ := h0
    have e1 := h8.a
    have e2 := k8.a
    rw [e1] at e2
    cases e2
    exact k8.rows x hx
theorem heldNew_any {base n : Nat} {C : Cfg} {ok : Bool} (S : Sw) (w w1 : World) (h : MarkS w base S) (hn : NewS w1 base C n ok S) :
    Calls Try.prog 9 #[.agg S.cells, .int .i64 1] w fun e w' => e = .returned (.int .i64 (S.total 1 : Nat)) ∧ Below w.heap.size w w' := by
  have hs := hn.small
  rcases h with rfl | ⟨g, b, h⟩
  · exact heldZero_any w
  · exact heldSwitch_any S 1 base g b w h hs.1 (by omega) hs.2
end Go.Proofs.Ytclibohnmjkliaa
