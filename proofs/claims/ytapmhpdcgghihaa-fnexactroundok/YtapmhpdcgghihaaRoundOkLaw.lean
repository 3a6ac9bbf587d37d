/- At every round RoundOk answers as the specification does, and writes into no argument: the law FnExactRoundOk returns true for every argument, under no condition. -/
import Derived.Test.YtapmhpdcgghihaaRows
import Derived.Test.YtapmhpdcgghihaaRnOk
import Derived.Test.YtapmhpdcgghihaaRnSOk
import Derived.Test.YtapmhpdcgghihaaRnTo2
import Derived.Test.YtapmhpdcgghihaaLiftR
import Derived.ProofKit
import Derived.OpenShut
import Derived.ShutString
import Derived.ChangeOld
import Derived.Below
namespace Go.Proofs.Ytapmhpdcgghihaa
open Go.ChangeShapes Go.WideShapes Go.ChangeAt Go.RowKit
set_option linter.unusedVariables false

theorem ownOkR : ownKnob Try.prog.godebug = none := by kernel_rfl

set_option maxHeartbeats 2000000 in
theorem roundOk_law (R : Rnd) (w : World) (hf : R.Fit) (h : RdRnd w R) :
    Calls Try.prog 3 #[.agg R.cells] w fun e w' => e = .returned (.bool true) ∧ Below w.heap.size w w' := by
  obtain ⟨ok, hok⟩ := ok_decR R.Ok
  have HO : Hid (ok = true ↔ R.Ok) := hok
  have HR : Hid (RdRnd w R) := h
  have HF : Hid R.Fit := hf
  have hbb : (ok != ok) = false := by cases ok <;> rfl
  have HA : Hid (∀ o, Below w.heap.size w (w.alloc o)) := fun o => (Below.refl _ _).alloc (Nat.le_refl _) _
  clear h hf hok
  unfold Rnd.cells
  go_enter Try.func3, Try.ntmps3
  go_wp2_with fail
  refine (szRound_any R _ HF.out (HR.out.up (HA.out _))).mono ?_
  rintro e w1 ⟨⟨r, rfl, hr⟩, hb⟩
  have hB := first hb
  clear hb
  rcases hr with rfl | ⟨r0, hs⟩
  · have B := under hB
    go_wp2_with fail
    go_ret
    exact ⟨rfl, B⟩
  have HS : Hid R.Small := hs
  clear hs
  have cb := boxed hB
  have hr0 : ¬ r < 0 := by omega
  go_wp2_with fail
  refine (toRound_any R _ HS.out (HR.out.up (under hB))).mono ?_
  rintro e w2 ⟨gQ, gD, gS, G, rfl, _, j2, hb2⟩
  have hB := next hB hb2
  have cb := boxed hB
  clear hb2
  simp only [Rnd.copy, Rnd.cells]
  go_wp2_with fail
  refine (sRoundOk_any (R.copy gQ gD gS G) _ (copy_fit HF.out) j2.rd ok (HO.out.trans copy_ok.symm)).mono ?_
  rintro e w3 ⟨rfl, hb3⟩
  have hB := next hB hb3
  have cb := boxed hB
  clear hb3 j2
  go_wp2_with fail
  refine (toRound_any R _ HS.out (HR.out.up (under hB))).mono ?_
  rintro e w4 ⟨gQ4, gD4, gS4, G4, rfl, _, j4, hb4⟩
  have hB := next hB hb4
  have cb := boxed hB
  clear hb4
  simp only [Rnd.copy, Rnd.cells]
  go_wp2_with fail
  have hX := (Below.refl w4.heap.size w4).alloc (Nat.le_refl _) (.cells #[.slice (some ⟨gQ4, 0, none⟩) R.nQ R.nQ, .slice (some ⟨gD4, 0, none⟩) R.nD R.nD, .int .i64 R.turn, .bool R.fresh, .slice (some ⟨gS4, 0, none⟩) R.nS R.nS] 28)
  have kX := blk_new w4 (.cells #[.slice (some ⟨gQ4, 0, none⟩) R.nQ R.nQ, .slice (some ⟨gD4, 0, none⟩) R.nD R.nD, .int .i64 R.turn, .bool R.fresh, .slice (some ⟨gS4, 0, none⟩) R.nS R.nS] 28)
  have eX : ∀ o, (w4.alloc o).heap.size = w4.heap.size + 1 := by intro o; simp
  refine (iRoundOk_any (R.copy gQ4 gD4 gS4 G4) _ (copy_fit HF.out) (j4.rd.up hX) ok (HO.out.trans copy_ok.symm)).mono ?_
  rintro e w5 ⟨rfl, hb5⟩
  have j4 := (j4.rd.up hX).up hb5
  have kX := (hb5.block w4.heap.size (by rw [eX]; omega)).trans kX
  have hB := next (next hB hX) hb5
  have cb := boxed hB
  have cX := blk_cell kX
  clear hb5 hX
  go_wp2_with fail
  refine wp_region_held_drew (S := fun w' => (∀ o, w'.cell? ⟨w.heap.size, o, none⟩ = (#[.slice R.aQ R.nQ R.cQ, .slice R.aD R.nD R.cD, .int .i64 R.turn, .bool R.fresh, .slice R.aS R.nS R.cS] : Array Value)[o]?) ∧ ∀ o, w'.cell? ⟨w4.heap.size, o, none⟩ = (#[.slice (some ⟨gQ4, 0, none⟩) R.nQ R.nQ, .slice (some ⟨gD4, 0, none⟩) R.nD R.nD, .int .i64 R.turn, .bool R.fresh, .slice (some ⟨gS4, 0, none⟩) R.nS R.nS] : Array Value)[o]?) (by kernel_rfl) ⟨cb, cX⟩ (fun hHeld => ?_)
  refine takeD (i := 0) (some 22) (v := ?_) rfl rfl (by kernel_rfl) (by kernel_rfl) (by kernel_rfl) (fun _ _ _ h => h) (by kernel_rfl) ?_ (by assumption) ?_
  rotate_left
  · intro wx hSw
    obtain ⟨hS1, hS2⟩ := hSw
    go_simp
    try (with_reducible rfl)
  try simp only [Act.put, List.setIfInBounds_toArray, List.set_cons_zero, List.set_cons_succ]
  refine takeD (i := 1) (some 23) (v := ?_) rfl rfl (by kernel_rfl) (by kernel_rfl) (by kernel_rfl) (fun _ _ _ h => h) (by kernel_rfl) ?_ (by assumption) ?_
  rotate_left
  · intro wx hSw
    obtain ⟨hS1, hS2⟩ := hSw
    go_simp
    try (with_reducible rfl)
  try simp only [Act.put, List.setIfInBounds_toArray, List.set_cons_zero, List.set_cons_succ]
  refine wpAnyH_ready (rs := [2]) (by kernel_rfl) (by simp) ?_
  refine AllReadyH.cons rfl (fun K hK => ?_) AllReadyH.nil
  go_simp
  have hB := hB.drew
  have j4 := j4.up ((Below.refl _ _).drew : Below w5.heap.size w5 w5.drew)
  have kX : w5.drew.heap[w4.heap.size]? = _ := kX
  refine (toRound_any R _ HS.out (HR.out.up (under hB))).mono ?_
  rintro e w6 ⟨gQ6, gD6, gS6, G6, rfl, _, j6, hb6⟩
  have j4 := j4.up hb6
  have kX := (hb6.block w4.heap.size (blk_lt kX)).trans kX
  have cX := blk_cell kX
  have hB := next hB hb6
  have cb := boxed hB
  clear hb6
  simp only [Rnd.copy, Rnd.cells]
  go_wp2_with fail
  refine hK.out _ _ ⟨cb, cX⟩ (fun hHeld => ?_)
  clear hK K
  try simp only [Act.put, List.setIfInBounds_toArray, List.set_cons_zero, List.set_cons_succ]
  refine wpAnyH_ready (rs := [3]) (by kernel_rfl) (by simp) ?_
  refine AllReadyH.cons rfl (fun K hK => ?_) AllReadyH.nil
  go_simp
  refine (eqRound_any (R.copy gQ4 gD4 gS4 G4) (R.copy gQ6 gD6 gS6 G6) _ ⟨HS.out.q, HS.out.d, HS.out.s, HS.out.l⟩ j4 j6.rd rfl rfl rfl rfl rfl rfl rfl rfl rfl).mono ?_
  rintro e w7 ⟨rfl, hb7⟩
  have kX := (hb7.block w4.heap.size (blk_lt kX)).trans kX
  have cX := blk_cell kX
  have hB := next hB hb7
  have cb := boxed hB
  have B7 := under hB
  go_wp2_with fail
  refine hK.out _ _ ⟨cb, cX⟩ (fun hHeld => ?_)
  clear hK K
  try simp only [Act.put, List.setIfInBounds_toArray, List.set_cons_zero, List.set_cons_succ]
  refine takeD (i := 4) (some 26) (v := ?_) rfl rfl (by kernel_rfl) (by kernel_rfl) (by kernel_rfl) (fun _ _ _ h => h) (by kernel_rfl) ?_ (by assumption) ?_
  rotate_left
  · intro wx hSw
    obtain ⟨hS1, hS2⟩ := hSw
    go_simp
    try (with_reducible rfl)
  try simp only [Act.put, List.setIfInBounds_toArray, List.set_cons_zero, List.set_cons_succ]
  refine wpAnyH_done (by kernel_rfl) ?_ _
  go_wp2_with fail
  go_ret
  exact ⟨rfl, B7⟩

set_option maxRecDepth 100000 in
theorem roundOk_lifted (os : Os) (started : os.Started) (H : Type) (enc : TypeId × Value → H) :
    ReturnsInHanded {} Try.checked os 3 .any (Rows.fnExactRoundOkSpec.pre6 enc Try.prog Try.f3 Rows.fnExactRoundOkRow.domain false) (Rows.fnExactRoundOkSpec.post enc Try.prog Try.f3 false true false false) := by
  refine returnsInHanded_of_change (C := Try.checked) ownOkR started (by kernel_rfl) Try.func3
    (ChangeSpec.witness6 (enc := enc) (C := Try.checked) false ⟨#[], #[.agg #[.slice none 0 0, .slice none 0 0, .int .i64 0, .bool false, .slice none 0 0]], []⟩ 8 (by kernel_rfl) (by kernel_rfl) (by kernel_rfl) (by kernel_rfl)) ?_
  intro W base args ds gs before hval0 hW hcnd _
  have hval : ∀ (j : Nat) t v, Try.f3.params[j]? = some t → args[j]? = some v → Value.okWide Try.prog W .any base t v := hval0
  have hW' := hW
  obtain ⟨p, q, hA0, hV, rfl, hfz, hnd⟩ := hW
  have hA : DataW.TrodAll enc Try.prog W 0 (fun _ => true) true Try.f3.params.toList args.toList ds p := hA0
  rw [Try.params3] at hA hval
  obtain ⟨v0, vs0, d0, ds0, p0, q0, hargs, rfl, rfl, h0, r0⟩ := trodAll_cons hA
  obtain ⟨rfl, rfl, rfl⟩ := trodAll_nil r0
  obtain rfl : args = #[v0] := by cases args; simp_all
  obtain ⟨rfl, rfl⟩ := trodVars_none hV
  have k0 := h0
  have lt0 : ∀ x ∈ p0, x.block < W.heap.size := by obtain ⟨m, hm⟩ := k0; exact DataW.trod_lt m _ _ _ hm
  obtain ⟨R0, rfl, f0, rr0⟩ := open_round (hval 0 25 v0 rfl rfl) h0
  clear hA0 hval0
  refine (roundOk_law R0 W f0 rr0).mono fun e W' ⟨he, bel⟩ => ?_
  subst he
  exact ⟨_, rfl, _, _, _, [], _, [], hW', trodAll_mk1 (shut_bool Try.underlying4 _), (trodAll_cons_mk (Below.trod laidOutR (by kernel_rfl) (of_decide_eq_true (by kernel_rfl)) k0 bel lt0) trodAll_mk0), rfl, bel.frame _, fun h => by cases h⟩

theorem roundOk_holds : Rows.FnExactRoundOkSaid :=
  OpenClaim.holds_of_wide 3 Try.f3 rfl rfl rfl rfl rfl rfl rfl ⟨rfl, rfl, rfl, rfl, rfl⟩ rfl rfl rfl rfl rfl (by kernel_rfl) Try.func3 (by kernel_rfl)
    (of_decide_eq_true (by kernel_rfl)) (by unfold Func.isWrapper; first | (rw [if_pos (by decide +kernel)]; kernel_rfl) | (rw [if_neg (by decide +kernel)]; exact ⟨rfl, rfl⟩))
    (fun os started H enc _ => roundOk_lifted os started H enc)
#print axioms roundOk_holds
end Go.Proofs.Ytapmhpdcgghihaa
