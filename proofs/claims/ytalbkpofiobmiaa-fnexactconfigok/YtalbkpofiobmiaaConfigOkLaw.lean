/- At every configuration ConfigOk answers as the specification does: the law FnExactConfigOk returns true for every argument, under no condition. -/
import Derived.Test.YtalbkpofiobmiaaRows
import Derived.Test.YtalbkpofiobmiaaCnB
import Derived.Test.YtalbkpofiobmiaaCnC
import Derived.Test.YtalbkpofiobmiaaLiftC
import Derived.ProofKit
import Derived.OpenShut
import Derived.ShutString
import Derived.ChangeOld
import Derived.Below
namespace Go.Proofs.Ytalbkpofiobmiaa
open Go.ChangeShapes Go.WideShapes Go.ChangeAt Go.RowKit
set_option linter.unusedVariables false

set_option maxHeartbeats 1000000 in
theorem configOk_law (C : Cfg) (w : World) :
    Calls Try.prog 3 #[.agg C.cells] w fun e w' => e = .returned (.bool true) ∧ Below w.heap.size w w' := by
  obtain ⟨ok, hok⟩ := ok_decC C.Ok
  have HO : Hid (ok = true ↔ C.Ok) := hok
  have hbb : (ok != ok) = false := by cases ok <;> rfl
  have HA : Hid (∀ o, Below (w.heap.size + 1) (w.alloc o) (w.alloc o)) := fun o => Below.refl _ _
  clear hok
  unfold Cfg.cells
  go_enter Try.func3, Try.ntmps3
  go_wp2_with fail
  refine (toConfig_any C _).mono ?_
  rintro e w1 ⟨rfl, hb⟩
  have hB := next (HA.out _) hb
  have cb := boxed hB
  clear hb
  unfold Cfg.cells
  go_wp2_with fail
  refine (sConfigOk_any C _ ok HO.out).mono ?_
  rintro e w2 ⟨rfl, hb⟩
  replace hB := next hB hb
  replace cb := boxed hB
  clear hb
  go_wp2_with fail
  refine (toConfig_any C _).mono ?_
  rintro e w3 ⟨rfl, hb⟩
  replace hB := next hB hb
  replace cb := boxed hB
  clear hb
  unfold Cfg.cells
  go_wp2_with fail
  refine (iConfigOk_any C _ ok HO.out).mono ?_
  rintro e w4 ⟨rfl, hb⟩
  replace hB := next hB hb
  have B := under hB
  clear hb cb hB
  go_wp2_with fail
  go_ret
  exact ⟨rfl, B⟩

set_option maxRecDepth 100000 in
theorem configOk_lifted (os : Os) (started : os.Started) (H : Type) (enc : TypeId × Value → H) :
    ReturnsInHanded {} Try.checked os 3 .any (Rows.fnExactConfigOkSpec.pre6 enc Try.prog Try.f3 Rows.fnExactConfigOkRow.domain false) (Rows.fnExactConfigOkSpec.post enc Try.prog Try.f3 false true false false) := by
  refine returnsInHanded_of_change (C := Try.checked) ownOkC started (by kernel_rfl) Try.func3
    (ChangeSpec.witness6 (enc := enc) (C := Try.checked) false ⟨#[], #[.agg #[.int .i64 0, .int .i64 0, .int .i64 0, .int .i64 0, .int .i64 0, .int .i64 0, .int .i64 0]], []⟩ 8 (by kernel_rfl) (by kernel_rfl) (by kernel_rfl) (by kernel_rfl)) ?_
  intro W base args ds gs before hval0 hW hcnd _
  have hval : ∀ (j : Nat) t v, Try.f3.params[j]? = some t → args[j]? = some v → Value.okWide Try.prog W .any base t v := hval0
  have hW' := hW
  obtain ⟨p, q, hA0, hV, rfl, hfz, hnd⟩ := hW
  have hA : DataW.TrodAll enc Try.prog W 0 (fun _ => true) true Try.f3.params.toList args.toList ds p := hA0
  rw [Try.params3] at hA hval
  obtain ⟨v0, vs0, d0, ds0, p0, q0, hargs, rfl, rfl, h0, r0⟩ := trodAll_cons hA
  obtain ⟨rfl, rfl, rfl⟩ := trodAll_nil r0
  obtain rfl : args = #[v0] := by cases args; simp_all
  obtain ⟨rfl, rfl⟩ := trodVars_none hV
  have k0 := h0
  have lt0 : ∀ x ∈ p0, x.block < W.heap.size := by obtain ⟨m, hm⟩ := k0; exact DataW.trod_lt m _ _ _ hm
  obtain ⟨C0, rfl⟩ := open_config (hval 0 23 v0 rfl rfl) h0
  clear hA0 hval0
  refine (configOk_law C0 W).mono fun e W' ⟨he, bel⟩ => ?_
  subst he
  exact ⟨_, rfl, _, _, _, [], _, [], hW', trodAll_mk1 (shut_bool Try.underlying4 _), (trodAll_cons_mk (Below.trod laidOutC (by kernel_rfl) (of_decide_eq_true (by kernel_rfl)) k0 bel lt0) trodAll_mk0), rfl, bel.frame _, fun h => by cases h⟩

theorem configOk_holds : Rows.FnExactConfigOkSaid :=
  OpenClaim.holds_of_wide 3 Try.f3 rfl rfl rfl rfl rfl rfl rfl ⟨rfl, rfl, rfl, rfl, rfl⟩ rfl rfl rfl rfl rfl (by kernel_rfl) Try.func3 (by kernel_rfl)
    (of_decide_eq_true (by kernel_rfl)) (by unfold Func.isWrapper; first | (rw [if_pos (by decide +kernel)]; kernel_rfl) | (rw [if_neg (by decide +kernel)]; exact ⟨rfl, rfl⟩))
    (fun os started H enc _ => configOk_lifted os started H enc)
#print axioms configOk_holds
end Go.Proofs.Ytalbkpofiobmiaa
