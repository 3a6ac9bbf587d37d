/- At every table TableOk answers as the specification does, and writes into no argument: the law FnExactTableOk returns true for every argument, under no condition. -/
import Derived.Test.YtaikjgjdggpnjaaRows
import Derived.Test.YtaikjgjdggpnjaaSTabOk
import Derived.Test.YtaikjgjdggpnjaaTaTo
import Derived.Test.YtaikjgjdggpnjaaLiftT
import Derived.ProofKit
import Derived.OpenShut
import Derived.ShutString
import Derived.ChangeOld
import Derived.Below
namespace Go.Proofs.Ytaikjgjdggpnjaa
open Go.ChangeShapes Go.WideShapes Go.ChangeAt Go.RowKit
set_option linter.unusedVariables false

theorem ownOkT : ownKnob Try.prog.godebug = none := by kernel_rfl

theorem tab_law (a : Option Addr) (n c : Nat) (f : Nat → Ent) (w : World) (hn : n ≤ maxLen) (h : RdEnt w a n f) :
    Calls Try.prog 3 #[.slice a n c] w fun e w' => e = .returned (.bool true) ∧ Below w.heap.size w w' := by
  obtain ⟨ok, hok⟩ := tab_dec n f
  have HR : Hid (RdEnt w a n f) := h
  have HO : Hid (ok = true ↔ tabOk n f) := hok
  have hbb : (ok != ok) = false := by cases ok <;> rfl
  clear h hok
  go_enter Try.func3, Try.ntmps3
  go_wp2_with fail
  refine (szEnts_any a n c 1048576 _ hn (by omega) (by omega)).mono ?_
  rintro e w1 ⟨⟨r, rfl, hr⟩, rfl⟩
  rcases hr with rfl | ⟨r0, r1, hn'⟩
  · go_wp2_with fail
    go_ret
    exact ⟨rfl, Below.refl _ _⟩
  have HN : Hid (n ≤ 1048576) := hn'
  clear hn'
  go_wp2_with fail
  refine (toEnts_any a n c f _ HN.out HR.out).mono ?_
  rintro e w2 ⟨rfl, hR2, B2⟩
  go_wp2_with fail
  refine (sTableOk_any _ n n f _ hn hR2.ents ok HO.out).mono ?_
  rintro e w3 ⟨rfl, hb3⟩
  have B3 := B2.trans (hb3.mono B2.size)
  clear hb3 hR2 B2
  go_wp2_with fail
  refine (toEnts_any a n c f _ HN.out (HR.out.up B3)).mono ?_
  rintro e w4 ⟨rfl, hR4, hb4⟩
  have B4 := B3.trans (hb4.mono B3.size)
  clear hb4
  go_wp2_with fail
  refine (iTableOk_any _ n n f _ hn hR4.ents ok HO.out).mono ?_
  rintro e w5 ⟨rfl, hb5⟩
  have B5 := B4.trans (hb5.mono B4.size)
  have R5 := hR4.ents.up hb5
  clear hb5 hR4 B4 B3
  go_wp2_with fail
  refine (toEnts_any a n c f _ HN.out (HR.out.up B5)).mono ?_
  rintro e w6 ⟨rfl, hR6, hb6⟩
  have B6 := B5.trans (hb6.mono B5.size)
  have R6 := R5.up hb6
  clear hb6 R5 B5
  go_wp2_with fail
  refine (eqEnts_any _ _ n n n f _ HN.out R6 hR6.ents).mono ?_
  rintro e w7 ⟨rfl, hb7⟩
  have B7 := B6.trans (hb7.mono B6.size)
  clear hb7 R6 hR6 B6
  go_wp2_with fail
  go_ret
  exact ⟨rfl, B7⟩

set_option maxRecDepth 100000 in
theorem tableOk_lifted (os : Os) (started : os.Started) (H : Type) (enc : TypeId × Value → H) :
    ReturnsInHanded {} Try.checked os 3 .any (Rows.fnExactTableOkSpec.pre6 enc Try.prog Try.f3 Rows.fnExactTableOkRow.domain false) (Rows.fnExactTableOkSpec.post enc Try.prog Try.f3 false true false false) := by
  refine returnsInHanded_of_change (C := Try.checked) ownOkT started (by kernel_rfl) Try.func3
    (ChangeSpec.witness6 (enc := enc) (C := Try.checked) false ⟨#[], #[.slice none 0 0], []⟩ 8 (by kernel_rfl) (by kernel_rfl) (by kernel_rfl) (by kernel_rfl)) ?_
  intro W base args ds gs before hval0 hW hcnd _
  have hval : ∀ (j : Nat) t v, Try.f3.params[j]? = some t → args[j]? = some v → Value.okWide Try.prog W .any base t v := hval0
  have hW' := hW
  obtain ⟨p, q, hA0, hV, rfl, hfz, hnd⟩ := hW
  have hA : DataW.TrodAll enc Try.prog W 0 (fun _ => true) true Try.f3.params.toList args.toList ds p := hA0
  rw [Try.params3] at hA hval
  obtain ⟨v0, vs0, d0, ds0, p0, q0, hargs, rfl, rfl, h0, r0⟩ := trodAll_cons hA
  obtain ⟨rfl, rfl, rfl⟩ := trodAll_nil r0
  obtain rfl : args = #[v0] := by cases args; simp_all
  obtain ⟨rfl, rfl⟩ := trodVars_none hV
  obtain ⟨a, n, c, rfl⟩ := okWide_slice Try.underlying22 (hval 0 22 v0 rfl rfl)
  have k0 := h0
  have lt0 : ∀ x ∈ p0, x.block < W.heap.size := by obtain ⟨m, hm⟩ := k0; exact DataW.trod_lt m _ _ _ hm
  obtain ⟨hn, f, r1⟩ := open_ents h0
  clear hA0 hval0
  refine (tab_law a n c f W hn r1).mono fun e W' ⟨he, bel⟩ => ?_
  subst he
  exact ⟨_, rfl, _, _, _, [], _, [], hW', trodAll_mk1 (shut_bool Try.underlying4 _), (trodAll_cons_mk (Below.trod laidOutT (by kernel_rfl) (of_decide_eq_true (by kernel_rfl)) k0 bel lt0) trodAll_mk0), rfl, bel.frame _, fun h => by cases h⟩

theorem tableOk_holds : Rows.FnExactTableOkSaid :=
  OpenClaim.holds_of_wide 3 Try.f3 rfl rfl rfl rfl rfl rfl rfl ⟨rfl, rfl, rfl, rfl, rfl⟩ rfl rfl rfl rfl rfl (by kernel_rfl) Try.func3 (by kernel_rfl)
    (of_decide_eq_true (by kernel_rfl)) (by unfold Func.isWrapper; first | (rw [if_pos (by decide +kernel)]; kernel_rfl) | (rw [if_neg (by decide +kernel)]; exact ⟨rfl, rfl⟩))
    (fun os started H enc _ => tableOk_lifted os started H enc)
#print axioms tableOk_holds
end Go.Proofs.Ytaikjgjdggpnjaa
