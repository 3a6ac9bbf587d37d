/- At every table, address and time PortOf answers as the specification does, and writes into no argument: the law FnExactPortOf returns true for every argument, under no condition. -/
import Derived.Test.YtaikjgjdggpnjaaRows
import Derived.Test.YtaikjgjdggpnjaaSPortOf
import Derived.Test.YtaikjgjdggpnjaaTaTo
import Derived.Test.YtaikjgjdggpnjaaLiftT
import Derived.ProofKit
import Derived.OpenShut
import Derived.ShutString
import Derived.ChangeOld
import Derived.Below
namespace Go.Proofs.Ytaikjgjdggpnjaa
open Go.ChangeShapes Go.WideShapes Go.ChangeAt Go.RowKit
set_option linter.unusedVariables false

theorem ownOkP : ownKnob Try.prog.godebug = none := by kernel_rfl

theorem port_law (a : Option Addr) (n c : Nat) (f : Nat → Ent) (mac now : Int) (w : World) (hn : n ≤ maxLen) (h : RdEnt w a n f) (k0 : -9223372036854775808 ≤ mac) (k1 : mac ≤ 9223372036854775807) :
    Calls Try.prog 4 #[.slice a n c, .int .i64 mac, .int .i64 now] w fun e w' => e = .returned (.bool true) ∧ Below w.heap.size w w' := by
  obtain ⟨r, hr⟩ := portR n f mac now
  have HR : Hid (RdEnt w a n f) := h
  have HP : Hid (PortR n f mac now r) := hr
  have hbb : (r != r) = false := by simp
  clear h hr
  go_enter Try.func4, Try.ntmps4
  go_wp2_with fail
  refine (szEnts_any a n c 1048576 _ hn (by omega) (by omega)).mono ?_
  rintro e w1 ⟨⟨r', rfl, hr⟩, rfl⟩
  rcases hr with rfl | ⟨r0, r1, hn'⟩
  · go_wp2_with fail
    go_ret
    exact ⟨rfl, Below.refl _ _⟩
  have HN : Hid (n ≤ 1048576) := hn'
  clear hn'
  go_wp2_with fail
  refine (toEnts_any a n c f _ HN.out HR.out).mono ?_
  rintro e w2 ⟨rfl, hR2, B2⟩
  go_wp2_with fail
  refine (sPortOf_any _ n n f mac now r _ hn hR2.ents HP.out).mono ?_
  rintro e w3 ⟨rfl, hb3⟩
  have B3 := B2.trans (hb3.mono B2.size)
  clear hb3 hR2 B2
  go_wp2_with fail
  refine (toEnts_any a n c f _ HN.out (HR.out.up B3)).mono ?_
  rintro e w4 ⟨rfl, hR4, hb4⟩
  have B4 := B3.trans (hb4.mono B3.size)
  clear hb4
  go_wp2_with fail
  refine (iPortOf_any _ n n f mac now r _ hn hR4.ents k0 k1 HP.out).mono ?_
  rintro e w5 ⟨rfl, hb5⟩
  have B5 := B4.trans (hb5.mono B4.size)
  have R5 := hR4.ents.up hb5
  clear hb5 hR4 B4 B3
  go_wp2_with fail
  refine (toEnts_any a n c f _ HN.out (HR.out.up B5)).mono ?_
  rintro e w6 ⟨rfl, hR6, hb6⟩
  have B6 := B5.trans (hb6.mono B5.size)
  have R6 := R5.up hb6
  clear hb6 R5 B5
  go_wp2_with fail
  refine (eqEnts_any _ _ n n n f _ HN.out R6 hR6.ents).mono ?_
  rintro e w7 ⟨rfl, hb7⟩
  have B7 := B6.trans (hb7.mono B6.size)
  clear hb7 R6 hR6 B6
  go_wp2_with fail
  go_ret
  exact ⟨rfl, B7⟩

set_option maxRecDepth 100000 in
theorem portOf_lifted (os : Os) (started : os.Started) (H : Type) (enc : TypeId × Value → H) :
    ReturnsInHanded {} Try.checked os 4 .any (Rows.fnExactPortOfSpec.pre6 enc Try.prog Try.f4 Rows.fnExactPortOfRow.domain false) (Rows.fnExactPortOfSpec.post enc Try.prog Try.f4 false true false false) := by
  refine returnsInHanded_of_change (C := Try.checked) ownOkP started (by kernel_rfl) Try.func4
    (ChangeSpec.witness6 (enc := enc) (C := Try.checked) false ⟨#[], #[.slice none 0 0, .int .i64 0, .int .i64 0], []⟩ 8 (by kernel_rfl) (by kernel_rfl) (by kernel_rfl) (by kernel_rfl)) ?_
  intro W base args ds gs before hval0 hW hcnd _
  have hval : ∀ (j : Nat) t v, Try.f4.params[j]? = some t → args[j]? = some v → Value.okWide Try.prog W .any base t v := hval0
  have hW' := hW
  obtain ⟨p, q, hA0, hV, rfl, hfz, hnd⟩ := hW
  have hA : DataW.TrodAll enc Try.prog W 0 (fun _ => true) true Try.f4.params.toList args.toList ds p := hA0
  rw [Try.params4] at hA hval
  obtain ⟨v0, vs0, d0, ds0, p0, q0, hargs, rfl, rfl, h0, r0⟩ := trodAll_cons hA
  obtain ⟨v1, vs1, d1, ds1, p1, q1, rfl, rfl, rfl, h1, r1⟩ := trodAll_cons r0
  obtain ⟨v2, vs2, d2, ds2, p2, q2, rfl, rfl, rfl, h2, r2⟩ := trodAll_cons r1
  obtain ⟨rfl, rfl, rfl⟩ := trodAll_nil r2
  obtain rfl : args = #[v0, v1, v2] := by cases args; simp_all
  obtain ⟨rfl, rfl⟩ := trodVars_none hV
  obtain ⟨a0, n0, c0, rfl⟩ := okWide_slice Try.underlying22 (hval 0 22 v0 rfl rfl)
  have k0 := h0
  have lt0 : ∀ x ∈ p0, x.block < W.heap.size := by obtain ⟨m, hm⟩ := k0; exact DataW.trod_lt m _ _ _ hm
  obtain ⟨hn0, f0, rr0⟩ := open_ents h0
  obtain ⟨a1, rfl, rfl, rfl, w1⟩ := open_int Try.underlying2 (hval 1 2 v1 rfl rfl) h1
  obtain ⟨a2, rfl, rfl, rfl, w2⟩ := open_int Try.underlying2 (hval 2 2 v2 rfl rfl) h2
  clear hA0 hval0
  refine (port_law a0 n0 c0 f0 a1 a2 W hn0 rr0 (by have := bounds_i64 w1; omega) (by have := bounds_i64 w1; omega)).mono fun e W' ⟨he, bel⟩ => ?_
  subst he
  exact ⟨_, rfl, _, _, _, [], _, [], hW', trodAll_mk1 (shut_bool Try.underlying4 _), (trodAll_cons_mk (Below.trod laidOutT (by kernel_rfl) (of_decide_eq_true (by kernel_rfl)) k0 bel lt0) (trodAll_cons_mk (shut_int Try.underlying2 w1) (trodAll_cons_mk (shut_int Try.underlying2 w2) trodAll_mk0))), rfl, bel.frame _, fun h => by cases h⟩

theorem portOf_holds : Rows.FnExactPortOfSaid :=
  OpenClaim.holds_of_wide 4 Try.f4 rfl rfl rfl rfl rfl rfl rfl ⟨rfl, rfl, rfl, rfl, rfl⟩ rfl rfl rfl rfl rfl (by kernel_rfl) Try.func4 (by kernel_rfl)
    (of_decide_eq_true (by kernel_rfl)) (by unfold Func.isWrapper; first | (rw [if_pos (by decide +kernel)]; kernel_rfl) | (rw [if_neg (by decide +kernel)]; exact ⟨rfl, rfl⟩))
    (fun os started H enc _ => portOf_lifted os started H enc)
#print axioms portOf_holds
end Go.Proofs.Ytaikjgjdggpnjaa
