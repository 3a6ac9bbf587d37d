/- At every table, address, port and time Learned answers as the specification does, writes into no argument, and its answer owns its memory: the law FnExactLearned returns true for every argument, under no condition. -/
import Derived.Test.YtaikjgjdggpnjaaRows
import Derived.Test.YtaikjgjdggpnjaaSLrn
import Derived.Test.YtaikjgjdggpnjaaTaTo
import Derived.Test.YtaikjgjdggpnjaaMarkE
import Derived.Test.YtaikjgjdggpnjaaLiftT
import Derived.ProofKit
import Derived.OpenShut
import Derived.ShutString
import Derived.ChangeOld
import Derived.Below
namespace Go.Proofs.Ytaikjgjdggpnjaa
open Go.ChangeShapes Go.WideShapes Go.ChangeAt Go.RowKit
set_option linter.unusedVariables false

theorem ownOkL : ownKnob Try.prog.godebug = none := by kernel_rfl
theorem rd_of {w : World} {base : Nat} {a : Option Addr} {n cap : Nat} {L : List Ent} (h : OwnL w base (.slice a n cap) L) : RdEnt w a L.length fun i => L.getD i default := by
  obtain ⟨a', cap', e, r⟩ := h.read
  cases e
  exact r
set_option maxHeartbeats 2000000 in
theorem learned_law (a : Option Addr) (n c : Nat) (f : Nat → Ent) (m p t : Int) (w : World) (hn : n ≤ maxLen) (h : RdEnt w a n f) (k0 : -9223372036854775808 ≤ m) (k1 : m ≤ 9223372036854775807) :
    Calls Try.prog 6 #[.slice a n c, .int .i64 m, .int .i64 p, .int .i64 t] w fun e w' => e = .returned (.bool true) ∧ Below w.heap.size w w' := by
  obtain ⟨A, b, hA⟩ := learnR n f ⟨m, p, t⟩
  have HP : Hid (LearnR n f ⟨m, p, t⟩ A b) := hA
  have HL := HP.out.len
  have HR : Hid (RdEnt w a n f) := h
  have hbb : (b != b) = false := by cases b <;> rfl
  clear h hA
  go_enter Try.func6, Try.ntmps6
  go_wp2_with fail
  refine (szEnts_any a n c 1048576 _ hn (by omega) (by omega)).mono ?_
  rintro e w1 ⟨⟨r', rfl, hr⟩, rfl⟩
  rcases hr with rfl | ⟨r0, r1, hn'⟩
  · go_wp2_with fail
    go_ret
    exact ⟨rfl, Below.refl _ _⟩
  have HN : Hid (n ≤ 1048576) := hn'
  clear hn'
  go_wp2_with fail
  refine (toEnts_any a n c f _ HN.out HR.out).mono ?_
  rintro e w2 ⟨rfl, hR2, B2⟩
  go_wp2_with fail
  refine (sLearned_any _ n n f m p t A b _ hn hR2.ents HP.out).mono ?_
  rintro e w3 ⟨vW, rfl, hW3, hb3⟩
  have B3 := B2.trans (hb3.mono B2.size)
  have hWb : Hid (∀ g, vW.ownBlock = some g → g < w3.heap.size) := fun g hg => (hW3.blk g hg).2
  obtain ⟨aW, cW, hvW, _⟩ := hW3.read
  subst hvW
  clear hb3 hR2 B2
  go_wp2_with fail
  refine (toEnts_any a n c f _ HN.out (HR.out.up B3)).mono ?_
  rintro e w4 ⟨rfl, hX4, hb4⟩
  have B4 := B3.trans (hb4.mono B3.size)
  have hW4 := hW3.up hb4
  have hXl := hX4.lt
  clear hb4 hW3
  go_wp2_with fail
  refine (iLearned_any _ n n f m p t A b _ hn hX4.ents k0 k1 HP.out).mono ?_
  rintro e w5 ⟨vG, rfl, hG5, hb5⟩
  have B5 := B4.trans (hb5.mono B4.size)
  have hW5 := hW4.up hb5
  have hX5 := hX4.keep (hb5.block _ hXl)
  have hGb : Hid (∀ g, vG.ownBlock = some g → w4.heap.size ≤ g) := fun g hg => (hG5.blk g hg).1
  obtain ⟨aG, cG, hvG, _⟩ := hG5.read
  subst hvG
  have HXl : Hid (w3.heap.size < w4.heap.size) := hXl
  have H3 : Hid (w.heap.size ≤ w3.heap.size) := B3.size
  clear hb5 hW4 hX4 B4 B3 hXl
  go_wp2_with fail
  have hGr := hG5.read
  have hWr := hW5.read
  refine (eqEnts_any aG aW A.length cG cW _ _ HL (rd_of hG5) (rd_of hW5)).mono ?_
  rintro e w6 ⟨rfl, hb6⟩
  have B6 := B5.trans (hb6.mono B5.size)
  have hW6 := hW5.up hb6
  have hG6 := hG5.up hb6
  have hX6 := hX5.keep (hb6.block _ hX5.lt)
  clear hb6 hW5 hG5 hX5 B5 hGr hWr
  go_wp2_with fail
  refine (toEnts_any a n c f _ HN.out (HR.out.up B6)).mono ?_
  rintro e w7 ⟨rfl, hR7, hb7⟩
  have B7 := B6.trans (hb7.mono B6.size)
  have hW7 := hW6.up hb7
  have hG7 := hG6.up hb7
  have hX7 := hX6.keep (hb7.block _ hX6.lt)
  clear hb7 hW6 hG6 hX6 B6
  go_wp2_with fail
  refine (eqEnts_any _ _ n n n f _ HN.out hX7.ents hR7.ents).mono ?_
  rintro e w8 ⟨rfl, hb8⟩
  have B8 := B7.trans (hb8.mono B7.size)
  have hW8 := hW7.up hb8
  have hG8 := hG7.up hb8
  have hX8 := hX7.keep (hb8.block _ hX7.lt)
  clear hb8 hW7 hG7 hX7 B7 hR7
  go_wp2_with fail
  refine (markEnts_any w3.heap.size n n 1 _ _ hX8 HN.out (by omega)).mono ?_
  rintro e w9 ⟨rfl, hX9, hT9⟩
  have B9 := B8.trans (hT9.below B8.size (fun x hx => by simp at hx; rw [hx]; exact H3.out))
  have hW9 := hW8.touch hT9 (fun g hg => by simp; have := hWb.out g hg; omega)
  have hG9 := hG8.touch hT9 (fun g hg => by simp; have := hGb.out g hg; have := HXl.out; omega)
  have hk9 : ¬ ((1 + n * 3 : Nat) : Int) < 0 := by omega
  clear hT9 hW8 hG8 hX8 B8 hX9
  go_wp2_with fail
  refine (eqEnts_any aG aW A.length cG cW _ _ HL (rd_of hG9) (rd_of hW9)).mono ?_
  rintro e w10 ⟨rfl, hb10⟩
  have B10 := B9.trans (hb10.mono B9.size)
  have hW10 := hW9.up hb10
  have hG10 := hG9.up hb10
  clear hb10 hW9 hG9 B9
  go_wp2_with fail
  refine (markOwn_any 1 _ hG10 HL (by omega)).mono ?_
  rintro e w11 ⟨rfl, hM11, hT11⟩
  have H4 : Hid (w.heap.size ≤ w4.heap.size) := by have := H3.out; have := HXl.out; show _ ≤ _; omega
  have B11 := B10.trans (hT11.below B10.size (fun x hx => by have := hGb.out x (by simpa [blocksOf] using hx); have := H4.out; omega))
  have hW11 := hW10.touch hT11 (fun g hg hg2 => by have h1 := hGb.out g (by simpa [blocksOf] using hg2); have := hWb.out g hg; have := HXl.out; omega)
  clear hT11 hG10 hW10 B10 hk9
  have hk11 : ¬ ((1 + A.length * 3 : Nat) : Int) < 0 := by omega
  have hq11 : ((((1 + A.length * 3 : Nat) : Int)) != ((1 + A.length * 3 : Nat) : Int)) = false := by simp
  generalize hKK : ((1 + A.length * 3 : Nat) : Int) = KK at *
  go_wp2_with fail
  refine (heldOwn_any 1 _ hM11 HL (by omega)).mono ?_
  rintro e w12 ⟨rfl, hb12⟩
  have B12 := B11.trans (hb12.mono B11.size)
  have hW12 := hW11.up hb12
  have hM12 := hM11.up hb12
  clear hb12 hW11 hM11 B11
  rw [hKK]
  go_wp2_with fail
  refine (toEnts_any a n c f _ HN.out (HR.out.up B12)).mono ?_
  rintro e w13 ⟨rfl, hR13, hb13⟩
  have B13 := B12.trans (hb13.mono B12.size)
  have hW13 := hW12.up hb13
  have hM13 := hM12.up hb13
  clear hb13 hW12 hM12 B12
  go_wp2_with fail
  refine (iLearned_any _ n n f m p t A b _ hn hR13.ents k0 k1 HP.out).mono ?_
  rintro e w14 ⟨vH, rfl, hH14, hb14⟩
  have B14 := B13.trans (hb14.mono B13.size)
  have hW14 := hW13.up hb14
  have hM14 := hM13.up hb14
  obtain ⟨aH, cH, hvH, _⟩ := hH14.read
  subst hvH
  clear hb14 hW13 hM13 B13 hR13
  go_wp2_with fail
  refine (eqEnts_any aH aW A.length cH cW _ _ HL (rd_of hH14) (rd_of hW14)).mono ?_
  rintro e w15 ⟨rfl, hb15⟩
  have B15 := B14.trans (hb15.mono B14.size)
  have hM15 := hM14.up hb15
  clear hb15 hW14 hM14 B14 hH14
  go_wp2_with fail
  refine (heldOwn_any 1 _ hM15 HL (by omega)).mono ?_
  rintro e w16 ⟨rfl, hb16⟩
  have B16 := B15.trans (hb16.mono B15.size)
  clear hb16 hM15 B15
  rw [hKK]
  go_wp2_with fail
  go_ret
  exact ⟨rfl, B16⟩

set_option maxRecDepth 100000 in
theorem learned_lifted (os : Os) (started : os.Started) (H : Type) (enc : TypeId × Value → H) :
    ReturnsInHanded {} Try.checked os 6 .any (Rows.fnExactLearnedSpec.pre6 enc Try.prog Try.f6 Rows.fnExactLearnedRow.domain false) (Rows.fnExactLearnedSpec.post enc Try.prog Try.f6 false true false false) := by
  refine returnsInHanded_of_change (C := Try.checked) ownOkL started (by kernel_rfl) Try.func6
    (ChangeSpec.witness6 (enc := enc) (C := Try.checked) false ⟨#[], #[.slice none 0 0, .int .i64 0, .int .i64 0, .int .i64 0], []⟩ 8 (by kernel_rfl) (by kernel_rfl) (by kernel_rfl) (by kernel_rfl)) ?_
  intro W base args ds gs before hval0 hW hcnd _
  have hval : ∀ (j : Nat) t v, Try.f6.params[j]? = some t → args[j]? = some v → Value.okWide Try.prog W .any base t v := hval0
  have hW' := hW
  obtain ⟨p, q, hA0, hV, rfl, hfz, hnd⟩ := hW
  have hA : DataW.TrodAll enc Try.prog W 0 (fun _ => true) true Try.f6.params.toList args.toList ds p := hA0
  rw [Try.params6] at hA hval
  obtain ⟨v0, vs0, d0, ds0, p0, q0, hargs, rfl, rfl, h0, r0⟩ := trodAll_cons hA
  obtain ⟨v1, vs1, d1, ds1, p1, q1, rfl, rfl, rfl, h1, r1⟩ := trodAll_cons r0
  obtain ⟨v2, vs2, d2, ds2, p2, q2, rfl, rfl, rfl, h2, r2⟩ := trodAll_cons r1
  obtain ⟨v3, vs3, d3, ds3, p3, q3, rfl, rfl, rfl, h3, r3⟩ := trodAll_cons r2
  obtain ⟨rfl, rfl, rfl⟩ := trodAll_nil r3
  obtain rfl : args = #[v0, v1, v2, v3] := by cases args; simp_all
  obtain ⟨rfl, rfl⟩ := trodVars_none hV
  obtain ⟨a0, n0, c0, rfl⟩ := okWide_slice Try.underlying22 (hval 0 22 v0 rfl rfl)
  have k0 := h0
  have lt0 : ∀ x ∈ p0, x.block < W.heap.size := by obtain ⟨m, hm⟩ := k0; exact DataW.trod_lt m _ _ _ hm
  obtain ⟨hn0, f0, rr0⟩ := open_ents h0
  obtain ⟨a1, rfl, rfl, rfl, w1⟩ := open_int Try.underlying2 (hval 1 2 v1 rfl rfl) h1
  obtain ⟨a2, rfl, rfl, rfl, w2⟩ := open_int Try.underlying2 (hval 2 2 v2 rfl rfl) h2
  obtain ⟨a3, rfl, rfl, rfl, w3⟩ := open_int Try.underlying2 (hval 3 2 v3 rfl rfl) h3
  clear hA0 hval0
  refine (learned_law a0 n0 c0 f0 a1 a2 a3 W hn0 rr0 (by have := bounds_i64 w1; omega) (by have := bounds_i64 w1; omega)).mono fun e W' ⟨he, bel⟩ => ?_
  subst he
  exact ⟨_, rfl, _, _, _, [], _, [], hW', trodAll_mk1 (shut_bool Try.underlying4 _), (trodAll_cons_mk (Below.trod laidOutT (by kernel_rfl) (of_decide_eq_true (by kernel_rfl)) k0 bel lt0) (trodAll_cons_mk (shut_int Try.underlying2 w1) (trodAll_cons_mk (shut_int Try.underlying2 w2) (trodAll_cons_mk (shut_int Try.underlying2 w3) trodAll_mk0)))), rfl, bel.frame _, fun h => by cases h⟩

theorem learned_holds : Rows.FnExactLearnedSaid :=
  OpenClaim.holds_of_wide 6 Try.f6 rfl rfl rfl rfl rfl rfl rfl ⟨rfl, rfl, rfl, rfl, rfl⟩ rfl rfl rfl rfl rfl (by kernel_rfl) Try.func6 (by kernel_rfl)
    (of_decide_eq_true (by kernel_rfl)) (by unfold Func.isWrapper; first | (rw [if_pos (by decide +kernel)]; kernel_rfl) | (rw [if_neg (by decide +kernel)]; exact ⟨rfl, rfl⟩))
    (fun os started H enc _ => learned_lifted os started H enc)
#print axioms learned_holds
end Go.Proofs.Ytaikjgjdggpnjaa
