/- What is aged knows just what was known then, also later: the law FnAged returns true for every code, under no condition. -/
import Derived.Test.YtfpomccgmligbaaLiftB
import Derived.Test.YtfpomccgmligbaaAgeM
namespace Go.Proofs.Ytfpomccgmligbaa
open Go.ChangeShapes Go.WideShapes Go.ChangeAt Go.RowKit
set_option linter.unusedVariables false
set_option linter.unusedSimpArgs false

set_option maxRecDepth 100000 in
set_option maxHeartbeats 8000000 in
theorem agedLaw_any (a : Option Addr) (len cap : Nat) (w : World) (hl : len ≤ maxLen) (hC : len ≤ 1048576 → Code w.heap.size (.slice a len cap) len w) :
    Calls Try.prog 4 #[.slice a len cap] w fun e w' => e = .returned (.bool true) ∧ Below w.heap.size w w' := by
  have HC : Hid (len ≤ 1048576 → Code w.heap.size (.slice a len cap) len w) := hC
  clear hC
  by_cases hbig : 1048576 < (len : Int)
  · go_enter Try.func4, Try.ntmps4
    go_wp2_with fail
    refine (bigT_any a len cap _ hl).mono ?_
    rintro e w' ⟨rfl, hw⟩
    rw [hw, decide_eq_true hbig]
    clear hw w'
    go_wp2_with fail
    go_ret
    exact ⟨rfl, Below.refl _ _⟩
  go_enter Try.func4, Try.ntmps4
  go_wp2_with fail
  refine (bigT_any a len cap _ hl).mono ?_
  rintro e w' ⟨rfl, hw⟩
  rw [hw, decide_eq_false (show ¬ (1048576 : Int) < (len : Int) by omega)]
  clear hw w'
  go_wp2_with fail
  refine (drawAged_any (.slice a len cap) len _ (HC.out (by omega)) ⟨_, _, _, rfl⟩).mono ?_
  rintro e w1 ⟨al, n, cl, f, x, rfl, hx, hn, hrd, B⟩
  clear HC hbig
  obtain ⟨ok, hok⟩ := tab_dec n f
  obtain ⟨A, hA⟩ := agedR n f (x : Int)
  have HO : Hid (ok = true ↔ tabOk n f) := hok
  have HA : Hid (AgedR n f (x : Int) A) := hA
  have HA8 : Hid (A.length ≤ 8) := hA.few
  have HM : Hid (n ≤ maxLen) := by rw [Hid]; unfold maxLen; omega
  have HN8 : Hid (n ≤ 8) := hn
  have HX : Hid (x < 60) := hx
  clear hok hA hn
  go_wp2_with fail
  refine (iAged_any al n cl f (x : Int) A _ HM.out hrd HA.out).mono ?_
  rintro e w2 ⟨v1, rfl, hv1, hb⟩
  obtain ⟨a1, c1, rfl, hr1⟩ := hv1.read
  replace hrd := hrd.up hb
  replace B := B.trans (hb.mono B.size)
  clear hv1 hb
  go_wp2_with fail
  refine (sAged_any al n cl f (x : Int) A _ HM.out hrd HA.out).mono ?_
  rintro e w3 ⟨v2, rfl, hv2, hb⟩
  obtain ⟨a2, c2, rfl, hr2⟩ := hv2.read
  replace hrd := hrd.up hb
  replace hr1 := hr1.up hb
  replace B := B.trans (hb.mono B.size)
  clear hv2 hb
  go_wp2_with fail
  refine (sameTable_any a1 a2 A.length c1 c2 _ _ (by have := HA8.out; omega) hr1 hr2).mono ?_
  rintro e w4 ⟨rfl, hSm⟩
  have hb := hSm.below w3.heap.size
  replace hrd := hrd.up hb
  replace hr1 := hr1.up hb
  replace B := B.trans (hb.mono B.size)
  clear hSm hb hr2
  go_wp2_with fail
  refine (sTableOk_any al n cl f _ HM.out hrd ok HO.out).mono ?_
  rintro e w5 ⟨rfl, hb⟩
  replace hrd := hrd.up hb
  replace hr1 := hr1.up hb
  replace B := B.trans (hb.mono B.size)
  clear hb
  have hx1 : ¬ (x : Int) < 0 := by omega
  have hx2 : ¬ (999999970 : Int) < (x : Int) := by omega
  cases ok
  · go_wp2_with fail
    refine (sAged_any al n cl f (x : Int) A _ HM.out hrd HA.out).mono ?_
    rintro e w6 ⟨v2, rfl, hv2, hb⟩
    obtain ⟨a2, c2, rfl, hr2⟩ := hv2.read
    replace hr1 := hr1.up hb
    replace B := B.trans (hb.mono B.size)
    clear hv2 hb hrd
    go_wp2_with fail
    refine (sameTable_any a1 a2 A.length c1 c2 _ _ (by have := HA8.out; omega) hr1 hr2).mono ?_
    rintro e w7 ⟨rfl, hSm⟩
    replace B := B.trans ((hSm.below w6.heap.size).mono B.size)
    clear hSm hr1 hr2
    go_wp2_with fail
    go_ret
    exact ⟨rfl, B⟩
  · have HT : Hid (tabOk n f) := HO.out.1 rfl
    have HTm : Hid (timeOk (x : Int)) := ⟨by omega, by have := HX.out; omega⟩
    obtain rfl : A = agedL (entsL n f) (x : Int) := HA.out.good HT.out HTm.out
    have HR1 : Hid (RdEnt w5 a1 (agedL (entsL n f) (x : Int)).length fun i => (agedL (entsL n f) (x : Int)).getD i default) := hr1
    have HRd : Hid (RdEnt w5 al n f) := hrd
    have HB5 : Hid (Below w.heap.size w w5) := B
    have HP : Hid (∀ mac t r, (x : Int) ≤ t → t ≤ 1000 → PortR n f mac t r → PortR (agedL (entsL n f) (x : Int)).length (fun i => (agedL (entsL n f) (x : Int)).getD i default) mac t r) := fun mac t r h1 h2 hr => port_aged HT.out ⟨by have := HTm.out.1; omega, by omega⟩ h1 hr
    have HAA : Hid (AgedR (agedL (entsL n f) (x : Int)).length (fun i => (agedL (entsL n f) (x : Int)).getD i default) (x : Int) (agedL (entsL n f) (x : Int))) := aged_aged HT.out HTm.out
    have HTA : Hid (tabOk (agedL (entsL n f) (x : Int)).length fun i => (agedL (entsL n f) (x : Int)).getD i default) := by
      obtain ⟨h1, h2, h3⟩ := aged_list (now := (x : Int)) HT.out
      exact tab_of_list h1 h2 h3
    have HMA : Hid ((agedL (entsL n f) (x : Int)).length ≤ maxLen) := by have := HA8.out; rw [Hid]; unfold maxLen; omega
    have HM8 : Hid ((agedL (entsL n f) (x : Int)).length ≤ 8) := HA8.out
    clear HA HA8 HO hr1 hrd B
    generalize agedL (entsL n f) (x : Int) = A at *
    have hx60 : x < 60 := HX.out
    go_wp2_with fail
    go_loopw [6] (fun i wr => ∃ m : Nat, 1 ≤ m ∧ m ≤ 21 ∧ i = .int .i64 m ∧ Below w5.heap.size w5 wr) (fun i _ => 21 - (intOf i).toNat)
    case atStart => exact ⟨1, by omega, by omega, rfl, Below.refl _ _⟩
    case round =>
      obtain ⟨m, hm1, hm2, rfl, hB⟩ := hrel
      by_cases hlt : m ≤ 20
      · have hlt' : (m : Int) ≤ 20 := by omega
        go_wp2_with fail
        go_loopw [7] (fun i wr => ∃ d : Nat, d ≤ 36 ∧ i = .int .i64 d ∧ Below w5.heap.size w5 wr) (fun i _ => 36 - (intOf i).toNat)
        case atStart => exact ⟨0, by omega, rfl, hB⟩
        case round =>
          clear hB
          obtain ⟨d, hd, rfl, hB⟩ := hrel
          by_cases hdl : d < 30
          · have hdl' : (d : Int) < 30 := by omega
            obtain ⟨r, hr⟩ := portR n f (m : Int) ((x : Int) + (d : Int))
            have HPr : Hid (PortR n f (m : Int) ((x : Int) + (d : Int)) r) := hr
            have HPa : Hid (PortR A.length (fun i => A.getD i default) (m : Int) ((x : Int) + (d : Int)) r) := HP.out _ _ _ (by omega) (by omega) hr
            have hrr : (r != r) = false := by simp
            clear hr
            go_wp2_with fail
            refine (iPortOf_any a1 A.length c1 _ (m : Int) ((x : Int) + (d : Int)) r _ HMA.out (HR1.out.up hB) (by omega) (by omega) HPa.out).mono ?_
            rintro e w6 ⟨rfl, hb⟩
            replace hB := hB.trans (hb.mono hB.size)
            clear hb
            go_wp2_with fail
            refine (iPortOf_any al n cl f (m : Int) ((x : Int) + (d : Int)) r _ HM.out (HRd.out.up hB) (by omega) (by omega) HPr.out).mono ?_
            rintro e w7 ⟨rfl, hb⟩
            have HB : Hid (Below w5.heap.size w5 w7) := hB.trans (hb.mono hB.size)
            clear hb hB
            go_wp2_with fail
            go_roundw
            case rel => exact ⟨d + 7, by omega, by go_num, HB.out⟩
            case measure => simp [intOf]; omega
          · have hdl' : ¬ (d : Int) < 30 := by omega
            have HB : Hid (Below w5.heap.size w5 wr) := hB
            clear hB
            go_wp2_with fail
            go_roundw
            case rel => exact ⟨m + 1, by omega, by omega, by go_num, HB.out⟩
            case measure => simp [intOf]; omega
      · have hlt' : ¬ (m : Int) ≤ 20 := by omega
        go_wp2_with fail
        refine (iTableOk_any a1 A.length c1 _ _ HMA.out (HR1.out.up hB) true ⟨fun _ => HTA.out, fun _ => rfl⟩).mono ?_
        rintro e w6 ⟨rfl, hb⟩
        replace hB := hB.trans (hb.mono hB.size)
        clear hb
        go_wp2_with fail
        refine (iAged_any a1 A.length c1 _ (x : Int) A _ HMA.out (HR1.out.up hB) HAA.out).mono ?_
        rintro e w7 ⟨v3, rfl, hv3, hb⟩
        obtain ⟨a3, c3, rfl, hr3⟩ := hv3.read
        replace hB := hB.trans (hb.mono hB.size)
        clear hb hv3
        go_wp2_with fail
        refine (sameTable_any a3 a1 A.length c3 c1 _ _ (by have := HM8.out; omega) hr3 (HR1.out.up hB)).mono ?_
        rintro e w8 ⟨rfl, hSm⟩
        replace hB := hB.trans ((hSm.below w7.heap.size).mono hB.size)
        have B := HB5.out.trans (hB.mono HB5.out.size)
        clear hSm hr3 hB
        go_wp2_with fail
        go_ret
        exact ⟨rfl, B⟩

set_option maxRecDepth 100000 in
theorem agedD_lifted (os : Os) (started : os.Started) (H : Type) (enc : TypeId × Value → H) :
    ReturnsInHanded {} Try.checked os 4 .any (Rows.fnAgedSpec.pre6 enc Try.prog Try.f4 Rows.fnAgedRow.domain false) (Rows.fnAgedSpec.post enc Try.prog Try.f4 false true false false) := by
  refine returnsInHanded_of_change (C := Try.checked) own started (by kernel_rfl) Try.func4
    (ChangeSpec.witness6 (enc := enc) (C := Try.checked) false ⟨#[], #[.slice none 0 0], []⟩ 8 (by kernel_rfl) (by kernel_rfl) (by kernel_rfl) (by kernel_rfl)) ?_
  intro W base args ds gs before hval0 hW hcnd _
  have hval : ∀ (j : Nat) t v, Try.f4.params[j]? = some t → args[j]? = some v → Value.okWide Try.prog W .any base t v := hval0
  have hW' := hW
  obtain ⟨p, q, hA0, hV, rfl, hfz, hnd⟩ := hW
  have hA : DataW.TrodAll enc Try.prog W 0 (fun _ => true) true Try.f4.params.toList args.toList ds p := hA0
  rw [Try.params4] at hA hval
  obtain ⟨v0, vs0, d0, ds0, p0, q0, hargs, rfl, rfl, h0, r0⟩ := trodAll_cons hA
  obtain ⟨rfl, rfl, rfl⟩ := trodAll_nil r0
  obtain rfl : args = #[v0] := by cases args; simp_all
  obtain ⟨rfl, rfl⟩ := trodVars_none hV
  obtain ⟨a0, len0, cap0, rfl⟩ := okWide_slice Try.underlying22 (hval 0 22 v0 rfl rfl)
  have k0 := h0
  have lt0 : ∀ x ∈ p0, x.block < W.heap.size := by obtain ⟨m, hm⟩ := k0; exact DataW.trod_lt m _ _ _ hm
  obtain ⟨hm, hc⟩ := open_bytes h0
  clear hA0 hval0
  refine (agedLaw_any a0 len0 cap0 W hm hc).mono fun e W' ⟨he, bel⟩ => ?_
  subst he
  exact ⟨_, rfl, _, _, _, [], _, [], hW', trodAll_mk1 (shut_bool Try.underlying4 _), (trodAll_cons_mk (Below.trod laidOut (by kernel_rfl) (of_decide_eq_true (by kernel_rfl)) k0 bel lt0) trodAll_mk0), rfl, bel.frame _, fun h => by cases h⟩

theorem agedD_holds : Rows.FnAgedSaid :=
  OpenClaim.holds_of_wide 4 Try.f4 rfl rfl rfl rfl rfl rfl rfl ⟨rfl, rfl, rfl, rfl, rfl⟩ rfl rfl rfl rfl rfl (by kernel_rfl) Try.func4 (by kernel_rfl)
    (of_decide_eq_true (by kernel_rfl)) (by unfold Func.isWrapper; first | (rw [if_pos (by decide +kernel)]; kernel_rfl) | (rw [if_neg (by decide +kernel)]; exact ⟨rfl, rfl⟩))
    (fun os started H enc _ => agedD_lifted os started H enc)
#print axioms agedD_holds
end Go.Proofs.Ytfpomccgmligbaa
