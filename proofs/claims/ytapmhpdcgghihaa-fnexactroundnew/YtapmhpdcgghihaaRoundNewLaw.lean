/- At every list of quanta RoundNew answers as the specification does, writes into no argument, and its answer owns its memory: the law FnExactRoundNew returns true for every argument, under no condition. -/
import Derived.Test.YtapmhpdcgghihaaRows
import Derived.Test.YtapmhpdcgghihaaRnNewI
import Derived.Test.YtapmhpdcgghihaaRnNewS
import Derived.Test.YtapmhpdcgghihaaRnMkR
import Derived.Test.YtapmhpdcgghihaaLiftR
import Derived.ProofKit
import Derived.OpenShut
import Derived.ShutString
import Derived.ChangeOld
import Derived.Below
namespace Go.Proofs.Ytapmhpdcgghihaa
open Go.ChangeShapes Go.WideShapes Go.ChangeAt Go.RowKit
set_option linter.unusedVariables false

theorem ownOkN : ownKnob Try.prog.godebug = none := by kernel_rfl
theorem newM_small {n : Nat} {f : Nat → Int} {ok : Bool} (hn : n ≤ 1048576) : (newM n f ok).Small := by
  cases ok
  · exact ⟨Nat.zero_le _, Nat.zero_le _, Nat.zero_le _, fun i _ => Nat.zero_le _⟩
  · exact ⟨hn, hn, hn, fun i _ => Nat.zero_le _⟩
theorem Alike.small {A B : Rnd} (h : Alike A B) (hs : A.Small) : B.Small := ⟨by rw [h.nQ]; exact hs.q, by rw [h.nD]; exact hs.d, by rw [h.nS]; exact hs.s, fun i hi => by rw [h.l]; exact hs.l i (by rw [← h.nS]; exact hi)⟩
theorem sumL_zero (n : Nat) : sumL (fun _ => 0) n = 0 := by
  induction n with
  | zero => rfl
  | succ k ih => show sumL (fun _ => 0) k + 0 = 0; omega
theorem newM_sum {n : Nat} {f : Nat → Int} {ok : Bool} {R : Rnd} (h : Alike (newM n f ok) R) : sumL R.L R.nS ≤ 5000000 := by
  have e : R.L = fun _ => 0 := by
    rw [h.l]
    cases ok <;> rfl
  rw [e, sumL_zero]
  omega
set_option maxHeartbeats 20000000 in
theorem roundNew_law (a : Option Addr) (n c : Nat) (f : Nat → Int) (w : World) (hn : n ≤ maxLen) (h : RdRow w a n fun i => .int .i64 (f i)) :
    Calls Try.prog 4 #[.slice a n c] w fun e w' => e = .returned (.bool true) ∧ Below w.heap.size w w' := by
  obtain ⟨ok, hok⟩ := ok_decR (newR n f none 0 0 0).Ok
  have HO : Hid (ok = true ↔ (newR n f none 0 0 0).Ok) := hok
  have HR : Hid (RdRow w a n fun i => .int .i64 (f i)) := h
  have hbb : (ok != ok) = false := by cases ok <;> rfl
  have hm : (n : Int) ≤ 9223372036854775807 := by unfold maxLen at hn; omega
  clear h hok
  by_cases hbig : (n : Int) > 1048576
  · go_enter Try.func4, Try.ntmps4
    go_wp2_with fail
    go_ret
    exact ⟨rfl, Below.refl _ _⟩
  have HN : Hid (n ≤ 1048576) := by show n ≤ 1048576; omega
  go_enter Try.func4, Try.ntmps4
  go_wp2_with fail
  refine (toInts_any a n c f _ HN.out HR.out).mono ?_
  rintro e w1 ⟨rfl, hX1, B1⟩
  go_wp2_with fail
  refine (sRoundNew_any _ _ n n f _ HN.out hX1.read ok HO.out).mono ?_
  rintro e w2 ⟨RW, rfl, hW2, hb2, hAW⟩
  have B2 := B1.trans (hb2.mono B1.size)
  have HAW : Hid (Alike (newM n f ok) RW) := hAW
  have HW0 : Hid (OwnRn w2 w1.heap.size RW) := hW2
  clear hX1 B1 hb2 hAW
  have hA := (Below.refl w2.heap.size w2).alloc (Nat.le_refl _) (.cells #[.slice RW.aQ RW.nQ RW.cQ, .slice RW.aD RW.nD RW.cD, .int .i64 RW.turn, .bool RW.fresh, .slice RW.aS RW.nS RW.cS] 28)
  have kW := blk_new w2 (.cells #[.slice RW.aQ RW.nQ RW.cQ, .slice RW.aD RW.nD RW.cD, .int .i64 RW.turn, .bool RW.fresh, .slice RW.aS RW.nS RW.cS] 28)
  have HEA : Hid ((w2.alloc (.cells #[.slice RW.aQ RW.nQ RW.cQ, .slice RW.aD RW.nD RW.cD, .int .i64 RW.turn, .bool RW.fresh, .slice RW.aS RW.nS RW.cS] 28)).heap.size = w2.heap.size + 1) := by rw [Hid]; simp
  have hW := hW2.up hA
  have B := B2.trans (hA.mono B2.size)
  clear hA hW2 B2
  dsimp only [Rnd.cells]
  go_wp2_with fail
  generalize w2.alloc (.cells #[.slice RW.aQ RW.nQ RW.cQ, .slice RW.aD RW.nD RW.cD, .int .i64 RW.turn, .bool RW.fresh, .slice RW.aS RW.nS RW.cS] 28) = wa at *
  refine (toInts_any a n c f _ HN.out (HR.out.up B)).mono ?_
  rintro e w3 ⟨rfl, hX, hb⟩
  replace hW := hW.up hb
  replace kW := (hb.block _ (blk_lt kW)).trans kW
  have B3 := B.trans (hb.mono B.size)
  have lX : wa.heap.size < w3.heap.size := hX.lt
  have HwA : Hid (w.heap.size ≤ wa.heap.size) := B.size
  clear hb B
  go_wp2_with fail
  refine (iRoundNew_any _ _ n n f _ HN.out hX.read ok HO.out).mono ?_
  rintro e w4 ⟨RG, rfl, hG, hb, hAG⟩
  have HAG : Hid (Alike (newM n f ok) RG) := hAG
  have HG0 : Hid (OwnRn w4 w3.heap.size RG) := hG
  replace hW := hW.up hb
  replace hX := hX.keep (hb.block _ hX.lt)
  replace kW := (hb.block _ (blk_lt kW)).trans kW
  have B4 := B3.trans (hb.mono B3.size)
  have l34 := hb.size
  clear hb B3 hAG
  have hA := (Below.refl w4.heap.size w4).alloc (Nat.le_refl _) (.cells #[.slice RG.aQ RG.nQ RG.cQ, .slice RG.aD RG.nD RG.cD, .int .i64 RG.turn, .bool RG.fresh, .slice RG.aS RG.nS RG.cS] 28)
  have kG := blk_new w4 (.cells #[.slice RG.aQ RG.nQ RG.cQ, .slice RG.aD RG.nD RG.cD, .int .i64 RG.turn, .bool RG.fresh, .slice RG.aS RG.nS RG.cS] 28)
  replace hW := hW.up hA
  replace hG := hG.up hA
  replace hX := hX.keep (hA.block _ hX.lt)
  replace kW := (hA.block _ (blk_lt kW)).trans kW
  have B := B4.trans (hA.mono B4.size)
  have cW := blk_cell kW
  clear hA B4
  dsimp only [Rnd.cells]
  go_wp2_with fail
  generalize w4.alloc (.cells #[.slice RG.aQ RG.nQ RG.cQ, .slice RG.aD RG.nD RG.cD, .int .i64 RG.turn, .bool RG.fresh, .slice RG.aS RG.nS RG.cS] 28) = wb at *
  have HGW : Hid (Alike RG RW) := HAG.out.symm.trans HAW.out
  have HGs : Hid RG.Small := HAG.out.small (newM_small HN.out)
  refine (eqRound_any RG RW _ HGs.out hG.rd hW.rd HGW.out.nQ HGW.out.q HGW.out.nD HGW.out.d HGW.out.t HGW.out.f HGW.out.nS HGW.out.l HGW.out.z).mono ?_
  rintro e w5 ⟨rfl, hb⟩
  replace hW := hW.up hb
  replace hG := hG.up hb
  replace hX := hX.keep (hb.block _ hX.lt)
  replace kW := (hb.block _ (blk_lt kW)).trans kW
  replace kG := (hb.block _ (blk_lt kG)).trans kG
  replace B := B.trans (hb.mono B.size)
  replace cW := blk_cell kW
  clear hb
  go_wp2_with fail
  refine (toInts_any a n c f _ HN.out (HR.out.up B)).mono ?_
  rintro e w6 ⟨rfl, hY, hb⟩
  replace hW := hW.up hb
  replace hG := hG.up hb
  replace hX := hX.keep (hb.block _ hX.lt)
  replace kW := (hb.block _ (blk_lt kW)).trans kW
  replace kG := (hb.block _ (blk_lt kG)).trans kG
  replace B := B.trans (hb.mono B.size)
  replace cW := blk_cell kW
  clear hb
  go_wp2_with fail
  refine (eqInts_any _ _ n n n f _ HN.out hX.read hY.read).mono ?_
  rintro e w7 ⟨rfl, hS⟩
  have hb := hS.below w6.heap.size
  clear hS hY
  replace hW := hW.up hb
  replace hG := hG.up hb
  replace hX := hX.keep (hb.block _ hX.lt)
  replace kW := (hb.block _ (blk_lt kW)).trans kW
  replace kG := (hb.block _ (blk_lt kG)).trans kG
  replace B := B.trans (hb.mono B.size)
  replace cW := blk_cell kW
  clear hb
  go_wp2_with fail
  refine (markInts_any wa.heap.size n n 1 _ _ hX HN.out (by omega)).mono ?_
  rintro e w8 ⟨rfl, hX8, hT⟩
  have eA := HEA.out
  have hW8 := hW.touchHi HW0.out hT (fun x hx => by simp at hx; omega)
  have hG8 := hG.touch hT (fun x hx => by simp at hx; omega)
  have kW8 := (hT.block _ (blk_lt kW) (by simp; omega)).trans kW
  have kG8 := (hT.block _ (blk_lt kG) (by simp; omega)).trans kG
  have B8 := B.trans (hT.below B.size (fun x hx => by simp at hx; rw [hx]; exact HwA.out))
  clear hW hG kW kG hX hX8 cW hT B eA
  have cW := blk_cell kW8
  have cG := blk_cell kG8
  have hk8 : ¬ ((1 + n : Nat) : Int) < 0 := by omega
  go_wp2_with fail
  refine (eqRound_any RG RW _ HGs.out hG8.rd hW8.rd HGW.out.nQ HGW.out.q HGW.out.nD HGW.out.d HGW.out.t HGW.out.f HGW.out.nS HGW.out.l HGW.out.z).mono ?_
  rintro e w9 ⟨rfl, hb⟩
  have hW := hW8.up hb
  have hG := hG8.up hb
  have kW := (hb.block _ (blk_lt kW8)).trans kW8
  have kG := (hb.block _ (blk_lt kG8)).trans kG8
  have B := B8.trans (hb.mono B8.size)
  have l9 : w3.heap.size ≤ w9.heap.size := by
    have := blk_lt kG
    omega
  clear hW8 hG8 kW8 kG8 cW cG hb B8 hk8
  have cG := blk_cell kG
  go_wp2_with fail
  refine (markRound_any RG 1 w3.heap.size _ hG HGs.out (newM_sum HAG.out) (by omega) l9).mono ?_
  rintro e w10 ⟨T, rfl, hM, hT, hTb⟩
  have hTb := hTb w4 HG0.out
  have eA := HEA.out
  have hW10 := hW.touchHi HW0.out hT (fun x hx => by have := (hTb x hx).1; omega)
  have kW10 := (hT.block _ (blk_lt kW) (fun hx => by have := (hTb _ hx).1; omega)).trans kW
  have kG10 := (hT.block _ (blk_lt kG) (fun hx => by have := (hTb _ hx).2; omega)).trans kG
  have B10 := B.trans (hT.below B.size (fun x hx => by have := (hTb x hx).1; have := HwA.out; omega))
  clear hW hG kW kG cG hT hTb B eA
  have cG := blk_cell kG10
  generalize hKK : ((RG.total 1 : Nat) : Int) = KK at *
  have hk1 : ¬ KK < 0 := by omega
  have hk2 : (KK != KK) = false := by simp
  go_wp2_with fail
  refine (heldRound_any RG 1 w3.heap.size _ hM HGs.out (newM_sum HAG.out) (by omega)).mono ?_
  rintro e w11 ⟨rfl, hb⟩
  rw [hKK]
  have hW := hW10.up hb
  replace hM := hM.up hb
  have kW := (hb.block _ (blk_lt kW10)).trans kW10
  have kG := (hb.block _ (blk_lt kG10)).trans kG10
  have B := B10.trans (hb.mono B10.size)
  clear hW10 kW10 kG10 cG hb B10
  go_wp2_with fail
  refine (toInts_any a n c f _ HN.out (HR.out.up B)).mono ?_
  rintro e w12 ⟨rfl, hY, hb⟩
  replace hW := hW.up hb
  replace hM := hM.up hb
  replace kW := (hb.block _ (blk_lt kW)).trans kW
  replace kG := (hb.block _ (blk_lt kG)).trans kG
  replace B := B.trans (hb.mono B.size)
  clear hb
  go_wp2_with fail
  refine (iRoundNew_any _ _ n n f _ HN.out hY.read ok HO.out).mono ?_
  rintro e w13 ⟨RH, rfl, hH, hb, hAH⟩
  have HHW : Hid (Alike RH RW) := hAH.symm.trans HAW.out
  have HHs : Hid RH.Small := hAH.small (newM_small HN.out)
  replace hW := hW.up hb
  replace hM := hM.up hb
  replace kW := (hb.block _ (blk_lt kW)).trans kW
  replace kG := (hb.block _ (blk_lt kG)).trans kG
  replace B := B.trans (hb.mono B.size)
  clear hb hY hAH
  have hA := (Below.refl w13.heap.size w13).alloc (Nat.le_refl _) (.cells #[.slice RH.aQ RH.nQ RH.cQ, .slice RH.aD RH.nD RH.cD, .int .i64 RH.turn, .bool RH.fresh, .slice RH.aS RH.nS RH.cS] 28)
  replace hW := hW.up hA
  replace hM := hM.up hA
  replace hH := hH.up hA
  replace kW := (hA.block _ (blk_lt kW)).trans kW
  replace kG := (hA.block _ (blk_lt kG)).trans kG
  replace B := B.trans (hA.mono B.size)
  have cW := blk_cell kW
  clear hA
  dsimp only [Rnd.cells]
  go_wp2_with fail
  generalize w13.alloc (.cells #[.slice RH.aQ RH.nQ RH.cQ, .slice RH.aD RH.nD RH.cD, .int .i64 RH.turn, .bool RH.fresh, .slice RH.aS RH.nS RH.cS] 28) = wc at *
  refine (eqRound_any RH RW _ HHs.out hH.rd hW.rd HHW.out.nQ HHW.out.q HHW.out.nD HHW.out.d HHW.out.t HHW.out.f HHW.out.nS HHW.out.l HHW.out.z).mono ?_
  rintro e w14 ⟨rfl, hb⟩
  replace hM := hM.up hb
  replace kG := (hb.block _ (blk_lt kG)).trans kG
  replace B := B.trans (hb.mono B.size)
  clear hb hW hH kW cW
  have cG := blk_cell kG
  go_wp2_with fail
  refine (heldRound_any RG 1 w3.heap.size _ hM HGs.out (newM_sum HAG.out) (by omega)).mono ?_
  rintro e w15 ⟨rfl, hb⟩
  rw [hKK]
  replace B := B.trans (hb.mono B.size)
  clear hb hM kG cG
  go_wp2_with fail
  go_ret
  exact ⟨rfl, B⟩

set_option maxRecDepth 100000 in
theorem roundNew_lifted (os : Os) (started : os.Started) (H : Type) (enc : TypeId × Value → H) :
    ReturnsInHanded {} Try.checked os 4 .any (Rows.fnExactRoundNewSpec.pre6 enc Try.prog Try.f4 Rows.fnExactRoundNewRow.domain false) (Rows.fnExactRoundNewSpec.post enc Try.prog Try.f4 false true false false) := by
  refine returnsInHanded_of_change (C := Try.checked) ownOkN started (by kernel_rfl) Try.func4
    (ChangeSpec.witness6 (enc := enc) (C := Try.checked) false ⟨#[], #[.slice none 0 0], []⟩ 8 (by kernel_rfl) (by kernel_rfl) (by kernel_rfl) (by kernel_rfl)) ?_
  intro W base args ds gs before hval0 hW hcnd _
  have hval : ∀ (j : Nat) t v, Try.f4.params[j]? = some t → args[j]? = some v → Value.okWide Try.prog W .any base t v := hval0
  have hW' := hW
  obtain ⟨p, q, hA0, hV, rfl, hfz, hnd⟩ := hW
  have hA : DataW.TrodAll enc Try.prog W 0 (fun _ => true) true Try.f4.params.toList args.toList ds p := hA0
  rw [Try.params4] at hA hval
  obtain ⟨v0, vs0, d0, ds0, p0, q0, hargs, rfl, rfl, h0, r0⟩ := trodAll_cons hA
  obtain ⟨rfl, rfl, rfl⟩ := trodAll_nil r0
  obtain rfl : args = #[v0] := by cases args; simp_all
  obtain ⟨rfl, rfl⟩ := trodVars_none hV
  obtain ⟨a0, n0, c0, rfl⟩ := okWide_slice Try.underlying22 (hval 0 22 v0 rfl rfl)
  have k0 := h0
  have lt0 : ∀ x ∈ p0, x.block < W.heap.size := by obtain ⟨m, hm⟩ := k0; exact DataW.trod_lt m _ _ _ hm
  obtain ⟨m0, hm0⟩ := h0
  obtain ⟨a0', n0', c0', f0, ev0, hn0, rr0⟩ := open_intRowR (v := .slice a0 n0 c0) hm0
  cases ev0
  clear hA0 hval0
  refine (roundNew_law a0 n0 c0 f0 W hn0 rr0).mono fun e W' ⟨he, bel⟩ => ?_
  subst he
  exact ⟨_, rfl, _, _, _, [], _, [], hW', trodAll_mk1 (shut_bool Try.underlying4 _), (trodAll_cons_mk (Below.trod laidOutR (by kernel_rfl) (of_decide_eq_true (by kernel_rfl)) k0 bel lt0) trodAll_mk0), rfl, bel.frame _, fun h => by cases h⟩

theorem roundNew_holds : Rows.FnExactRoundNewSaid :=
  OpenClaim.holds_of_wide 4 Try.f4 rfl rfl rfl rfl rfl rfl rfl ⟨rfl, rfl, rfl, rfl, rfl⟩ rfl rfl rfl rfl rfl (by kernel_rfl) Try.func4 (by kernel_rfl)
    (of_decide_eq_true (by kernel_rfl)) (by unfold Func.isWrapper; first | (rw [if_pos (by decide +kernel)]; kernel_rfl) | (rw [if_neg (by decide +kernel)]; exact ⟨rfl, rfl⟩))
    (fun os started H enc _ => roundNew_lifted os started H enc)
#print axioms roundNew_holds
end Go.Proofs.Ytapmhpdcgghihaa
