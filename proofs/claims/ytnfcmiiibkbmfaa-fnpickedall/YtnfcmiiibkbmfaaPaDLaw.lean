/- Picks one behind the other are picks in one go, and all that waits is picked: on every drawn round the law answers true. -/
import Derived.Test.YtnfcmiiibkbmfaaPaN
namespace Go.Proofs.Ytnfcmiiibkbmfaa
open Go.RowKit
set_option linter.unusedVariables false
set_option linter.unusedSimpArgs false

theorem Alike.smallP {A B : Rnd} (h : Alike A B) (hs : A.Small) : B.Small := ⟨by rw [h.nQ]; exact hs.q, by rw [h.nD]; exact hs.d, by rw [h.nS]; exact hs.s, fun i hi => by rw [h.l]; exact hs.l i (by rw [← h.nS]; exact hi)⟩
theorem Rnd.Small.fitP {R : Rnd} (h : R.Small) : R.Fit := ⟨Nat.le_trans h.q (by unfold maxLen; omega), Nat.le_trans h.d (by unfold maxLen; omega), Nat.le_trans h.s (by unfold maxLen; omega), fun i hi => Nat.le_trans (h.l i hi) (by unfold maxLen; omega)⟩
theorem pickA_smallP {R M : Rnd} {n : Int} {cs : List Int} (h : PickA R n M cs) : M.Small := by
  rcases h with ⟨_, rfl, _⟩ | ⟨hv, i, hf, _⟩
  · exact ⟨Nat.zero_le _, Nat.zero_le _, Nat.zero_le _, fun i _ => Nat.zero_le _⟩
  · exact ok_smallA (hf.ok hv.1).1
set_option maxRecDepth 100000 in
set_option maxHeartbeats 20000000 in
theorem pickedAllLaw_any (a : Option Addr) (len cap : Nat) (w : World) (hl : len ≤ maxLen) (hC : len ≤ 1048576 → Code w.heap.size (.slice a len cap) len w) :
    Calls Try.prog 5 #[.slice a len cap] w fun e w' => e = .returned (.bool true) ∧ Below w.heap.size w w' := by
  have HC : Hid (len ≤ 1048576 → Code w.heap.size (.slice a len cap) len w) := hC
  clear hC
  by_cases hbig : 1048576 < (len : Int)
  · go_enter Try.func5, Try.ntmps5
    go_wp2_with fail
    refine (bigC_any a len cap _ hl).mono ?_
    rintro e w' ⟨rfl, hw⟩
    rw [hw, decide_eq_true hbig]
    clear hw w'
    go_wp2_with fail
    go_ret
    exact ⟨rfl, Below.refl _ _⟩
  go_enter Try.func5, Try.ntmps5
  go_wp2_with fail
  refine (bigC_any a len cap _ hl).mono ?_
  rintro e w' ⟨rfl, hw⟩
  rw [hw, decide_eq_false (by omega)]
  clear hw w'
  go_wp2_with fail
  refine (drawPickedAll_any (.slice a len cap) len _ (HC.out (by omega)) ⟨_, _, _, rfl⟩).mono ?_
  rintro e w1 ⟨R, n, hn24, rfl, hS, hR, hB⟩
  have HS : Hid R.Small := hS
  obtain ⟨M, cs, hp⟩ := pickA_ex R (n : Int)
  have HP : Hid (PickA R (n : Int) M cs) := hp
  obtain ⟨N, hN⟩ : ∃ N, cs.length = N := ⟨_, rfl⟩
  have HNl : Hid (cs.length = N) := hN
  have hN2 : N ≤ 200 := by rw [← hN]; exact hp.len
  obtain ⟨ok, hok⟩ := ok_decR R.Ok
  have HO : Hid (ok = true ↔ R.Ok) := hok
  clear HC hS hp hN hok
  have hA := (Below.refl w1.heap.size w1).alloc (Nat.le_refl _) (.cells #[.slice R.aQ R.nQ R.cQ, .slice R.aD R.nD R.cD, .int .i64 R.turn, .bool R.fresh, .slice R.aS R.nS R.cS] 27)
  have kR := blk_new w1 (.cells #[.slice R.aQ R.nQ R.cQ, .slice R.aD R.nD R.cD, .int .i64 R.turn, .bool R.fresh, .slice R.aS R.nS R.cS] 27)
  replace hR := hR.up hA
  replace hB := hB.trans (hA.mono hB.size)
  clear hA
  dsimp only [Rnd.cells]
  go_wp2_with fail
  generalize w1.alloc (.cells #[.slice R.aQ R.nQ R.cQ, .slice R.aD R.nD R.cD, .int .i64 R.turn, .bool R.fresh, .slice R.aS R.nS R.cS] 27) = w2 at *
  generalize w1.heap.size = bR at *
  refine (iPA_any R M (n : Int) cs N _ HS.out hR.rd HP.out HNl.out).mono ?_
  rintro e w3 ⟨X, ax, cx, rfl, hX, hLx, hb, hA1⟩
  have HX : Hid (Alike M X) := hA1
  replace hR := hR.up hb
  replace kR := (hb.block _ (blk_lt kR)).trans kR
  replace hB := hB.trans (hb.mono hB.size)
  clear hb hA1
  have hA := (Below.refl w3.heap.size w3).alloc (Nat.le_refl _) (.cells #[.slice X.aQ X.nQ X.cQ, .slice X.aD X.nD X.cD, .int .i64 X.turn, .bool X.fresh, .slice X.aS X.nS X.cS] 27)
  have kX := blk_new w3 (.cells #[.slice X.aQ X.nQ X.cQ, .slice X.aD X.nD X.cD, .int .i64 X.turn, .bool X.fresh, .slice X.aS X.nS X.cS] 27)
  replace hX := hX.up hA
  replace hR := hR.up hA
  replace kR := (hA.block _ (blk_lt kR)).trans kR
  replace hLx := hLx.up hA
  replace hB := hB.trans (hA.mono hB.size)
  clear hA
  have ckR := blk_cell kR
  dsimp only [Rnd.cells]
  go_wp2_with fail
  clear ckR
  generalize w3.alloc (.cells #[.slice X.aQ X.nQ X.cQ, .slice X.aD X.nD X.cD, .int .i64 X.turn, .bool X.fresh, .slice X.aS X.nS X.cS] 27) = w4 at *
  generalize w3.heap.size = bX at *
  refine (sPA_any R M (n : Int) cs N _ HS.out hR.rd HP.out HNl.out).mono ?_
  rintro e w5 ⟨Y, ay, cy, rfl, hY, hLy, hb, hA1⟩
  have HY : Hid (Alike M Y) := hA1
  replace hR := hR.up hb
  replace kR := (hb.block _ (blk_lt kR)).trans kR
  replace hX := hX.up hb
  replace kX := (hb.block _ (blk_lt kX)).trans kX
  replace hLx := hLx.up hb
  replace hB := hB.trans (hb.mono hB.size)
  clear hb hA1
  have hA := (Below.refl w5.heap.size w5).alloc (Nat.le_refl _) (.cells #[.slice Y.aQ Y.nQ Y.cQ, .slice Y.aD Y.nD Y.cD, .int .i64 Y.turn, .bool Y.fresh, .slice Y.aS Y.nS Y.cS] 27)
  have kY := blk_new w5 (.cells #[.slice Y.aQ Y.nQ Y.cQ, .slice Y.aD Y.nD Y.cD, .int .i64 Y.turn, .bool Y.fresh, .slice Y.aS Y.nS Y.cS] 27)
  replace hY := hY.up hA
  replace hR := hR.up hA
  replace kR := (hA.block _ (blk_lt kR)).trans kR
  replace hX := hX.up hA
  replace kX := (hA.block _ (blk_lt kX)).trans kX
  replace hLx := hLx.up hA
  replace hLy := hLy.up hA
  replace hB := hB.trans (hA.mono hB.size)
  clear hA
  have ckR := blk_cell kR
  have ckX := blk_cell kX
  dsimp only [Rnd.cells]
  go_wp2_with fail
  clear ckR
  clear ckX
  generalize w5.alloc (.cells #[.slice Y.aQ Y.nQ Y.cQ, .slice Y.aD Y.nD Y.cD, .int .i64 Y.turn, .bool Y.fresh, .slice Y.aS Y.nS Y.cS] 27) = w6 at *
  generalize w5.heap.size = bY at *
  have HXs : Hid X.Small := HX.out.smallP (pickA_smallP HP.out)
  have HXY : Hid (Alike X Y) := HX.out.symm.trans HY.out
  refine (sameInts_any ax ay N cx cy (fun i => cs.getD i 0) _ (by omega) hLx.rd hLy.rd).mono ?_
  rintro e w7 ⟨rfl, hsm⟩
  have hb := hsm.below w6.heap.size
  clear hsm
  replace hR := hR.up hb
  replace kR := (hb.block _ (blk_lt kR)).trans kR
  replace hX := hX.up hb
  replace kX := (hb.block _ (blk_lt kX)).trans kX
  replace hLx := hLx.up hb
  replace hY := hY.up hb
  replace kY := (hb.block _ (blk_lt kY)).trans kY
  replace hLy := hLy.up hb
  replace hB := hB.trans (hb.mono hB.size)
  clear hb
  have cP := blk_cell kX
  have cQ := blk_cell kY
  go_wp2_with fail
  clear cP cQ
  refine (sameRound_any X Y _ HXs.out hX.rd hY.rd HXY.out).mono ?_
  rintro e w8 ⟨rfl, hb⟩
  replace hR := hR.up hb
  replace kR := (hb.block _ (blk_lt kR)).trans kR
  replace hX := hX.up hb
  replace kX := (hb.block _ (blk_lt kX)).trans kX
  replace hLx := hLx.up hb
  replace hY := hY.up hb
  replace kY := (hb.block _ (blk_lt kY)).trans kY
  replace hLy := hLy.up hb
  replace hB := hB.trans (hb.mono hB.size)
  clear hb
  have cR := blk_cell kR
  go_wp2_with fail
  clear cR
  refine (sRoundOk_any R _ HS.out.fitP hR.rd ok HO.out).mono ?_
  rintro e w9 ⟨rfl, hb⟩
  replace hR := hR.up hb
  replace kR := (hb.block _ (blk_lt kR)).trans kR
  replace hX := hX.up hb
  replace kX := (hb.block _ (blk_lt kX)).trans kX
  replace hLx := hLx.up hb
  replace hY := hY.up hb
  replace kY := (hb.block _ (blk_lt kY)).trans kY
  replace hLy := hLy.up hb
  replace hB := hB.trans (hb.mono hB.size)
  clear hb
  cases ok
  · go_wp2_with fail
    refine (sameInts_any ax ay N cx cy (fun i => cs.getD i 0) _ (by omega) hLx.rd hLy.rd).mono ?_
    rintro e w10 ⟨rfl, hsm⟩
    have hb := hsm.below w9.heap.size
    clear hsm
    replace hR := hR.up hb
    replace kR := (hb.block _ (blk_lt kR)).trans kR
    replace hX := hX.up hb
    replace kX := (hb.block _ (blk_lt kX)).trans kX
    replace hLx := hLx.up hb
    replace hY := hY.up hb
    replace kY := (hb.block _ (blk_lt kY)).trans kY
    replace hLy := hLy.up hb
    replace hB := hB.trans (hb.mono hB.size)
    clear hb
    have cP := blk_cell kX
    have cQ := blk_cell kY
    go_wp2_with fail
    clear cP cQ
    refine (sameRound_any X Y _ HXs.out hX.rd hY.rd HXY.out).mono ?_
    rintro e w11 ⟨rfl, hb⟩
    replace hR := hR.up hb
    replace kR := (hb.block _ (blk_lt kR)).trans kR
    replace hX := hX.up hb
    replace kX := (hb.block _ (blk_lt kX)).trans kX
    replace hLx := hLx.up hb
    replace hY := hY.up hb
    replace kY := (hb.block _ (blk_lt kY)).trans kY
    replace hLy := hLy.up hb
    replace hB := hB.trans (hb.mono hB.size)
    clear hb
    have B := hB
    go_wp2_with fail
    go_ret
    exact ⟨rfl, B⟩
  · have HRo : Hid R.Ok := HO.out.1 rfl
    clear HO hY kY hLy HXY HY
    have hlen : len ≤ 1048576 := by omega
    have hwn : IntKind.i64.wrap ((n : Int) + 1) = (n : Int) + 1 := wrapD _ (by omega) (by omega)
    have hnz : ¬ ((n : Int) + 1 = 0) := by omega
    have hnb : (((n : Int) + 1) == 0) = false := by simp; omega
    obtain ⟨kk, hkk, hkn⟩ : ∃ kk : Nat, (len : Int).tmod ((n : Int) + 1) = (kk : Int) ∧ kk ≤ n := by
      have e : (len : Int).tmod ((n : Int) + 1) = ((len % (n + 1) : Nat) : Int) := by
        rw [Int.tmod_eq_emod_of_nonneg (by omega)]
        first | exact (Int.natCast_emod len (n + 1)).symm | simp
      exact ⟨len % (n + 1), e, by have := Nat.mod_lt len (show 0 < n + 1 by omega); omega⟩
    have cR := blk_cell kR
    have hwk : IntKind.i64.wrap (kk : Int) = (kk : Int) := wrapD _ (by omega) (by omega)
    go_wp2_with fail
    clear cR
    obtain ⟨A0, one, hp1⟩ := pickA_ex R (kk : Int)
    obtain ⟨B0, two, hp2⟩ := pickA_ex A0 ((n : Int) - (kk : Int))
    obtain ⟨eB, eL⟩ := pickA_two HRo.out (by omega) (by omega) (by omega) HP.out hp1 hp2
    have HP1 : Hid (PickA R (kk : Int) A0 one) := hp1
    have HP2 : Hid (PickA A0 ((n : Int) - (kk : Int)) B0 two) := hp2
    have HB0 : Hid (B0 = M) := eB
    have HEL : Hid (one ++ two = cs) := eL
    obtain ⟨N1, e1⟩ : ∃ N1, one.length = N1 := ⟨_, rfl⟩
    obtain ⟨N2, e2⟩ : ∃ N2, two.length = N2 := ⟨_, rfl⟩
    have HN1 : Hid (one.length = N1) := e1
    have HN2 : Hid (two.length = N2) := e2
    obtain rfl : N = N1 + N2 := by rw [← HNl.out, ← eL, List.length_append, e1, e2]
    clear hp1 hp2 eB eL e1 e2
    refine (iPA_any R A0 (kk : Int) one N1 _ HS.out hR.rd HP1.out HN1.out).mono ?_
    rintro e w10 ⟨E, ae, ce, rfl, hE, hLe, hb, hA1⟩
    have HE : Hid (Alike A0 E) := hA1
    replace hR := hR.up hb
    replace kR := (hb.block _ (blk_lt kR)).trans kR
    replace hX := hX.up hb
    replace kX := (hb.block _ (blk_lt kX)).trans kX
    replace hLx := hLx.up hb
    replace hB := hB.trans (hb.mono hB.size)
    clear hb hA1
    have hA := (Below.refl w10.heap.size w10).alloc (Nat.le_refl _) (.cells #[.slice E.aQ E.nQ E.cQ, .slice E.aD E.nD E.cD, .int .i64 E.turn, .bool E.fresh, .slice E.aS E.nS E.cS] 27)
    have kE := blk_new w10 (.cells #[.slice E.aQ E.nQ E.cQ, .slice E.aD E.nD E.cD, .int .i64 E.turn, .bool E.fresh, .slice E.aS E.nS E.cS] 27)
    replace hE := hE.up hA
    replace hR := hR.up hA
    replace kR := (hA.block _ (blk_lt kR)).trans kR
    replace hX := hX.up hA
    replace kX := (hA.block _ (blk_lt kX)).trans kX
    replace hLx := hLx.up hA
    replace hLe := hLe.up hA
    replace hB := hB.trans (hA.mono hB.size)
    clear hA
    have ckR := blk_cell kR
    have ckX := blk_cell kX
    dsimp only [Rnd.cells]
    go_wp2_with fail
    clear ckR
    clear ckX
    generalize w10.alloc (.cells #[.slice E.aQ E.nQ E.cQ, .slice E.aD E.nD E.cD, .int .i64 E.turn, .bool E.fresh, .slice E.aS E.nS E.cS] 27) = w11 at *
    generalize w10.heap.size = bE at *
    obtain ⟨B1, hpB, hBB⟩ := HP2.out.like HE.out
    have HPB : Hid (PickA E ((n : Int) - (kk : Int)) B1 two) := hpB
    have HBB : Hid (Alike M B1) := by rw [Hid, ← HB0.out]; exact hBB
    have HEs : Hid E.Small := HE.out.smallP (pickA_smallP HP1.out)
    clear hpB hBB HP2
    refine (iPA_any E B1 ((n : Int) - (kk : Int)) two N2 _ HEs.out hE.rd HPB.out HN2.out).mono ?_
    rintro e w12 ⟨F, af, cf, rfl, hF, hLf, hb, hA1⟩
    have HF : Hid (Alike M F) := HBB.out.trans hA1
    replace hR := hR.up hb
    replace kR := (hb.block _ (blk_lt kR)).trans kR
    replace hX := hX.up hb
    replace kX := (hb.block _ (blk_lt kX)).trans kX
    replace hLx := hLx.up hb
    replace hE := hE.up hb
    replace kE := (hb.block _ (blk_lt kE)).trans kE
    replace hLe := hLe.up hb
    replace hB := hB.trans (hb.mono hB.size)
    clear hb hA1
    have hA := (Below.refl w12.heap.size w12).alloc (Nat.le_refl _) (.cells #[.slice F.aQ F.nQ F.cQ, .slice F.aD F.nD F.cD, .int .i64 F.turn, .bool F.fresh, .slice F.aS F.nS F.cS] 27)
    have kF := blk_new w12 (.cells #[.slice F.aQ F.nQ F.cQ, .slice F.aD F.nD F.cD, .int .i64 F.turn, .bool F.fresh, .slice F.aS F.nS F.cS] 27)
    replace hF := hF.up hA
    replace hR := hR.up hA
    replace kR := (hA.block _ (blk_lt kR)).trans kR
    replace hX := hX.up hA
    replace kX := (hA.block _ (blk_lt kX)).trans kX
    replace hLx := hLx.up hA
    replace hE := hE.up hA
    replace kE := (hA.block _ (blk_lt kE)).trans kE
    replace hLe := hLe.up hA
    replace hLf := hLf.up hA
    replace hB := hB.trans (hA.mono hB.size)
    clear hA
    have ckR := blk_cell kR
    have ckX := blk_cell kX
    have ckE := blk_cell kE
    dsimp only [Rnd.cells]
    go_wp2_with fail
    clear ckR
    clear ckX
    clear ckE
    generalize w12.alloc (.cells #[.slice F.aQ F.nQ F.cQ, .slice F.aD F.nD F.cD, .int .i64 F.turn, .bool F.fresh, .slice F.aS F.nS F.cS] 27) = w13 at *
    generalize w12.heap.size = bF at *
    go_loop [14, 15] (fun s i => ∃ k : Nat, k ≤ R.nS ∧ i = .int .i64 k ∧ s = .int .i64 (sumL R.L k : Nat)) (fun _ i => R.nS - (intOf i).toNat)
    case atStart => exact ⟨0, Nat.zero_le _, rfl, rfl⟩
    case round =>
      obtain ⟨k, hk, rfl, rfl⟩ := hrel
      by_cases hlt : k < R.nS
      · have hlt' : (k : Int) < (R.nS : Int) := by omega
        obtain ⟨g2, o2, e2, hc⟩ := hR.rd.s k hlt
        dsimp only at hc
        have cR := blk_cell kR
        rw [e2] at cR
        have hs2 : sumL R.L k + R.L k ≤ 4000 := sumL_ok HRo.out (k + 1) (by omega)
        have hws : IntKind.i64.wrap (((sumL R.L k : Nat) : Int) + ((R.L k : Nat) : Int)) = ((sumL R.L k : Nat) : Int) + ((R.L k : Nat) : Int) := wrapD _ (by omega) (by omega)
        clear e2
        have hk4 : R.nS ≤ 4 := by have := HRo.out.s; have := HRo.out.n; omega
        go_wp2_with fail
        go_round
        case rel => exact ⟨k + 1, by omega, by go_num, by show _ = Value.int .i64 ((sumL R.L k + R.L k : Nat) : Int); go_num⟩
        case measure => simp [intOf]; omega
      · obtain rfl : k = R.nS := by omega
        have hge : ¬ ((R.nS : Nat) : Int) < ((R.nS : Nat) : Int) := by omega
        have hS4 : sumL R.L R.nS ≤ 4000 := sumL_ok HRo.out _ (Nat.le_refl _)
        obtain ⟨D0, all, hp3⟩ := pickA_ex R 200
        obtain ⟨N3, e3⟩ : ∃ N3, all.length = N3 := ⟨_, rfl⟩
        have HP3 : Hid (PickA R 200 D0 all) := hp3
        have HN3 : Hid (all.length = N3) := e3
        have hN3 : N3 ≤ 200 := by rw [← e3]; exact hp3.len
        have hall : 200 < sumL R.L R.nS ∨ N3 = sumL R.L R.nS := by rw [← e3]; exact pickA_all HRo.out hp3
        have HAll : Hid (200 < sumL R.L R.nS ∨ N3 = sumL R.L R.nS) := hall
        have cR := blk_cell kR
        clear hp3 e3 hall
        go_wp2_with fail
        clear cR
        refine (iPA_any R D0 200 all N3 _ HS.out hR.rd HP3.out HN3.out).mono ?_
        rintro e w14 ⟨G, ag, cg, rfl, hG, hLg, hb, hA1⟩
        have HG : Hid (Alike D0 G) := hA1
        replace hR := hR.up hb
        replace kR := (hb.block _ (blk_lt kR)).trans kR
        replace hX := hX.up hb
        replace kX := (hb.block _ (blk_lt kX)).trans kX
        replace hLx := hLx.up hb
        replace hE := hE.up hb
        replace kE := (hb.block _ (blk_lt kE)).trans kE
        replace hLe := hLe.up hb
        replace hF := hF.up hb
        replace kF := (hb.block _ (blk_lt kF)).trans kF
        replace hLf := hLf.up hb
        replace hB := hB.trans (hb.mono hB.size)
        clear hb hA1
        have hA := (Below.refl w14.heap.size w14).alloc (Nat.le_refl _) (.cells #[.slice G.aQ G.nQ G.cQ, .slice G.aD G.nD G.cD, .int .i64 G.turn, .bool G.fresh, .slice G.aS G.nS G.cS] 27)
        have kG := blk_new w14 (.cells #[.slice G.aQ G.nQ G.cQ, .slice G.aD G.nD G.cD, .int .i64 G.turn, .bool G.fresh, .slice G.aS G.nS G.cS] 27)
        replace hG := hG.up hA
        replace hR := hR.up hA
        replace kR := (hA.block _ (blk_lt kR)).trans kR
        replace hX := hX.up hA
        replace kX := (hA.block _ (blk_lt kX)).trans kX
        replace hLx := hLx.up hA
        replace hE := hE.up hA
        replace kE := (hA.block _ (blk_lt kE)).trans kE
        replace hLe := hLe.up hA
        replace hF := hF.up hA
        replace kF := (hA.block _ (blk_lt kF)).trans kF
        replace hLf := hLf.up hA
        replace hLg := hLg.up hA
        replace hB := hB.trans (hA.mono hB.size)
        clear hA
        have ckR := blk_cell kR
        have ckX := blk_cell kX
        have ckE := blk_cell kE
        have ckF := blk_cell kF
        dsimp only [Rnd.cells]
        go_wp2_with fail
        clear ckR
        clear ckX
        clear ckE
        clear ckF
        generalize w14.alloc (.cells #[.slice G.aQ G.nQ G.cQ, .slice G.aD G.nD G.cD, .int .i64 G.turn, .bool G.fresh, .slice G.aS G.nS G.cS] 27) = w15 at *
        generalize w14.heap.size = bG at *
        have HFs : Hid F.Small := HF.out.smallP (pickA_smallP HP.out)
        refine (sameRound_any F X _ HFs.out hF.rd hX.rd (HF.out.symm.trans HX.out)).mono ?_
        rintro e w16 ⟨rfl, hb⟩
        replace hR := hR.up hb
        replace kR := (hb.block _ (blk_lt kR)).trans kR
        replace hX := hX.up hb
        replace kX := (hb.block _ (blk_lt kX)).trans kX
        replace hLx := hLx.up hb
        replace hE := hE.up hb
        replace kE := (hb.block _ (blk_lt kE)).trans kE
        replace hLe := hLe.up hb
        replace hF := hF.up hb
        replace kF := (hb.block _ (blk_lt kF)).trans kF
        replace hLf := hLf.up hb
        replace hB := hB.trans (hb.mono hB.size)
        clear hb
        obtain ⟨g3, c3, W1, g4, c4, W2, r1, r2, hLr, hbW⟩ := app_two hLe hLf (by omega)
        have HLr : Hid (RdRow W2 (some ⟨g4, 0, none⟩) (N1 + N2) fun i => .int .i64 (cs.getD i 0)) := by
          have := hLr.rd
          rw [HEL.out] at this
          exact this
        have HLx : Hid (RdRow W2 ax (N1 + N2) fun i => .int .i64 (cs.getD i 0)) := (hLx.up hbW).rd
        have hBW := hB.trans (hbW.mono hB.size)
        clear hB hLr hbW hLx hLe hLf
        go_wp2_with (at_builtin; first | refine wpList_append_on _ rfl _ _ _ _ rfl _ _ rfl rfl _ _ r1 ?_ | refine wpList_append_on _ rfl _ _ _ _ rfl _ _ rfl rfl _ _ r2 ?_)
        refine (sameInts_any (some ⟨g4, 0, none⟩) ax (N1 + N2) c4 cx (fun i => cs.getD i 0) _ (by omega) HLr.out HLx.out).mono ?_
        rintro e w17 ⟨rfl, hsm⟩
        have B := hBW.trans ((hsm.below W2.heap.size).mono hBW.size)
        have hall := HAll.out
        clear hsm hBW HAll
        generalize sumL R.L R.nS = Sm at *
        by_cases h2 : 200 < Sm
        · have h2' : (200 : Int) < (Sm : Int) := by omega
          go_wp2_with fail
          go_ret
          exact ⟨rfl, B⟩
        · have h2' : ¬ (200 : Int) < (Sm : Int) := by omega
          obtain rfl : N3 = Sm := by omega
          have hee : (((N3 : Nat) : Int) == ((N3 : Nat) : Int)) = true := by simp
          go_wp2_with fail
          go_ret
          exact ⟨rfl, B⟩
end Go.Proofs.Ytnfcmiiibkbmfaa
