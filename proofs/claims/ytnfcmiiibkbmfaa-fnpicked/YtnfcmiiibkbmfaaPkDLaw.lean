/- What is picked waited longest of its class, and all else waits as it did: on every drawn round the law answers true. -/
import Derived.Test.YtnfcmiiibkbmfaaDWaits
import Derived.Test.YtnfcmiiibkbmfaaPkR
namespace Go.Proofs.Ytnfcmiiibkbmfaa
open Go.RowKit
set_option linter.unusedVariables false
set_option linter.unusedSimpArgs false

theorem Alike.smallQ {A B : Rnd} (h : Alike A B) (hs : A.Small) : B.Small := ⟨by rw [h.nQ]; exact hs.q, by rw [h.nD]; exact hs.d, by rw [h.nS]; exact hs.s, fun i hi => by rw [h.l]; exact hs.l i (by rw [← h.nS]; exact hi)⟩
theorem Rnd.Small.fitQ {R : Rnd} (h : R.Small) : R.Fit := ⟨Nat.le_trans h.q (by unfold maxLen; omega), Nat.le_trans h.d (by unfold maxLen; omega), Nat.le_trans h.s (by unfold maxLen; omega), fun i hi => Nat.le_trans (h.l i hi) (by unfold maxLen; omega)⟩
theorem pickM_smallQ {R M : Rnd} {x s : Int} (h : PickM R M x s) (hs : R.Small) : M.Small := by
  rcases h with ⟨_, rfl, _⟩ | ⟨ho, _, rfl, _⟩ | ⟨ho, _, k, c, hp, _⟩
  · exact ⟨Nat.zero_le _, Nat.zero_le _, Nat.zero_le _, fun i _ => Nat.zero_le _⟩
  · exact hs
  · exact ok_smallA (hp.ok ho).1
set_option maxRecDepth 100000 in
set_option maxHeartbeats 20000000 in
theorem pickedLaw_any (a : Option Addr) (len cap : Nat) (w : World) (hl : len ≤ maxLen) (hC : len ≤ 1048576 → Code w.heap.size (.slice a len cap) len w) :
    Calls Try.prog 3 #[.slice a len cap] w fun e w' => e = .returned (.bool true) ∧ Below w.heap.size w w' := by
  have HC : Hid (len ≤ 1048576 → Code w.heap.size (.slice a len cap) len w) := hC
  clear hC
  by_cases hbig : 1048576 < (len : Int)
  · go_enter Try.func3, Try.ntmps3
    go_wp2_with fail
    refine (bigC_any a len cap _ hl).mono ?_
    rintro e w' ⟨rfl, hw⟩
    rw [hw, decide_eq_true hbig]
    clear hw w'
    go_wp2_with fail
    go_ret
    exact ⟨rfl, Below.refl _ _⟩
  go_enter Try.func3, Try.ntmps3
  go_wp2_with fail
  refine (bigC_any a len cap _ hl).mono ?_
  rintro e w' ⟨rfl, hw⟩
  rw [hw, decide_eq_false (by omega)]
  clear hw w'
  go_wp2_with fail
  refine (drawPicked_cap (.slice a len cap) len _ (HC.out (by omega)) ⟨_, _, _, rfl⟩).mono ?_
  rintro e w1 ⟨R, rfl, hS, hR, hB, hCa⟩
  have HS : Hid R.Small := hS
  have HCa : Hid R.Cap := hCa
  obtain ⟨M, x, s, hp⟩ := pickM_ex R
  have HP : Hid (PickM R M x s) := hp
  obtain ⟨ok, hok⟩ := ok_decR R.Ok
  have HO : Hid (ok = true ↔ R.Ok) := hok
  clear HC hS hCa hp hok
  have hA := (Below.refl w1.heap.size w1).alloc (Nat.le_refl _) (.cells #[.slice R.aQ R.nQ R.cQ, .slice R.aD R.nD R.cD, .int .i64 R.turn, .bool R.fresh, .slice R.aS R.nS R.cS] 27)
  have kR := blk_new w1 (.cells #[.slice R.aQ R.nQ R.cQ, .slice R.aD R.nD R.cD, .int .i64 R.turn, .bool R.fresh, .slice R.aS R.nS R.cS] 27)
  replace hR := hR.up hA
  replace hB := hB.trans (hA.mono hB.size)
  clear hA
  dsimp only [Rnd.cells]
  go_wp2_with fail
  generalize w1.alloc (.cells #[.slice R.aQ R.nQ R.cQ, .slice R.aD R.nD R.cD, .int .i64 R.turn, .bool R.fresh, .slice R.aS R.nS R.cS] 27) = w2 at *
  generalize w1.heap.size = bR at *
  refine (iPicked_any R M x s _ HS.out hR.rd HP.out).mono ?_
  rintro e w3 ⟨X, rfl, hX, hb, hA1⟩
  have HX : Hid (Alike M X) := hA1
  replace hR := hR.up hb
  replace kR := (hb.block _ (blk_lt kR)).trans kR
  replace hB := hB.trans (hb.mono hB.size)
  clear hb hA1
  have hA := (Below.refl w3.heap.size w3).alloc (Nat.le_refl _) (.cells #[.slice X.aQ X.nQ X.cQ, .slice X.aD X.nD X.cD, .int .i64 X.turn, .bool X.fresh, .slice X.aS X.nS X.cS] 27)
  have kX := blk_new w3 (.cells #[.slice X.aQ X.nQ X.cQ, .slice X.aD X.nD X.cD, .int .i64 X.turn, .bool X.fresh, .slice X.aS X.nS X.cS] 27)
  replace hX := hX.up hA
  replace hR := hR.up hA
  replace kR := (hA.block _ (blk_lt kR)).trans kR
  replace hB := hB.trans (hA.mono hB.size)
  clear hA
  have ckR := blk_cell kR
  dsimp only [Rnd.cells]
  go_wp2_with fail
  clear ckR
  generalize w3.alloc (.cells #[.slice X.aQ X.nQ X.cQ, .slice X.aD X.nD X.cD, .int .i64 X.turn, .bool X.fresh, .slice X.aS X.nS X.cS] 27) = w4 at *
  generalize w3.heap.size = bX at *
  refine (sPicked_any R M x s _ HS.out hR.rd HP.out).mono ?_
  rintro e w5 ⟨Y, rfl, hY, hb, hA1⟩
  have HY : Hid (Alike M Y) := hA1
  replace hR := hR.up hb
  replace kR := (hb.block _ (blk_lt kR)).trans kR
  replace hX := hX.up hb
  replace kX := (hb.block _ (blk_lt kX)).trans kX
  replace hB := hB.trans (hb.mono hB.size)
  clear hb hA1
  have hA := (Below.refl w5.heap.size w5).alloc (Nat.le_refl _) (.cells #[.slice Y.aQ Y.nQ Y.cQ, .slice Y.aD Y.nD Y.cD, .int .i64 Y.turn, .bool Y.fresh, .slice Y.aS Y.nS Y.cS] 27)
  have kY := blk_new w5 (.cells #[.slice Y.aQ Y.nQ Y.cQ, .slice Y.aD Y.nD Y.cD, .int .i64 Y.turn, .bool Y.fresh, .slice Y.aS Y.nS Y.cS] 27)
  replace hY := hY.up hA
  replace hR := hR.up hA
  replace kR := (hA.block _ (blk_lt kR)).trans kR
  replace hX := hX.up hA
  replace kX := (hA.block _ (blk_lt kX)).trans kX
  replace hB := hB.trans (hA.mono hB.size)
  clear hA
  have ckR := blk_cell kR
  have ckX := blk_cell kX
  dsimp only [Rnd.cells]
  go_wp2_with fail
  clear ckR
  clear ckX
  generalize w5.alloc (.cells #[.slice Y.aQ Y.nQ Y.cQ, .slice Y.aD Y.nD Y.cD, .int .i64 Y.turn, .bool Y.fresh, .slice Y.aS Y.nS Y.cS] 27) = w6 at *
  generalize w5.heap.size = bY at *
  have HXs : Hid X.Small := HX.out.smallQ (pickM_smallQ HP.out HS.out)
  have HXY : Hid (Alike X Y) := HX.out.symm.trans HY.out
  have hxx : (x != x) = false := by simp
  have hss : (s != s) = false := by simp
  have cP := blk_cell kX
  have cQ := blk_cell kY
  go_wp2_with fail
  clear cP cQ
  refine (sameRound_any X Y _ HXs.out hX.rd hY.rd HXY.out).mono ?_
  rintro e w7 ⟨rfl, hb⟩
  replace hR := hR.up hb
  replace kR := (hb.block _ (blk_lt kR)).trans kR
  replace hX := hX.up hb
  replace kX := (hb.block _ (blk_lt kX)).trans kX
  replace hY := hY.up hb
  replace kY := (hb.block _ (blk_lt kY)).trans kY
  replace hB := hB.trans (hb.mono hB.size)
  clear hb
  have cR := blk_cell kR
  go_wp2_with fail
  clear cR
  refine (sRoundOk_any R _ HS.out.fitQ hR.rd ok HO.out).mono ?_
  rintro e w8 ⟨rfl, hb⟩
  replace hR := hR.up hb
  replace kR := (hb.block _ (blk_lt kR)).trans kR
  replace hX := hX.up hb
  replace kX := (hb.block _ (blk_lt kX)).trans kX
  replace hY := hY.up hb
  replace kY := (hb.block _ (blk_lt kY)).trans kY
  replace hB := hB.trans (hb.mono hB.size)
  clear hb
  cases ok
  · have hxe : (x == x) = true := by simp
    have hse : (s == s) = true := by simp
    have cP := blk_cell kX
    have cQ := blk_cell kY
    go_wp2_with fail
    clear cP cQ
    refine (sameRound_any X Y _ HXs.out hX.rd hY.rd HXY.out).mono ?_
    rintro e w9 ⟨rfl, hb⟩
    replace hR := hR.up hb
    replace kR := (hb.block _ (blk_lt kR)).trans kR
    replace hX := hX.up hb
    replace kX := (hb.block _ (blk_lt kX)).trans kX
    replace hY := hY.up hb
    replace kY := (hb.block _ (blk_lt kY)).trans kY
    replace hB := hB.trans (hb.mono hB.size)
    clear hb
    have B := hB
    go_wp2_with fail
    go_ret
    exact ⟨rfl, B⟩
  · have HRo : Hid R.Ok := HO.out.1 rfl
    have hnS : R.nS ≤ 4 := by have := HRo.out.s; have := HRo.out.n; omega
    clear HO hY kY HXY HY
    have cR := blk_cell kR
    go_wp2_with fail
    clear cR
    go_loop [10, 11] (fun b i => ∃ (k : Nat) (bb : Bool), k ≤ R.nS ∧ i = .int .i64 k ∧ b = .bool bb ∧ (bb = true ↔ ∃ j, j < k ∧ R.L j ≠ 0)) (fun _ i => R.nS - (intOf i).toNat)
    case atStart => exact ⟨0, false, Nat.zero_le _, rfl, rfl, by simp⟩
    case round =>
      obtain ⟨k, bb, hk, rfl, rfl, hbb⟩ := hrel
      have HBB : Hid (bb = true ↔ ∃ j, j < k ∧ R.L j ≠ 0) := hbb
      clear hbb
      by_cases hlt : k < R.nS
      · have hlt' : (k : Int) < (R.nS : Int) := by omega
        obtain ⟨g2, o2, e2, hc⟩ := hR.rd.s k hlt
        dsimp only at hc
        have cR := blk_cell kR
        rw [e2] at cR
        clear e2
        cases bb
        · by_cases h0 : R.L k = 0
          · have h0' : ¬ (0 : Int) < ((R.L k : Nat) : Int) := by omega
            have HN : Hid (∀ j, j < k + 1 → R.L j = 0) := fun j hj => by
              by_cases e : j = k
              · rw [e]; exact h0
              · by_cases e2 : R.L j = 0
                · exact e2
                · exact absurd (HBB.out.2 ⟨j, by omega, e2⟩) (by simp)
            clear h0
            go_wp2_with fail
            go_round
            case rel => exact ⟨k + 1, false, by omega, by go_num, by first | rfl | (simp; omega), by
              constructor
              · intro h; cases h
              · rintro ⟨j, hj, hne⟩
                exact absurd (HN.out j hj) hne⟩
            case measure => simp [intOf]; omega
          · have h0' : (0 : Int) < ((R.L k : Nat) : Int) := by omega
            have HN : Hid (R.L k ≠ 0) := h0
            clear h0
            go_wp2_with fail
            go_round
            case rel => exact ⟨k + 1, true, by omega, by go_num, by first | rfl | (simp; omega), ⟨fun _ => ⟨k, by omega, HN.out⟩, fun _ => rfl⟩⟩
            case measure => simp [intOf]; omega
        · go_wp2_with fail
          go_round
          case rel => exact ⟨k + 1, true, by omega, by go_num, by first | rfl | simp, ⟨fun _ => by
            obtain ⟨j, hj, hne⟩ := HBB.out.1 rfl
            exact ⟨j, by omega, hne⟩, fun _ => rfl⟩⟩
          case measure => simp [intOf]; omega
      · obtain rfl : k = R.nS := by omega
        have hge : ¬ ((R.nS : Nat) : Int) < ((R.nS : Nat) : Int) := by omega
        have cR := blk_cell kR
        have hcase := HP.out
        rcases hcase with ⟨hno, _⟩ | ⟨_, hn, rfl, rfl, rfl⟩ | ⟨_, ⟨c0, hc0, hl0⟩, kp, c, hp, rfl⟩
        · exact absurd HRo.out hno
        · obtain rfl : bb = false := by
            cases bb
            · rfl
            · obtain ⟨j, hj, hne⟩ := HBB.out.1 rfl
              exact absurd (hn j (by rw [← HRo.out.s]; exact hj)) hne
          clear HBB hn
          have hm1 : ((-1 : Int) == -1) = true := by decide
          clear cR
          have cR := blk_cell kR
          have cX := blk_cell kX
          go_wp2_with fail
          clear cR cX
          refine (sameRound_any X M _ HXs.out hX.rd hR.rd HX.out.symm).mono ?_
          rintro e w10 ⟨rfl, hb⟩
          have B := hB.trans (hb.mono hB.size)
          clear hb
          go_wp2_with fail
          go_ret
          exact ⟨rfl, B⟩
        · obtain rfl : bb = true := HBB.out.2 ⟨c0, by rw [HRo.out.s]; exact hc0, hl0⟩
          obtain ⟨hL, hz, hnM, hLc, hzc, hel⟩ := hp.rows
          have hMo := hp.ok HRo.out
          have HXo : Hid X.Ok := HX.out.okI.2 hMo.1
          have HXn : Hid (X.nS = R.nS) := HX.out.nS.trans hnM
          have HLe : Hid (X.L c = R.L c - 1 ∧ (∀ j, X.z c j = R.z c (j + 1)) ∧ ∀ i, i ≠ c → X.L i = R.L i ∧ X.z i = R.z i) := by
            refine ⟨by rw [HX.out.l]; exact hLc, fun j => by rw [HX.out.z]; exact hzc j, fun i hi => ⟨by rw [HX.out.l]; exact (hel i hi).1, by rw [HX.out.z]; exact (hel i hi).2⟩⟩
          have HLz : Hid (R.L c ≠ 0 ∧ R.z c 0 = s) := ⟨hL, hz⟩
          have hc4 : (c : Int) < 4 := by have := hMo.2.2.1; have := HRo.out.n; omega
          have hcn : ¬ (c : Int) < 0 := by omega
          have HLm : Hid (∀ i, i < R.nS → R.L i ≤ 1048576) := HS.out.l
          clear HBB hL hz hnM hLc hzc hel hMo HP hp hl0 hc0
          clear cR
          have cR := blk_cell kR
          have HR : Hid (OwnRn w8 _ R) := hR
          have HXw : Hid (OwnRo w8 _ X) := hX
          have HkR : Hid (w8.heap[bR]? = _) := kR
          have HkX : Hid (w8.heap[bX]? = _) := kX
          have HB8 : Hid (Below w.heap.size w w8) := hB
          clear hR hX kR kX hB
          go_wp2_with fail
          clear cR
          go_loopw [12] (fun i wr => ∃ k : Nat, k ≤ R.nS ∧ i = .int .i64 k ∧ Below w8.heap.size w8 wr) (fun i _ => R.nS - (intOf i).toNat)
          case atStart => exact ⟨0, Nat.zero_le _, rfl, Below.refl _ _⟩
          case round =>
            obtain ⟨k, hk, rfl, hb⟩ := hrel
            have kR := (hb.block _ (blk_lt HkR.out)).trans HkR.out
            have kX := (hb.block _ (blk_lt HkX.out)).trans HkX.out
            have cR := blk_cell kR
            have cX := blk_cell kX
            by_cases hlt : k < R.nS
            · have hlt' : (k : Int) < (R.nS : Int) := by omega
              have hltX : (k : Int) < (X.nS : Int) := by have := HXn.out; omega
              have hR := HR.out.up hb
              have hX := HXw.out.up hb
              obtain ⟨g2, o2, e2, hc⟩ := hR.rd.s k hlt
              obtain ⟨g3, o3, e3, hc3⟩ := hX.rd.s k (by have := HXn.out; omega)
              have HzR : Hid (RdRow wr (R.A k) (R.L k) fun j => .int .i64 (R.z k j)) := hR.rd.z k hlt
              have HzX : Hid (RdRow wr (X.A k) (X.L k) fun j => .int .i64 (X.z k j)) := hX.rd.z k (by have := HXn.out; omega)
              have hcap : R.L k ≤ R.C k := HCa.out k hlt
              have hLk : R.L k ≤ 1048576 := HLm.out k hlt
              dsimp only at hc hc3
              rw [e2] at cR
              rw [e3] at cX
              have Hb : Hid (Below w8.heap.size w8 wr) := hb
              clear e2 e3 hR hX kR kX hb
              by_cases hkc : k = c
              · subst hkc
                obtain ⟨hl0, hz0⟩ := HLz.out
                obtain ⟨hXl, hXz, _⟩ := HLe.out
                obtain ⟨l, hl⟩ : ∃ l, R.L k = l + 1 := ⟨R.L k - 1, by omega⟩
                obtain ⟨g4, o4, e4, hc4⟩ := HzR.out 0 (by omega)
                dsimp only at hc4
                rw [Nat.add_zero, hz0] at hc4
                have HzR2 : Hid (RdRow wr (some ⟨g4, o4 + 1, none⟩) l fun j => .int .i64 (R.z k (j + 1))) := fun i hi => by
                  obtain ⟨g5, o5, e5, hc5⟩ := HzR.out (i + 1) (by omega)
                  rw [e4] at e5
                  cases e5
                  exact ⟨g4, o4 + 1, rfl, by rw [Nat.add_assoc, Nat.add_comm 1 i]; exact hc5⟩
                have HzX2 : Hid (RdRow wr (X.A k) l fun j => .int .i64 (R.z k (j + 1))) := fun i hi => by
                  obtain ⟨g5, o5, e5, hc5⟩ := HzX.out i (by omega)
                  exact ⟨g5, o5, e5, by rw [hc5]; show some (Value.int .i64 (X.z k i)) = _; rw [hXz]⟩
                rw [e4, hl] at hc
                rw [show X.L k = l by omega] at hc3
                rw [hl] at hcap hLk
                have hc1 : (1 : Int) ≤ ((l + 1 : Nat) : Int) := by omega
                have hcc : (((l + 1 : Nat) : Int)) ≤ (R.C k : Int) := by omega
                have hkk : ((k : Int) == (k : Int)) = true := by simp
                have hll : ¬ (((l + 1 : Nat) : Int) = 0) := by omega
                have hll2 : ((((l + 1 : Nat) : Int)) == 0) = false := by simp; omega
                have hss : (s != s) = false := by simp
                clear HzR HzX HLz hXl hXz hl e4 hl0 hz0
                obtain ⟨cc, hcC⟩ : ∃ cc, R.C k = cc + 1 := ⟨R.C k - 1, by omega⟩
                rw [hcC] at hc hcap hcc
                clear hcC
                have hlc : l ≤ cc := by omega
                cases cc with
                | zero =>
                  obtain rfl : l = 0 := by omega
                  go_wp2_with fail
                  refine (sameInts_any (X.A k) _ 0 _ _ (fun j => R.z k (j + 1)) _ (by omega) HzX2.out (RdRow.nil _ _ _)).mono ?_
                  rintro e w10 ⟨rfl, hsm⟩
                  have Hb2 : Hid (Below w8.heap.size w8 w10) := Hb.out.trans ((hsm.below wr.heap.size).mono Hb.out.size)
                  clear hsm
                  go_wp2_with fail
                  go_roundw
                  case rel => exact ⟨k + 1, by omega, by go_num, Hb2.out⟩
                  case measure => simp [intOf]; omega
                | succ cd =>
                  go_wp2_with fail
                  refine (sameInts_any (X.A k) (some ⟨g4, o4 + 1, none⟩) l _ _ (fun j => R.z k (j + 1)) _ (by omega) HzX2.out HzR2.out).mono ?_
                  rintro e w10 ⟨rfl, hsm⟩
                  have Hb2 : Hid (Below w8.heap.size w8 w10) := Hb.out.trans ((hsm.below wr.heap.size).mono Hb.out.size)
                  clear hsm
                  go_wp2_with fail
                  go_roundw
                  case rel => exact ⟨k + 1, by omega, by go_num, Hb2.out⟩
                  case measure => simp [intOf]; omega
              · have hkk : ((k : Int) == (c : Int)) = false := by simp; omega
                have hkk2 : ¬ ((k : Int) = (c : Int)) := by omega
                obtain ⟨hXl, hXz⟩ := HLe.out.2.2 k hkc
                rw [hXl] at hc3
                have HzX2 : Hid (RdRow wr (X.A k) (R.L k) fun j => .int .i64 (R.z k j)) := by
                  have := HzX.out
                  rw [hXl, hXz] at this
                  exact this
                clear HzX hXl hXz hkc
                go_wp2_with fail
                refine (sameInts_any (X.A k) (R.A k) (R.L k) _ _ (R.z k) _ hLk HzX2.out HzR.out).mono ?_
                rintro e w10 ⟨rfl, hsm⟩
                have Hb2 : Hid (Below w8.heap.size w8 w10) := Hb.out.trans ((hsm.below wr.heap.size).mono Hb.out.size)
                clear hsm
                go_wp2_with fail
                go_roundw
                case rel => exact ⟨k + 1, by omega, by go_num, Hb2.out⟩
                case measure => simp [intOf]; omega
            · obtain rfl : k = R.nS := by omega
              have hge : ¬ ((R.nS : Nat) : Int) < ((R.nS : Nat) : Int) := by omega
              have hX := HXw.out.up hb
              have B9 := HB8.out.trans (hb.mono HB8.out.size)
              clear kR kX hb
              go_wp2_with fail
              clear cR cX
              refine (iRoundOk_any X _ HXs.out.fitQ hX.rd true ⟨fun _ => HXo.out, fun _ => rfl⟩).mono ?_
              rintro e w10 ⟨rfl, hb⟩
              have B := B9.trans (hb.mono B9.size)
              clear hb
              go_wp2_with fail
              go_ret
              exact ⟨rfl, B⟩
end Go.Proofs.Ytnfcmiiibkbmfaa
