/- Who is told to pause: on every drawn counts the law on signals answers true. -/
import Derived.Test.YtpldaohflojkmaaDSig
import Derived.Test.YtpldaohflojkmaaDSame
namespace Go.Proofs.Ytpldaohflojkmaa
open Go.RowKit
set_option linter.unusedVariables false
set_option linter.unusedSimpArgs false

theorem pause_idem {C : Cfg} {u : Int} {p : Bool} (h : C.xn < C.xo) : pauseAt C u (pauseAt C u p) = pauseAt C u p := by
  cases p <;> simp only [pauseAt, if_true, Bool.false_eq_true, if_false]
  · by_cases hx : C.xo ≤ u
    · simp [hx]; omega
    · simp [hx]
  · by_cases hx : C.xn < u
    · simp [hx]
    · simp [hx]; omega
theorem told_idem {C : Cfg} {u : Nat → Int} {p : Nat → Bool} (h : C.xn < C.xo) (k : Nat) : toldL C u (fun i => pauseAt C (u i) (p i)) k = [] := by
  induction k with
  | zero => rfl
  | succ k ih => rw [toldL, ih, if_pos (pause_idem h), List.append_nil]
theorem Cnt.Ok.sig {C : Cfg} {N : Cnt} (h : Cnt.Ok C N) : Cnt.Ok C (sigN C N) := ⟨h.c, h.nU, h.nP, h.lo, h.u⟩
set_option maxRecDepth 100000 in
set_option maxHeartbeats 20000000 in
theorem sigLaw_any (a : Option Addr) (len cap : Nat) (w : World) (hl : len ≤ maxLen) (hC : len ≤ 1048576 → Code w.heap.size (.slice a len cap) len w) :
    Calls Try.prog 4 #[.slice a len cap] w fun e w' => e = .returned (.bool true) ∧ Below w.heap.size w w' := by
  have HC : Hid (len ≤ 1048576 → Code w.heap.size (.slice a len cap) len w) := hC
  clear hC
  by_cases hbig : 1048576 < (len : Int)
  · go_enter Try.func4, Try.ntmps4
    go_wp2_with fail
    refine (bigC_any a len cap _ hl).mono ?_
    rintro e w' ⟨rfl, hw⟩
    rw [hw, decide_eq_true hbig]
    clear hw w'
    go_wp2_with fail
    go_ret
    exact ⟨rfl, Below.refl _ _⟩
  go_enter Try.func4, Try.ntmps4
  go_wp2_with fail
  refine (bigC_any a len cap _ hl).mono ?_
  rintro e w' ⟨rfl, hw⟩
  rw [hw, decide_eq_false (show ¬ (1048576 : Int) < (len : Int) by omega)]
  clear hw w'
  go_wp2_with fail
  refine (drawSignals_any (.slice a len cap) len _ (HC.out (by omega)) ⟨_, _, _, rfl⟩).mono ?_
  rintro e w1 ⟨C, N, rfl, hfw, hN, B1⟩
  clear HC hbig
  obtain ⟨ok, hok⟩ := ok_decC (Cnt.Ok C N)
  have HB0 : Hid (Below (w1.heap.size + 2) ((w1.alloc (.cells #[.int .i64 C.p, .int .i64 C.c, .int .i64 C.xo, .int .i64 C.xn, .int .i64 C.hd, .int .i64 C.lo, .int .i64 C.dl] 25)).alloc (.cells #[.slice N.aU N.nU N.cU, .int .i64 N.lo, .slice N.aP N.nP N.cP] 29)) ((w1.alloc (.cells #[.int .i64 C.p, .int .i64 C.c, .int .i64 C.xo, .int .i64 C.xn, .int .i64 C.hd, .int .i64 C.lo, .int .i64 C.dl] 25)).alloc (.cells #[.slice N.aU N.nU N.cU, .int .i64 N.lo, .slice N.aP N.nP N.cP] 29))) := Below.refl _ _
  unfold Cfg.cells Cnt.cells
  go_wp2_with fail
  cases ok
  · have HOK : Hid (false = true ↔ Cnt.Ok C N) := hok
    have HnT : Hid ((toldC C N false).length ≤ 1048576) := Nat.zero_le _
    clear hok
    refine (iSignals_any C N _ hfw.small.fit (hN.up (under2 HB0.out)) false HOK.out).mono ?_
    rintro e w3 ⟨L, aT, cT, rfl, hSA⟩
    have hb := hSA.b
    have HAL : Hid (AlikeC (sigM C N false) L) := hSA.a
    have hL := hSA.o.rd
    have hT := hSA.t.read
    have hB := next2 HB0.out hb
    replace hN := (hN.up (under2 HB0.out)).up hb
    clear hSA hb
    have hA := (Below.refl w3.heap.size w3).alloc (Nat.le_refl _) (.cells #[.slice L.aU L.nU L.cU, .int .i64 L.lo, .slice L.aP L.nP L.cP] 29)
    have kM := blk_new w3 (.cells #[.slice L.aU L.nU L.cU, .int .i64 L.lo, .slice L.aP L.nP L.cP] 29)
    replace hN := hN.up hA
    replace hL := hL.up hA
    replace hT := hT.up hA
    replace hB := next2 hB hA
    have cb := (boxed2 hB).1
    have cn := (boxed2 hB).2
    clear hA
    dsimp only [Cnt.cells]
    go_wp2_with fail
    generalize w3.heap.size = gM at *
    generalize w3.alloc (.cells #[.slice L.aU L.nU L.cU, .int .i64 L.lo, .slice L.aP L.nP L.cP] 29) = w4 at *
    clear cb cn
    refine (sSignals_any C N _ hfw.small.fit hN false HOK.out).mono ?_
    rintro e w5 ⟨L2, aT2, cT2, rfl, hSA⟩
    have hb := hSA.b
    have HAL2 : Hid (AlikeC (sigM C N false) L2) := hSA.a
    have hL2 := hSA.o.rd
    have hT2 := hSA.t.read
    replace hN := hN.up hb
    replace hL := hL.up hb
    replace hT := hT.up hb
    replace kM := (hb.block _ (blk_lt kM)).trans kM
    replace hB := next2 hB hb
    clear hSA hb
    have hA := (Below.refl w5.heap.size w5).alloc (Nat.le_refl _) (.cells #[.slice L2.aU L2.nU L2.cU, .int .i64 L2.lo, .slice L2.aP L2.nP L2.cP] 29)
    have kW := blk_new w5 (.cells #[.slice L2.aU L2.nU L2.cU, .int .i64 L2.lo, .slice L2.aP L2.nP L2.cP] 29)
    replace hL2 := hL2.up hA
    replace hT2 := hT2.up hA
    replace hN := hN.up hA
    replace hL := hL.up hA
    replace hT := hT.up hA
    replace kM := (hA.block _ (blk_lt kM)).trans kM
    replace hB := next2 hB hA
    clear hA
    dsimp only [Cnt.cells]
    go_wp2_with fail
    generalize w5.heap.size = gW at *
    generalize w5.alloc (.cells #[.slice L2.aU L2.nU L2.cU, .int .i64 L2.lo, .slice L2.aP L2.nP L2.cP] 29) = w6 at *
    have HLs : Hid L.Small := (Few.small ((hfw.sigM false).alike HAL.out))
    have HLL : Hid (AlikeC L L2) := HAL.out.symm.trans HAL2.out
    refine (sameInts_any aT aT2 _ cT cT2 _ _ HnT.out hT hT2).mono ?_
    rintro e w7 ⟨rfl, hSm⟩
    have hb := hSm.below w6.heap.size
    clear hSm
    replace hN := hN.up hb
    replace hL := hL.up hb
    replace hT := hT.up hb
    replace kM := (hb.block _ (blk_lt kM)).trans kM
    replace hL2 := hL2.up hb
    replace hT2 := hT2.up hb
    replace kW := (hb.block _ (blk_lt kW)).trans kW
    replace hB := next2 hB hb
    clear hb
    have cM := blk_cell kM
    have cW := blk_cell kW
    go_wp2_with fail
    refine (sameCounts_any L L2 _ HLs.out hL hL2 HLL.out).mono ?_
    rintro e w8 ⟨rfl, hb⟩
    clear cM cW
    replace hN := hN.up hb
    replace hL := hL.up hb
    replace hT := hT.up hb
    replace kM := (hb.block _ (blk_lt kM)).trans kM
    replace hL2 := hL2.up hb
    replace hT2 := hT2.up hb
    replace kW := (hb.block _ (blk_lt kW)).trans kW
    replace hB := next2 hB hb
    clear hb
    have cb := (boxed2 hB).1
    have cn := (boxed2 hB).2
    go_wp2_with fail
    refine (sCountsOk_any C N _ hfw.small.fit hN false HOK.out).mono ?_
    rintro e w9 ⟨rfl, hb⟩
    clear cb cn
    replace hN := hN.up hb
    replace hL := hL.up hb
    replace hT := hT.up hb
    replace kM := (hb.block _ (blk_lt kM)).trans kM
    replace hL2 := hL2.up hb
    replace hT2 := hT2.up hb
    replace kW := (hb.block _ (blk_lt kW)).trans kW
    replace hB := next2 hB hb
    clear hb
    have cM := blk_cell kM
    have cW := blk_cell kW
    go_wp2_with fail
    refine (sameInts_any aT aT2 _ cT cT2 _ _ HnT.out hT hT2).mono ?_
    rintro e wa ⟨rfl, hSm⟩
    have hb := hSm.below w9.heap.size
    clear hSm cM cW
    replace hN := hN.up hb
    replace hL := hL.up hb
    replace hT := hT.up hb
    replace kM := (hb.block _ (blk_lt kM)).trans kM
    replace hL2 := hL2.up hb
    replace hT2 := hT2.up hb
    replace kW := (hb.block _ (blk_lt kW)).trans kW
    replace hB := next2 hB hb
    clear hb
    have cM := blk_cell kM
    have cW := blk_cell kW
    go_wp2_with fail
    refine (sameCounts_any L L2 _ HLs.out hL hL2 HLL.out).mono ?_
    rintro e wb ⟨rfl, hb⟩
    have B := B1.trans ((under2 (next2 hB hb)).mono B1.size)
    clear cM cW hb hB hN hL hL2 hT hT2 kM kW
    go_wp2_with fail
    go_ret
    exact ⟨rfl, B⟩
  · have HOK : Hid (Cnt.Ok C N) := hok.1 rfl
    have HnT : Hid ((toldC C N true).length ≤ 1048576) := Nat.le_trans (toldL_len C N.u N.p N.nU) hfw.small.u
    clear hok
    refine (iSignals_any C N _ hfw.small.fit (hN.up (under2 HB0.out)) true ⟨fun _ => HOK.out, fun _ => rfl⟩).mono ?_
    rintro e w3 ⟨L, aT, cT, rfl, hSA⟩
    have hb := hSA.b
    have HAL : Hid (AlikeC (sigM C N true) L) := hSA.a
    have hL := hSA.o.rd
    have hT := hSA.t.read
    have hB := next2 HB0.out hb
    replace hN := (hN.up (under2 HB0.out)).up hb
    clear hSA hb
    have hA := (Below.refl w3.heap.size w3).alloc (Nat.le_refl _) (.cells #[.slice L.aU L.nU L.cU, .int .i64 L.lo, .slice L.aP L.nP L.cP] 29)
    have kM := blk_new w3 (.cells #[.slice L.aU L.nU L.cU, .int .i64 L.lo, .slice L.aP L.nP L.cP] 29)
    replace hN := hN.up hA
    replace hL := hL.up hA
    replace hT := hT.up hA
    replace hB := next2 hB hA
    have cb := (boxed2 hB).1
    have cn := (boxed2 hB).2
    clear hA
    dsimp only [Cnt.cells]
    go_wp2_with fail
    generalize w3.heap.size = gM at *
    generalize w3.alloc (.cells #[.slice L.aU L.nU L.cU, .int .i64 L.lo, .slice L.aP L.nP L.cP] 29) = w4 at *
    clear cb cn
    refine (sSignals_any C N _ hfw.small.fit hN true ⟨fun _ => HOK.out, fun _ => rfl⟩).mono ?_
    rintro e w5 ⟨L2, aT2, cT2, rfl, hSA⟩
    have hb := hSA.b
    have HAL2 : Hid (AlikeC (sigM C N true) L2) := hSA.a
    have hL2 := hSA.o.rd
    have hT2 := hSA.t.read
    replace hN := hN.up hb
    replace hL := hL.up hb
    replace hT := hT.up hb
    replace kM := (hb.block _ (blk_lt kM)).trans kM
    replace hB := next2 hB hb
    clear hSA hb
    have hA := (Below.refl w5.heap.size w5).alloc (Nat.le_refl _) (.cells #[.slice L2.aU L2.nU L2.cU, .int .i64 L2.lo, .slice L2.aP L2.nP L2.cP] 29)
    have kW := blk_new w5 (.cells #[.slice L2.aU L2.nU L2.cU, .int .i64 L2.lo, .slice L2.aP L2.nP L2.cP] 29)
    replace hL2 := hL2.up hA
    replace hT2 := hT2.up hA
    replace hN := hN.up hA
    replace hL := hL.up hA
    replace hT := hT.up hA
    replace kM := (hA.block _ (blk_lt kM)).trans kM
    replace hB := next2 hB hA
    clear hA
    dsimp only [Cnt.cells]
    go_wp2_with fail
    generalize w5.heap.size = gW at *
    generalize w5.alloc (.cells #[.slice L2.aU L2.nU L2.cU, .int .i64 L2.lo, .slice L2.aP L2.nP L2.cP] 29) = w6 at *
    have HLs : Hid L.Small := (Few.small ((hfw.sigM true).alike HAL.out))
    have HLL : Hid (AlikeC L L2) := HAL.out.symm.trans HAL2.out
    refine (sameInts_any aT aT2 _ cT cT2 _ _ HnT.out hT hT2).mono ?_
    rintro e w7 ⟨rfl, hSm⟩
    have hb := hSm.below w6.heap.size
    clear hSm
    replace hN := hN.up hb
    replace hL := hL.up hb
    replace hT := hT.up hb
    replace kM := (hb.block _ (blk_lt kM)).trans kM
    replace hL2 := hL2.up hb
    replace hT2 := hT2.up hb
    replace kW := (hb.block _ (blk_lt kW)).trans kW
    replace hB := next2 hB hb
    clear hb
    have cM := blk_cell kM
    have cW := blk_cell kW
    go_wp2_with fail
    refine (sameCounts_any L L2 _ HLs.out hL hL2 HLL.out).mono ?_
    rintro e w8 ⟨rfl, hb⟩
    clear cM cW
    replace hN := hN.up hb
    replace hL := hL.up hb
    replace hT := hT.up hb
    replace kM := (hb.block _ (blk_lt kM)).trans kM
    replace hL2 := hL2.up hb
    replace hT2 := hT2.up hb
    replace kW := (hb.block _ (blk_lt kW)).trans kW
    replace hB := next2 hB hb
    clear hb
    have cb := (boxed2 hB).1
    have cn := (boxed2 hB).2
    go_wp2_with fail
    refine (sCountsOk_any C N _ hfw.small.fit hN true ⟨fun _ => HOK.out, fun _ => rfl⟩).mono ?_
    rintro e w9 ⟨rfl, hb⟩
    clear cb cn
    replace hN := hN.up hb
    replace hL := hL.up hb
    replace hT := hT.up hb
    replace kM := (hb.block _ (blk_lt kM)).trans kM
    replace hL2 := hL2.up hb
    replace hT2 := hT2.up hb
    replace kW := (hb.block _ (blk_lt kW)).trans kW
    replace hB := next2 hB hb
    clear hb
    have hnU : Hid (L.nU = N.nU) := HAL.out.nU
    have hnP : Hid (L.nP = N.nP) := HAL.out.nP
    have HLu : Hid (L.u = N.u) := HAL.out.u
    have HLp : Hid (L.p = fun i => pauseAt C (N.u i) (N.p i)) := HAL.out.p
    have HLl : Hid (L.lo = N.lo) := HAL.out.lo
    have hNP : Hid (N.nP = N.nU) := by show N.nP = N.nU; have := HOK.out.nU; have := HOK.out.nP; omega
    have h2 : 2 ≤ N.nU := HOK.out.facts.u.1
    have h4 : N.nU ≤ 4 := HOK.out.facts.u.2
    have hxn := HOK.out.c.num.xn.2
    obtain ⟨lu, ku, eLu, hcLu⟩ := rd_some hL.u (by have := hnU.out; omega)
    obtain ⟨lp, kp, eLp, hcLp⟩ := rd_some hL.p (by have := hnP.out; have := hNP.out; omega)
    obtain ⟨gp, qp, eNp, hcNp⟩ := rd_some hN.p (by have := hNP.out; omega)
    have Hc1 : Hid (∀ i, i < N.nU → w9.cell? ⟨lu, ku + i, none⟩ = some (.int .i64 (N.u i))) := fun i hi => by have := hcLu i (by have := hnU.out; omega); rw [HLu.out] at this; exact this
    have Hc2 : Hid (∀ i, i < N.nU → w9.cell? ⟨lp, kp + i, none⟩ = some (.bool (pauseAt C (N.u i) (N.p i)))) := fun i hi => by have := hcLp i (by have := hnP.out; have := hNP.out; omega); rw [HLp.out] at this; exact this
    have Hc3 : Hid (∀ i, i < N.nU → w9.cell? ⟨gp, qp + i, none⟩ = some (.bool (N.p i))) := fun i hi => hcNp i (by have := hNP.out; omega)
    have HeLu : Hid (L.aU = some ⟨lu, ku, none⟩) := eLu
    have HeLp : Hid (L.aP = some ⟨lp, kp, none⟩) := eLp
    have HeNp : Hid (N.aP = some ⟨gp, qp, none⟩) := eNp
    clear hcLu hcLp hcNp eLu eLp eNp
    have cn0 := (boxed2 hB).2
    go_wp2_with fail
    clear cn0
    go_loopw [9] (fun i wr => ∃ k : Nat, k ≤ N.nU ∧ i = .int .i64 k ∧ Below w9.heap.size w9 wr) (fun i _ => N.nU - (intOf i).toNat)
    case atStart => exact ⟨0, Nat.zero_le _, rfl, Below.refl _ _⟩
    case round =>
      obtain ⟨k, hk, rfl, hBr⟩ := hrel
      have hBk := next2 hB hBr
      have kMk := (hBr.block _ (blk_lt kM)).trans kM
      by_cases hlt : k < N.nU
      · have hlt' : (k : Int) < N.nU := by omega
        have hlt2 : (k : Int) < L.nU := by have := hnU.out; omega
        have hlt3 : (k : Int) < L.nP := by have := hnP.out; have := hNP.out; omega
        have hlt4 : (k : Int) < N.nP := by have := hNP.out; omega
        have hm1 : (N.nU : Int) ≤ 4 := by omega
        have hm2 : (L.nU : Int) ≤ 4 := by have := hnU.out; omega
        have hm3 : (L.nP : Int) ≤ 4 := by have := hnP.out; have := hNP.out; omega
        have hm4 : (N.nP : Int) ≤ 4 := by have := hNP.out; omega
        have cb := (boxed2 hBk).1
        have cn := (boxed2 hBk).2
        have cM := blk_cell kMk
        rw [HeLu.out, HeLp.out] at cM
        rw [HeNp.out] at cn
        have c1 := (hBr.cell (p := ⟨lu, ku + k, none⟩) (cellLt (Hc1.out k hlt))).trans (Hc1.out k hlt)
        have c2 := (hBr.cell (p := ⟨lp, kp + k, none⟩) (cellLt (Hc2.out k hlt))).trans (Hc2.out k hlt)
        have c3 := (hBr.cell (p := ⟨gp, qp + k, none⟩) (cellLt (Hc3.out k hlt))).trans (Hc3.out k hlt)
        clear kMk
        by_cases hA1 : C.xo ≤ N.u k
        · have q : pauseAt C (N.u k) (N.p k) = true := by cases N.p k <;> simp [pauseAt] <;> omega
          rw [q] at c2
          have d1 : decide (C.xo ≤ N.u k) = true := decide_eq_true hA1
          have d2 : decide (N.u k ≤ C.xn) = false := decide_eq_false (by omega)
          have d3 : decide (C.xn < N.u k) = true := decide_eq_true (by omega)
          have d4 : decide (N.u k < C.xo) = false := decide_eq_false (by omega)
          clear q
          go_wp2_with fail
          refine wp_region_held_drew (S := fun w' => (∀ o, w'.cell? ⟨w1.heap.size, o, none⟩ = (#[.int .i64 C.p, .int .i64 C.c, .int .i64 C.xo, .int .i64 C.xn, .int .i64 C.hd, .int .i64 C.lo, .int .i64 C.dl] : Array Value)[o]?) ∧ (∀ o, w'.cell? ⟨gM, o, none⟩ = (#[.slice (some ⟨lu, ku, none⟩) L.nU L.cU, .int .i64 L.lo, .slice (some ⟨lp, kp, none⟩) L.nP L.cP] : Array Value)[o]?) ∧ (∀ o, w'.cell? ⟨w1.heap.size + 1, o, none⟩ = (#[.slice N.aU N.nU N.cU, .int .i64 N.lo, .slice (some ⟨gp, qp, none⟩) N.nP N.cP] : Array Value)[o]?) ∧ w'.cell? ⟨lu, ku + k, none⟩ = some (.int .i64 (N.u k)) ∧ w'.cell? ⟨lp, kp + k, none⟩ = some (.bool true) ∧ w'.cell? ⟨gp, qp + k, none⟩ = some (.bool (N.p k))) (by kernel_rfl) ⟨cb, cM, cn, c1, c2, c3⟩ (fun hHeld => ?_)
          refine takeD (i := 0) (some 62) (v := ?_) rfl rfl (by kernel_rfl) (by kernel_rfl) (by kernel_rfl) (fun _ _ _ h => h) (by kernel_rfl) ?_ (by assumption) ?_
          rotate_left
          · intro wx hSw
            obtain ⟨hS1, hS2, hS3, hS4, hS5, hS6⟩ := hSw
            go_simp
            try (with_reducible rfl)
          try simp only [Act.put, List.setIfInBounds_toArray, List.set_cons_zero, List.set_cons_succ]
          refine takeD (i := 1) (some 63) (v := ?_) rfl rfl (by kernel_rfl) (by kernel_rfl) (by kernel_rfl) (fun _ _ _ h => h) (by kernel_rfl) ?_ (by assumption) ?_
          rotate_left
          · intro wx hSw
            obtain ⟨hS1, hS2, hS3, hS4, hS5, hS6⟩ := hSw
            go_simp
            try (with_reducible rfl)
          try simp only [Act.put, List.setIfInBounds_toArray, List.set_cons_zero, List.set_cons_succ]
          refine takeD (i := 2) (some 64) (v := ?_) rfl rfl (by kernel_rfl) (by kernel_rfl) (by kernel_rfl) (fun _ _ _ h => h) (by kernel_rfl) ?_ (by assumption) ?_
          rotate_left
          · intro wx hSw
            obtain ⟨hS1, hS2, hS3, hS4, hS5, hS6⟩ := hSw
            go_simp
            try (with_reducible rfl)
          try simp only [Act.put, List.setIfInBounds_toArray, List.set_cons_zero, List.set_cons_succ]
          refine takeD (i := 3) (some 65) (v := ?_) rfl rfl (by kernel_rfl) (by kernel_rfl) (by kernel_rfl) (fun _ _ _ h => h) (by kernel_rfl) ?_ (by assumption) ?_
          rotate_left
          · intro wx hSw
            obtain ⟨hS1, hS2, hS3, hS4, hS5, hS6⟩ := hSw
            go_simp
            try (with_reducible rfl)
          try simp only [Act.put, List.setIfInBounds_toArray, List.set_cons_zero, List.set_cons_succ]
          refine takeD (i := 4) (some 66) (v := ?_) rfl rfl (by kernel_rfl) (by kernel_rfl) (by kernel_rfl) (fun _ _ _ h => h) (by kernel_rfl) ?_ (by assumption) ?_
          rotate_left
          · intro wx hSw
            obtain ⟨hS1, hS2, hS3, hS4, hS5, hS6⟩ := hSw
            go_simp
            try (with_reducible rfl)
          try simp only [Act.put, List.setIfInBounds_toArray, List.set_cons_zero, List.set_cons_succ]
          refine takeD (i := 5) (some 67) (v := ?_) rfl rfl (by kernel_rfl) (by kernel_rfl) (by kernel_rfl) (fun _ _ _ h => h) (by kernel_rfl) ?_ (by assumption) ?_
          rotate_left
          · intro wx hSw
            obtain ⟨hS1, hS2, hS3, hS4, hS5, hS6⟩ := hSw
            go_simp
            try (with_reducible rfl)
          try simp only [Act.put, List.setIfInBounds_toArray, List.set_cons_zero, List.set_cons_succ]
          refine takeD (i := 6) (some 68) (v := ?_) rfl rfl (by kernel_rfl) (by kernel_rfl) (by kernel_rfl) (fun _ _ _ h => h) (by kernel_rfl) ?_ (by assumption) ?_
          rotate_left
          · intro wx hSw
            obtain ⟨hS1, hS2, hS3, hS4, hS5, hS6⟩ := hSw
            go_simp
            try (with_reducible rfl)
          try simp only [Act.put, List.setIfInBounds_toArray, List.set_cons_zero, List.set_cons_succ]
          refine takeD (i := 7) (some 69) (v := ?_) rfl rfl (by kernel_rfl) (by kernel_rfl) (by kernel_rfl) (fun _ _ _ h => h) (by kernel_rfl) ?_ (by assumption) ?_
          rotate_left
          · intro wx hSw
            obtain ⟨hS1, hS2, hS3, hS4, hS5, hS6⟩ := hSw
            go_simp
            try (with_reducible rfl)
          try simp only [Act.put, List.setIfInBounds_toArray, List.set_cons_zero, List.set_cons_succ]
          refine takeD (i := 8) (some 70) (v := ?_) rfl rfl (by kernel_rfl) (by kernel_rfl) (by kernel_rfl) (fun _ _ _ h => h) (by kernel_rfl) ?_ (by assumption) ?_
          rotate_left
          · intro wx hSw
            obtain ⟨hS1, hS2, hS3, hS4, hS5, hS6⟩ := hSw
            go_simp
            try (with_reducible rfl)
          try simp only [Act.put, List.setIfInBounds_toArray, List.set_cons_zero, List.set_cons_succ]
          refine takeD (i := 9) (some 71) (v := ?_) rfl rfl (by kernel_rfl) (by kernel_rfl) (by kernel_rfl) (fun _ _ _ h => h) (by kernel_rfl) ?_ (by assumption) ?_
          rotate_left
          · intro wx hSw
            obtain ⟨hS1, hS2, hS3, hS4, hS5, hS6⟩ := hSw
            go_simp
            try (with_reducible rfl)
          try simp only [Act.put, List.setIfInBounds_toArray, List.set_cons_zero, List.set_cons_succ]
          refine takeD (i := 10) (some 72) (v := ?_) rfl rfl (by kernel_rfl) (by kernel_rfl) (by kernel_rfl) (fun _ _ _ h => h) (by kernel_rfl) ?_ (by assumption) ?_
          rotate_left
          · intro wx hSw
            obtain ⟨hS1, hS2, hS3, hS4, hS5, hS6⟩ := hSw
            go_simp
            try (with_reducible rfl)
          try simp only [Act.put, List.setIfInBounds_toArray, List.set_cons_zero, List.set_cons_succ]
          refine takeD (i := 11) (some 73) (v := ?_) rfl rfl (by kernel_rfl) (by kernel_rfl) (by kernel_rfl) (fun _ _ _ h => h) (by kernel_rfl) ?_ (by assumption) ?_
          rotate_left
          · intro wx hSw
            obtain ⟨hS1, hS2, hS3, hS4, hS5, hS6⟩ := hSw
            go_simp
            try (with_reducible rfl)
          try simp only [Act.put, List.setIfInBounds_toArray, List.set_cons_zero, List.set_cons_succ]
          refine takeD (i := 12) (some 74) (v := ?_) rfl rfl (by kernel_rfl) (by kernel_rfl) (by kernel_rfl) (fun _ _ _ h => h) (by kernel_rfl) ?_ (by assumption) ?_
          rotate_left
          · intro wx hSw
            obtain ⟨hS1, hS2, hS3, hS4, hS5, hS6⟩ := hSw
            go_simp
            try (with_reducible rfl)
          try simp only [Act.put, List.setIfInBounds_toArray, List.set_cons_zero, List.set_cons_succ]
          refine takeD (i := 13) (some 75) (v := ?_) rfl rfl (by kernel_rfl) (by kernel_rfl) (by kernel_rfl) (fun _ _ _ h => h) (by kernel_rfl) ?_ (by assumption) ?_
          rotate_left
          · intro wx hSw
            obtain ⟨hS1, hS2, hS3, hS4, hS5, hS6⟩ := hSw
            go_simp
            try (with_reducible rfl)
          try simp only [Act.put, List.setIfInBounds_toArray, List.set_cons_zero, List.set_cons_succ]
          refine takeD (i := 14) (some 76) (v := ?_) rfl rfl (by kernel_rfl) (by kernel_rfl) (by kernel_rfl) (fun _ _ _ h => h) (by kernel_rfl) ?_ (by assumption) ?_
          rotate_left
          · intro wx hSw
            obtain ⟨hS1, hS2, hS3, hS4, hS5, hS6⟩ := hSw
            go_simp
            try (with_reducible rfl)
          try simp only [Act.put, List.setIfInBounds_toArray, List.set_cons_zero, List.set_cons_succ]
          refine takeD (i := 15) (some 77) (v := ?_) rfl rfl (by kernel_rfl) (by kernel_rfl) (by kernel_rfl) (fun _ _ _ h => h) (by kernel_rfl) ?_ (by assumption) ?_
          rotate_left
          · intro wx hSw
            obtain ⟨hS1, hS2, hS3, hS4, hS5, hS6⟩ := hSw
            go_simp
            try (with_reducible rfl)
          try simp only [Act.put, List.setIfInBounds_toArray, List.set_cons_zero, List.set_cons_succ]
          refine takeD (i := 16) (some 78) (v := ?_) rfl rfl (by kernel_rfl) (by kernel_rfl) (by kernel_rfl) (fun _ _ _ h => h) (by kernel_rfl) ?_ (by assumption) ?_
          rotate_left
          · intro wx hSw
            obtain ⟨hS1, hS2, hS3, hS4, hS5, hS6⟩ := hSw
            go_simp
            try (with_reducible rfl)
          try simp only [Act.put, List.setIfInBounds_toArray, List.set_cons_zero, List.set_cons_succ]
          refine takeD (i := 17) (some 79) (v := ?_) rfl rfl (by kernel_rfl) (by kernel_rfl) (by kernel_rfl) (fun _ _ _ h => h) (by kernel_rfl) ?_ (by assumption) ?_
          rotate_left
          · intro wx hSw
            obtain ⟨hS1, hS2, hS3, hS4, hS5, hS6⟩ := hSw
            go_simp
            try (with_reducible rfl)
          try simp only [Act.put, List.setIfInBounds_toArray, List.set_cons_zero, List.set_cons_succ]
          refine takeD (i := 18) (some 80) (v := ?_) rfl rfl (by kernel_rfl) (by kernel_rfl) (by kernel_rfl) (fun _ _ _ h => h) (by kernel_rfl) ?_ (by assumption) ?_
          rotate_left
          · intro wx hSw
            obtain ⟨hS1, hS2, hS3, hS4, hS5, hS6⟩ := hSw
            go_simp
            try (with_reducible rfl)
          try simp only [Act.put, List.setIfInBounds_toArray, List.set_cons_zero, List.set_cons_succ]
          refine takeD (i := 19) (some 81) (v := ?_) rfl rfl (by kernel_rfl) (by kernel_rfl) (by kernel_rfl) (fun _ _ _ h => h) (by kernel_rfl) ?_ (by assumption) ?_
          rotate_left
          · intro wx hSw
            obtain ⟨hS1, hS2, hS3, hS4, hS5, hS6⟩ := hSw
            go_simp
            try (with_reducible rfl)
          try simp only [Act.put, List.setIfInBounds_toArray, List.set_cons_zero, List.set_cons_succ]
          refine takeD (i := 20) (some 82) (v := ?_) rfl rfl (by kernel_rfl) (by kernel_rfl) (by kernel_rfl) (fun _ _ _ h => h) (by kernel_rfl) ?_ (by assumption) ?_
          rotate_left
          · intro wx hSw
            obtain ⟨hS1, hS2, hS3, hS4, hS5, hS6⟩ := hSw
            go_simp
            try (with_reducible rfl)
          try simp only [Act.put, List.setIfInBounds_toArray, List.set_cons_zero, List.set_cons_succ]
          refine takeD (i := 21) (some 83) (v := ?_) rfl rfl (by kernel_rfl) (by kernel_rfl) (by kernel_rfl) (fun _ _ _ h => h) (by kernel_rfl) ?_ (by assumption) ?_
          rotate_left
          · intro wx hSw
            obtain ⟨hS1, hS2, hS3, hS4, hS5, hS6⟩ := hSw
            go_simp
            try (with_reducible rfl)
          try simp only [Act.put, List.setIfInBounds_toArray, List.set_cons_zero, List.set_cons_succ]
          refine takeD (i := 22) (some 84) (v := ?_) rfl rfl (by kernel_rfl) (by kernel_rfl) (by kernel_rfl) (fun _ _ _ h => h) (by kernel_rfl) ?_ (by assumption) ?_
          rotate_left
          · intro wx hSw
            obtain ⟨hS1, hS2, hS3, hS4, hS5, hS6⟩ := hSw
            go_simp
            try (with_reducible rfl)
          try simp only [Act.put, List.setIfInBounds_toArray, List.set_cons_zero, List.set_cons_succ]
          refine takeD (i := 23) (some 85) (v := ?_) rfl rfl (by kernel_rfl) (by kernel_rfl) (by kernel_rfl) (fun _ _ _ h => h) (by kernel_rfl) ?_ (by assumption) ?_
          rotate_left
          · intro wx hSw
            obtain ⟨hS1, hS2, hS3, hS4, hS5, hS6⟩ := hSw
            go_simp
            try (with_reducible rfl)
          try simp only [Act.put, List.setIfInBounds_toArray, List.set_cons_zero, List.set_cons_succ]
          refine takeD (i := 24) (some 86) (v := ?_) rfl rfl (by kernel_rfl) (by kernel_rfl) (by kernel_rfl) (fun _ _ _ h => h) (by kernel_rfl) ?_ (by assumption) ?_
          rotate_left
          · intro wx hSw
            obtain ⟨hS1, hS2, hS3, hS4, hS5, hS6⟩ := hSw
            go_simp
            try (with_reducible rfl)
          try simp only [Act.put, List.setIfInBounds_toArray, List.set_cons_zero, List.set_cons_succ]
          refine takeD (i := 25) (some 87) (v := ?_) rfl rfl (by kernel_rfl) (by kernel_rfl) (by kernel_rfl) (fun _ _ _ h => h) (by kernel_rfl) ?_ (by assumption) ?_
          rotate_left
          · intro wx hSw
            obtain ⟨hS1, hS2, hS3, hS4, hS5, hS6⟩ := hSw
            go_simp
            try (with_reducible rfl)
          try simp only [Act.put, List.setIfInBounds_toArray, List.set_cons_zero, List.set_cons_succ]
          refine skipD (i := 26) (some 88) rfl rfl (by kernel_rfl) (by kernel_rfl) (by kernel_rfl) (fun _ _ _ h => h) (by kernel_rfl) (by assumption) ?_
          try simp only [Act.put, List.setIfInBounds_toArray, List.set_cons_zero, List.set_cons_succ]
          refine skipD (i := 27) (some 89) rfl rfl (by kernel_rfl) (by kernel_rfl) (by kernel_rfl) (fun _ _ _ h => h) (by kernel_rfl) (by assumption) ?_
          try simp only [Act.put, List.setIfInBounds_toArray, List.set_cons_zero, List.set_cons_succ]
          refine skipD (i := 28) (some 90) rfl rfl (by kernel_rfl) (by kernel_rfl) (by kernel_rfl) (fun _ _ _ h => h) (by kernel_rfl) (by assumption) ?_
          try simp only [Act.put, List.setIfInBounds_toArray, List.set_cons_zero, List.set_cons_succ]
          refine skipD (i := 29) (some 91) rfl rfl (by kernel_rfl) (by kernel_rfl) (by kernel_rfl) (fun _ _ _ h => h) (by kernel_rfl) (by assumption) ?_
          try simp only [Act.put, List.setIfInBounds_toArray, List.set_cons_zero, List.set_cons_succ]
          refine skipD (i := 30) (some 92) rfl rfl (by kernel_rfl) (by kernel_rfl) (by kernel_rfl) (fun _ _ _ h => h) (by kernel_rfl) (by assumption) ?_
          try simp only [Act.put, List.setIfInBounds_toArray, List.set_cons_zero, List.set_cons_succ]
          refine takeD (i := 31) (some 93) (v := ?_) rfl rfl (by kernel_rfl) (by kernel_rfl) (by kernel_rfl) (fun _ _ _ h => h) (by kernel_rfl) ?_ (by assumption) ?_
          rotate_left
          · intro wx hSw
            obtain ⟨hS1, hS2, hS3, hS4, hS5, hS6⟩ := hSw
            go_simp
            try (with_reducible rfl)
          try simp only [Act.put, List.setIfInBounds_toArray, List.set_cons_zero, List.set_cons_succ]
          refine takeD (i := 32) (some 94) (v := ?_) rfl rfl (by kernel_rfl) (by kernel_rfl) (by kernel_rfl) (fun _ _ _ h => h) (by kernel_rfl) ?_ (by assumption) ?_
          rotate_left
          · intro wx hSw
            obtain ⟨hS1, hS2, hS3, hS4, hS5, hS6⟩ := hSw
            go_simp
            try (with_reducible rfl)
          try simp only [Act.put, List.setIfInBounds_toArray, List.set_cons_zero, List.set_cons_succ]
          refine takeD (i := 33) (some 95) (v := ?_) rfl rfl (by kernel_rfl) (by kernel_rfl) (by kernel_rfl) (fun _ _ _ h => h) (by kernel_rfl) ?_ (by assumption) ?_
          rotate_left
          · intro wx hSw
            obtain ⟨hS1, hS2, hS3, hS4, hS5, hS6⟩ := hSw
            go_simp
            try (with_reducible rfl)
          try simp only [Act.put, List.setIfInBounds_toArray, List.set_cons_zero, List.set_cons_succ]
          refine takeD (i := 34) (some 96) (v := ?_) rfl rfl (by kernel_rfl) (by kernel_rfl) (by kernel_rfl) (fun _ _ _ h => h) (by kernel_rfl) ?_ (by assumption) ?_
          rotate_left
          · intro wx hSw
            obtain ⟨hS1, hS2, hS3, hS4, hS5, hS6⟩ := hSw
            go_simp
            try (with_reducible rfl)
          try simp only [Act.put, List.setIfInBounds_toArray, List.set_cons_zero, List.set_cons_succ]
          refine takeD (i := 35) (some 97) (v := ?_) rfl rfl (by kernel_rfl) (by kernel_rfl) (by kernel_rfl) (fun _ _ _ h => h) (by kernel_rfl) ?_ (by assumption) ?_
          rotate_left
          · intro wx hSw
            obtain ⟨hS1, hS2, hS3, hS4, hS5, hS6⟩ := hSw
            go_simp
            try (with_reducible rfl)
          try simp only [Act.put, List.setIfInBounds_toArray, List.set_cons_zero, List.set_cons_succ]
          refine takeD (i := 36) (some 98) (v := ?_) rfl rfl (by kernel_rfl) (by kernel_rfl) (by kernel_rfl) (fun _ _ _ h => h) (by kernel_rfl) ?_ (by assumption) ?_
          rotate_left
          · intro wx hSw
            obtain ⟨hS1, hS2, hS3, hS4, hS5, hS6⟩ := hSw
            go_simp
            try (with_reducible rfl)
          try simp only [Act.put, List.setIfInBounds_toArray, List.set_cons_zero, List.set_cons_succ]
          refine takeD (i := 37) (some 99) (v := ?_) rfl rfl (by kernel_rfl) (by kernel_rfl) (by kernel_rfl) (fun _ _ _ h => h) (by kernel_rfl) ?_ (by assumption) ?_
          rotate_left
          · intro wx hSw
            obtain ⟨hS1, hS2, hS3, hS4, hS5, hS6⟩ := hSw
            go_simp
            try (with_reducible rfl)
          try simp only [Act.put, List.setIfInBounds_toArray, List.set_cons_zero, List.set_cons_succ]
          refine takeD (i := 38) (some 100) (v := ?_) rfl rfl (by kernel_rfl) (by kernel_rfl) (by kernel_rfl) (fun _ _ _ h => h) (by kernel_rfl) ?_ (by assumption) ?_
          rotate_left
          · intro wx hSw
            obtain ⟨hS1, hS2, hS3, hS4, hS5, hS6⟩ := hSw
            go_simp
            try (with_reducible rfl)
          try simp only [Act.put, List.setIfInBounds_toArray, List.set_cons_zero, List.set_cons_succ]
          refine takeD (i := 39) (some 101) (v := ?_) rfl rfl (by kernel_rfl) (by kernel_rfl) (by kernel_rfl) (fun _ _ _ h => h) (by kernel_rfl) ?_ (by assumption) ?_
          rotate_left
          · intro wx hSw
            obtain ⟨hS1, hS2, hS3, hS4, hS5, hS6⟩ := hSw
            go_simp
            try (with_reducible rfl)
          try simp only [Act.put, List.setIfInBounds_toArray, List.set_cons_zero, List.set_cons_succ]
          refine takeD (i := 40) (some 102) (v := ?_) rfl rfl (by kernel_rfl) (by kernel_rfl) (by kernel_rfl) (fun _ _ _ h => h) (by kernel_rfl) ?_ (by assumption) ?_
          rotate_left
          · intro wx hSw
            obtain ⟨hS1, hS2, hS3, hS4, hS5, hS6⟩ := hSw
            go_simp
            try (with_reducible rfl)
          try simp only [Act.put, List.setIfInBounds_toArray, List.set_cons_zero, List.set_cons_succ]
          refine takeD (i := 41) (some 103) (v := ?_) rfl rfl (by kernel_rfl) (by kernel_rfl) (by kernel_rfl) (fun _ _ _ h => h) (by kernel_rfl) ?_ (by assumption) ?_
          rotate_left
          · intro wx hSw
            obtain ⟨hS1, hS2, hS3, hS4, hS5, hS6⟩ := hSw
            go_simp
            try (with_reducible rfl)
          try simp only [Act.put, List.setIfInBounds_toArray, List.set_cons_zero, List.set_cons_succ]
          refine takeD (i := 42) (some 104) (v := ?_) rfl rfl (by kernel_rfl) (by kernel_rfl) (by kernel_rfl) (fun _ _ _ h => h) (by kernel_rfl) ?_ (by assumption) ?_
          rotate_left
          · intro wx hSw
            obtain ⟨hS1, hS2, hS3, hS4, hS5, hS6⟩ := hSw
            go_simp
            try (with_reducible rfl)
          try simp only [Act.put, List.setIfInBounds_toArray, List.set_cons_zero, List.set_cons_succ]
          refine takeD (i := 43) (some 105) (v := ?_) rfl rfl (by kernel_rfl) (by kernel_rfl) (by kernel_rfl) (fun _ _ _ h => h) (by kernel_rfl) ?_ (by assumption) ?_
          rotate_left
          · intro wx hSw
            obtain ⟨hS1, hS2, hS3, hS4, hS5, hS6⟩ := hSw
            go_simp
            try (with_reducible rfl)
          try simp only [Act.put, List.setIfInBounds_toArray, List.set_cons_zero, List.set_cons_succ]
          refine takeD (i := 44) (some 106) (v := ?_) rfl rfl (by kernel_rfl) (by kernel_rfl) (by kernel_rfl) (fun _ _ _ h => h) (by kernel_rfl) ?_ (by assumption) ?_
          rotate_left
          · intro wx hSw
            obtain ⟨hS1, hS2, hS3, hS4, hS5, hS6⟩ := hSw
            go_simp
            try (with_reducible rfl)
          try simp only [Act.put, List.setIfInBounds_toArray, List.set_cons_zero, List.set_cons_succ]
          refine takeD (i := 45) (some 107) (v := ?_) rfl rfl (by kernel_rfl) (by kernel_rfl) (by kernel_rfl) (fun _ _ _ h => h) (by kernel_rfl) ?_ (by assumption) ?_
          rotate_left
          · intro wx hSw
            obtain ⟨hS1, hS2, hS3, hS4, hS5, hS6⟩ := hSw
            go_simp
            try (with_reducible rfl)
          try simp only [Act.put, List.setIfInBounds_toArray, List.set_cons_zero, List.set_cons_succ]
          refine takeD (i := 46) (some 108) (v := ?_) rfl rfl (by kernel_rfl) (by kernel_rfl) (by kernel_rfl) (fun _ _ _ h => h) (by kernel_rfl) ?_ (by assumption) ?_
          rotate_left
          · intro wx hSw
            obtain ⟨hS1, hS2, hS3, hS4, hS5, hS6⟩ := hSw
            go_simp
            try (with_reducible rfl)
          try simp only [Act.put, List.setIfInBounds_toArray, List.set_cons_zero, List.set_cons_succ]
          refine takeD (i := 47) (some 109) (v := ?_) rfl rfl (by kernel_rfl) (by kernel_rfl) (by kernel_rfl) (fun _ _ _ h => h) (by kernel_rfl) ?_ (by assumption) ?_
          rotate_left
          · intro wx hSw
            obtain ⟨hS1, hS2, hS3, hS4, hS5, hS6⟩ := hSw
            go_simp
            try (with_reducible rfl)
          try simp only [Act.put, List.setIfInBounds_toArray, List.set_cons_zero, List.set_cons_succ]
          refine takeD (i := 48) (some 110) (v := ?_) rfl rfl (by kernel_rfl) (by kernel_rfl) (by kernel_rfl) (fun _ _ _ h => h) (by kernel_rfl) ?_ (by assumption) ?_
          rotate_left
          · intro wx hSw
            obtain ⟨hS1, hS2, hS3, hS4, hS5, hS6⟩ := hSw
            go_simp
            try (with_reducible rfl)
          try simp only [Act.put, List.setIfInBounds_toArray, List.set_cons_zero, List.set_cons_succ]
          refine takeD (i := 49) (some 111) (v := ?_) rfl rfl (by kernel_rfl) (by kernel_rfl) (by kernel_rfl) (fun _ _ _ h => h) (by kernel_rfl) ?_ (by assumption) ?_
          rotate_left
          · intro wx hSw
            obtain ⟨hS1, hS2, hS3, hS4, hS5, hS6⟩ := hSw
            go_simp
            try (with_reducible rfl)
          try simp only [Act.put, List.setIfInBounds_toArray, List.set_cons_zero, List.set_cons_succ]
          refine takeD (i := 50) (some 112) (v := ?_) rfl rfl (by kernel_rfl) (by kernel_rfl) (by kernel_rfl) (fun _ _ _ h => h) (by kernel_rfl) ?_ (by assumption) ?_
          rotate_left
          · intro wx hSw
            obtain ⟨hS1, hS2, hS3, hS4, hS5, hS6⟩ := hSw
            go_simp
            try (with_reducible rfl)
          try simp only [Act.put, List.setIfInBounds_toArray, List.set_cons_zero, List.set_cons_succ]
          refine takeD (i := 51) (some 113) (v := ?_) rfl rfl (by kernel_rfl) (by kernel_rfl) (by kernel_rfl) (fun _ _ _ h => h) (by kernel_rfl) ?_ (by assumption) ?_
          rotate_left
          · intro wx hSw
            obtain ⟨hS1, hS2, hS3, hS4, hS5, hS6⟩ := hSw
            go_simp
            try (with_reducible rfl)
          try simp only [Act.put, List.setIfInBounds_toArray, List.set_cons_zero, List.set_cons_succ]
          refine takeD (i := 52) (some 114) (v := ?_) rfl rfl (by kernel_rfl) (by kernel_rfl) (by kernel_rfl) (fun _ _ _ h => h) (by kernel_rfl) ?_ (by assumption) ?_
          rotate_left
          · intro wx hSw
            obtain ⟨hS1, hS2, hS3, hS4, hS5, hS6⟩ := hSw
            go_simp
            try (with_reducible rfl)
          try simp only [Act.put, List.setIfInBounds_toArray, List.set_cons_zero, List.set_cons_succ]
          refine skipD (i := 53) (some 115) rfl rfl (by kernel_rfl) (by kernel_rfl) (by kernel_rfl) (fun _ _ _ h => h) (by kernel_rfl) (by assumption) ?_
          try simp only [Act.put, List.setIfInBounds_toArray, List.set_cons_zero, List.set_cons_succ]
          refine skipD (i := 54) (some 116) rfl rfl (by kernel_rfl) (by kernel_rfl) (by kernel_rfl) (fun _ _ _ h => h) (by kernel_rfl) (by assumption) ?_
          try simp only [Act.put, List.setIfInBounds_toArray, List.set_cons_zero, List.set_cons_succ]
          refine skipD (i := 55) (some 117) rfl rfl (by kernel_rfl) (by kernel_rfl) (by kernel_rfl) (fun _ _ _ h => h) (by kernel_rfl) (by assumption) ?_
          try simp only [Act.put, List.setIfInBounds_toArray, List.set_cons_zero, List.set_cons_succ]
          refine skipD (i := 56) (some 118) rfl rfl (by kernel_rfl) (by kernel_rfl) (by kernel_rfl) (fun _ _ _ h => h) (by kernel_rfl) (by assumption) ?_
          try simp only [Act.put, List.setIfInBounds_toArray, List.set_cons_zero, List.set_cons_succ]
          refine skipD (i := 57) (some 119) rfl rfl (by kernel_rfl) (by kernel_rfl) (by kernel_rfl) (fun _ _ _ h => h) (by kernel_rfl) (by assumption) ?_
          try simp only [Act.put, List.setIfInBounds_toArray, List.set_cons_zero, List.set_cons_succ]
          refine skipD (i := 58) (some 120) rfl rfl (by kernel_rfl) (by kernel_rfl) (by kernel_rfl) (fun _ _ _ h => h) (by kernel_rfl) (by assumption) ?_
          try simp only [Act.put, List.setIfInBounds_toArray, List.set_cons_zero, List.set_cons_succ]
          refine skipD (i := 59) (some 121) rfl rfl (by kernel_rfl) (by kernel_rfl) (by kernel_rfl) (fun _ _ _ h => h) (by kernel_rfl) (by assumption) ?_
          try simp only [Act.put, List.setIfInBounds_toArray, List.set_cons_zero, List.set_cons_succ]
          refine skipD (i := 60) (some 122) rfl rfl (by kernel_rfl) (by kernel_rfl) (by kernel_rfl) (fun _ _ _ h => h) (by kernel_rfl) (by assumption) ?_
          try simp only [Act.put, List.setIfInBounds_toArray, List.set_cons_zero, List.set_cons_succ]
          refine skipD (i := 61) (some 123) rfl rfl (by kernel_rfl) (by kernel_rfl) (by kernel_rfl) (fun _ _ _ h => h) (by kernel_rfl) (by assumption) ?_
          try simp only [Act.put, List.setIfInBounds_toArray, List.set_cons_zero, List.set_cons_succ]
          refine skipD (i := 62) (some 124) rfl rfl (by kernel_rfl) (by kernel_rfl) (by kernel_rfl) (fun _ _ _ h => h) (by kernel_rfl) (by assumption) ?_
          try simp only [Act.put, List.setIfInBounds_toArray, List.set_cons_zero, List.set_cons_succ]
          refine skipD (i := 63) (some 125) rfl rfl (by kernel_rfl) (by kernel_rfl) (by kernel_rfl) (fun _ _ _ h => h) (by kernel_rfl) (by assumption) ?_
          try simp only [Act.put, List.setIfInBounds_toArray, List.set_cons_zero, List.set_cons_succ]
          refine takeD (i := 64) (some 126) (v := ?_) rfl rfl (by kernel_rfl) (by kernel_rfl) (by kernel_rfl) (fun _ _ _ h => h) (by kernel_rfl) ?_ (by assumption) ?_
          rotate_left
          · intro wx hSw
            obtain ⟨hS1, hS2, hS3, hS4, hS5, hS6⟩ := hSw
            go_simp
            try (with_reducible rfl)
          try simp only [Act.put, List.setIfInBounds_toArray, List.set_cons_zero, List.set_cons_succ]
          refine takeD (i := 65) (some 127) (v := ?_) rfl rfl (by kernel_rfl) (by kernel_rfl) (by kernel_rfl) (fun _ _ _ h => h) (by kernel_rfl) ?_ (by assumption) ?_
          rotate_left
          · intro wx hSw
            obtain ⟨hS1, hS2, hS3, hS4, hS5, hS6⟩ := hSw
            go_simp
            try (with_reducible rfl)
          try simp only [Act.put, List.setIfInBounds_toArray, List.set_cons_zero, List.set_cons_succ]
          refine wpAnyH_done (by kernel_rfl) ?_ _
          clear hHeld
          have hBrd := hBr.drew
          go_wp2_with fail
          go_roundw
          case rel => exact ⟨k + 1, by omega, by go_num, hBrd⟩
          case measure => simp [intOf]; omega
        · by_cases hA2 : N.u k ≤ C.xn
          · have q : pauseAt C (N.u k) (N.p k) = false := by cases N.p k <;> simp [pauseAt] <;> omega
            rw [q] at c2
            have d1 : decide (C.xo ≤ N.u k) = false := decide_eq_false hA1
            have d2 : decide (N.u k ≤ C.xn) = true := decide_eq_true hA2
            have d3 : decide (C.xn < N.u k) = false := decide_eq_false (by omega)
            clear q
            go_wp2_with fail
            refine wp_region_held_drew (S := fun w' => (∀ o, w'.cell? ⟨w1.heap.size, o, none⟩ = (#[.int .i64 C.p, .int .i64 C.c, .int .i64 C.xo, .int .i64 C.xn, .int .i64 C.hd, .int .i64 C.lo, .int .i64 C.dl] : Array Value)[o]?) ∧ (∀ o, w'.cell? ⟨gM, o, none⟩ = (#[.slice (some ⟨lu, ku, none⟩) L.nU L.cU, .int .i64 L.lo, .slice (some ⟨lp, kp, none⟩) L.nP L.cP] : Array Value)[o]?) ∧ (∀ o, w'.cell? ⟨w1.heap.size + 1, o, none⟩ = (#[.slice N.aU N.nU N.cU, .int .i64 N.lo, .slice (some ⟨gp, qp, none⟩) N.nP N.cP] : Array Value)[o]?) ∧ w'.cell? ⟨lu, ku + k, none⟩ = some (.int .i64 (N.u k)) ∧ w'.cell? ⟨lp, kp + k, none⟩ = some (.bool false) ∧ w'.cell? ⟨gp, qp + k, none⟩ = some (.bool (N.p k))) (by kernel_rfl) ⟨cb, cM, cn, c1, c2, c3⟩ (fun hHeld => ?_)
            refine takeD (i := 0) (some 62) (v := ?_) rfl rfl (by kernel_rfl) (by kernel_rfl) (by kernel_rfl) (fun _ _ _ h => h) (by kernel_rfl) ?_ (by assumption) ?_
            rotate_left
            · intro wx hSw
              obtain ⟨hS1, hS2, hS3, hS4, hS5, hS6⟩ := hSw
              go_simp
              try (with_reducible rfl)
            try simp only [Act.put, List.setIfInBounds_toArray, List.set_cons_zero, List.set_cons_succ]
            refine takeD (i := 1) (some 63) (v := ?_) rfl rfl (by kernel_rfl) (by kernel_rfl) (by kernel_rfl) (fun _ _ _ h => h) (by kernel_rfl) ?_ (by assumption) ?_
            rotate_left
            · intro wx hSw
              obtain ⟨hS1, hS2, hS3, hS4, hS5, hS6⟩ := hSw
              go_simp
              try (with_reducible rfl)
            try simp only [Act.put, List.setIfInBounds_toArray, List.set_cons_zero, List.set_cons_succ]
            refine takeD (i := 2) (some 64) (v := ?_) rfl rfl (by kernel_rfl) (by kernel_rfl) (by kernel_rfl) (fun _ _ _ h => h) (by kernel_rfl) ?_ (by assumption) ?_
            rotate_left
            · intro wx hSw
              obtain ⟨hS1, hS2, hS3, hS4, hS5, hS6⟩ := hSw
              go_simp
              try (with_reducible rfl)
            try simp only [Act.put, List.setIfInBounds_toArray, List.set_cons_zero, List.set_cons_succ]
            refine takeD (i := 3) (some 65) (v := ?_) rfl rfl (by kernel_rfl) (by kernel_rfl) (by kernel_rfl) (fun _ _ _ h => h) (by kernel_rfl) ?_ (by assumption) ?_
            rotate_left
            · intro wx hSw
              obtain ⟨hS1, hS2, hS3, hS4, hS5, hS6⟩ := hSw
              go_simp
              try (with_reducible rfl)
            try simp only [Act.put, List.setIfInBounds_toArray, List.set_cons_zero, List.set_cons_succ]
            refine takeD (i := 4) (some 66) (v := ?_) rfl rfl (by kernel_rfl) (by kernel_rfl) (by kernel_rfl) (fun _ _ _ h => h) (by kernel_rfl) ?_ (by assumption) ?_
            rotate_left
            · intro wx hSw
              obtain ⟨hS1, hS2, hS3, hS4, hS5, hS6⟩ := hSw
              go_simp
              try (with_reducible rfl)
            try simp only [Act.put, List.setIfInBounds_toArray, List.set_cons_zero, List.set_cons_succ]
            refine takeD (i := 5) (some 67) (v := ?_) rfl rfl (by kernel_rfl) (by kernel_rfl) (by kernel_rfl) (fun _ _ _ h => h) (by kernel_rfl) ?_ (by assumption) ?_
            rotate_left
            · intro wx hSw
              obtain ⟨hS1, hS2, hS3, hS4, hS5, hS6⟩ := hSw
              go_simp
              try (with_reducible rfl)
            try simp only [Act.put, List.setIfInBounds_toArray, List.set_cons_zero, List.set_cons_succ]
            refine takeD (i := 6) (some 68) (v := ?_) rfl rfl (by kernel_rfl) (by kernel_rfl) (by kernel_rfl) (fun _ _ _ h => h) (by kernel_rfl) ?_ (by assumption) ?_
            rotate_left
            · intro wx hSw
              obtain ⟨hS1, hS2, hS3, hS4, hS5, hS6⟩ := hSw
              go_simp
              try (with_reducible rfl)
            try simp only [Act.put, List.setIfInBounds_toArray, List.set_cons_zero, List.set_cons_succ]
            refine takeD (i := 7) (some 69) (v := ?_) rfl rfl (by kernel_rfl) (by kernel_rfl) (by kernel_rfl) (fun _ _ _ h => h) (by kernel_rfl) ?_ (by assumption) ?_
            rotate_left
            · intro wx hSw
              obtain ⟨hS1, hS2, hS3, hS4, hS5, hS6⟩ := hSw
              go_simp
              try (with_reducible rfl)
            try simp only [Act.put, List.setIfInBounds_toArray, List.set_cons_zero, List.set_cons_succ]
            refine takeD (i := 8) (some 70) (v := ?_) rfl rfl (by kernel_rfl) (by kernel_rfl) (by kernel_rfl) (fun _ _ _ h => h) (by kernel_rfl) ?_ (by assumption) ?_
            rotate_left
            · intro wx hSw
              obtain ⟨hS1, hS2, hS3, hS4, hS5, hS6⟩ := hSw
              go_simp
              try (with_reducible rfl)
            try simp only [Act.put, List.setIfInBounds_toArray, List.set_cons_zero, List.set_cons_succ]
            refine skipD (i := 9) (some 71) rfl rfl (by kernel_rfl) (by kernel_rfl) (by kernel_rfl) (fun _ _ _ h => h) (by kernel_rfl) (by assumption) ?_
            try simp only [Act.put, List.setIfInBounds_toArray, List.set_cons_zero, List.set_cons_succ]
            refine skipD (i := 10) (some 72) rfl rfl (by kernel_rfl) (by kernel_rfl) (by kernel_rfl) (fun _ _ _ h => h) (by kernel_rfl) (by assumption) ?_
            try simp only [Act.put, List.setIfInBounds_toArray, List.set_cons_zero, List.set_cons_succ]
            refine skipD (i := 11) (some 73) rfl rfl (by kernel_rfl) (by kernel_rfl) (by kernel_rfl) (fun _ _ _ h => h) (by kernel_rfl) (by assumption) ?_
            try simp only [Act.put, List.setIfInBounds_toArray, List.set_cons_zero, List.set_cons_succ]
            refine skipD (i := 12) (some 74) rfl rfl (by kernel_rfl) (by kernel_rfl) (by kernel_rfl) (fun _ _ _ h => h) (by kernel_rfl) (by assumption) ?_
            try simp only [Act.put, List.setIfInBounds_toArray, List.set_cons_zero, List.set_cons_succ]
            refine skipD (i := 13) (some 75) rfl rfl (by kernel_rfl) (by kernel_rfl) (by kernel_rfl) (fun _ _ _ h => h) (by kernel_rfl) (by assumption) ?_
            try simp only [Act.put, List.setIfInBounds_toArray, List.set_cons_zero, List.set_cons_succ]
            refine skipD (i := 14) (some 76) rfl rfl (by kernel_rfl) (by kernel_rfl) (by kernel_rfl) (fun _ _ _ h => h) (by kernel_rfl) (by assumption) ?_
            try simp only [Act.put, List.setIfInBounds_toArray, List.set_cons_zero, List.set_cons_succ]
            refine takeD (i := 15) (some 77) (v := ?_) rfl rfl (by kernel_rfl) (by kernel_rfl) (by kernel_rfl) (fun _ _ _ h => h) (by kernel_rfl) ?_ (by assumption) ?_
            rotate_left
            · intro wx hSw
              obtain ⟨hS1, hS2, hS3, hS4, hS5, hS6⟩ := hSw
              go_simp
              try (with_reducible rfl)
            try simp only [Act.put, List.setIfInBounds_toArray, List.set_cons_zero, List.set_cons_succ]
            refine takeD (i := 16) (some 78) (v := ?_) rfl rfl (by kernel_rfl) (by kernel_rfl) (by kernel_rfl) (fun _ _ _ h => h) (by kernel_rfl) ?_ (by assumption) ?_
            rotate_left
            · intro wx hSw
              obtain ⟨hS1, hS2, hS3, hS4, hS5, hS6⟩ := hSw
              go_simp
              try (with_reducible rfl)
            try simp only [Act.put, List.setIfInBounds_toArray, List.set_cons_zero, List.set_cons_succ]
            refine takeD (i := 17) (some 79) (v := ?_) rfl rfl (by kernel_rfl) (by kernel_rfl) (by kernel_rfl) (fun _ _ _ h => h) (by kernel_rfl) ?_ (by assumption) ?_
            rotate_left
            · intro wx hSw
              obtain ⟨hS1, hS2, hS3, hS4, hS5, hS6⟩ := hSw
              go_simp
              try (with_reducible rfl)
            try simp only [Act.put, List.setIfInBounds_toArray, List.set_cons_zero, List.set_cons_succ]
            refine takeD (i := 18) (some 80) (v := ?_) rfl rfl (by kernel_rfl) (by kernel_rfl) (by kernel_rfl) (fun _ _ _ h => h) (by kernel_rfl) ?_ (by assumption) ?_
            rotate_left
            · intro wx hSw
              obtain ⟨hS1, hS2, hS3, hS4, hS5, hS6⟩ := hSw
              go_simp
              try (with_reducible rfl)
            try simp only [Act.put, List.setIfInBounds_toArray, List.set_cons_zero, List.set_cons_succ]
            refine takeD (i := 19) (some 81) (v := ?_) rfl rfl (by kernel_rfl) (by kernel_rfl) (by kernel_rfl) (fun _ _ _ h => h) (by kernel_rfl) ?_ (by assumption) ?_
            rotate_left
            · intro wx hSw
              obtain ⟨hS1, hS2, hS3, hS4, hS5, hS6⟩ := hSw
              go_simp
              try (with_reducible rfl)
            try simp only [Act.put, List.setIfInBounds_toArray, List.set_cons_zero, List.set_cons_succ]
            refine takeD (i := 20) (some 82) (v := ?_) rfl rfl (by kernel_rfl) (by kernel_rfl) (by kernel_rfl) (fun _ _ _ h => h) (by kernel_rfl) ?_ (by assumption) ?_
            rotate_left
            · intro wx hSw
              obtain ⟨hS1, hS2, hS3, hS4, hS5, hS6⟩ := hSw
              go_simp
              try (with_reducible rfl)
            try simp only [Act.put, List.setIfInBounds_toArray, List.set_cons_zero, List.set_cons_succ]
            refine takeD (i := 21) (some 83) (v := ?_) rfl rfl (by kernel_rfl) (by kernel_rfl) (by kernel_rfl) (fun _ _ _ h => h) (by kernel_rfl) ?_ (by assumption) ?_
            rotate_left
            · intro wx hSw
              obtain ⟨hS1, hS2, hS3, hS4, hS5, hS6⟩ := hSw
              go_simp
              try (with_reducible rfl)
            try simp only [Act.put, List.setIfInBounds_toArray, List.set_cons_zero, List.set_cons_succ]
            refine takeD (i := 22) (some 84) (v := ?_) rfl rfl (by kernel_rfl) (by kernel_rfl) (by kernel_rfl) (fun _ _ _ h => h) (by kernel_rfl) ?_ (by assumption) ?_
            rotate_left
            · intro wx hSw
              obtain ⟨hS1, hS2, hS3, hS4, hS5, hS6⟩ := hSw
              go_simp
              try (with_reducible rfl)
            try simp only [Act.put, List.setIfInBounds_toArray, List.set_cons_zero, List.set_cons_succ]
            refine takeD (i := 23) (some 85) (v := ?_) rfl rfl (by kernel_rfl) (by kernel_rfl) (by kernel_rfl) (fun _ _ _ h => h) (by kernel_rfl) ?_ (by assumption) ?_
            rotate_left
            · intro wx hSw
              obtain ⟨hS1, hS2, hS3, hS4, hS5, hS6⟩ := hSw
              go_simp
              try (with_reducible rfl)
            try simp only [Act.put, List.setIfInBounds_toArray, List.set_cons_zero, List.set_cons_succ]
            refine takeD (i := 24) (some 86) (v := ?_) rfl rfl (by kernel_rfl) (by kernel_rfl) (by kernel_rfl) (fun _ _ _ h => h) (by kernel_rfl) ?_ (by assumption) ?_
            rotate_left
            · intro wx hSw
              obtain ⟨hS1, hS2, hS3, hS4, hS5, hS6⟩ := hSw
              go_simp
              try (with_reducible rfl)
            try simp only [Act.put, List.setIfInBounds_toArray, List.set_cons_zero, List.set_cons_succ]
            refine takeD (i := 25) (some 87) (v := ?_) rfl rfl (by kernel_rfl) (by kernel_rfl) (by kernel_rfl) (fun _ _ _ h => h) (by kernel_rfl) ?_ (by assumption) ?_
            rotate_left
            · intro wx hSw
              obtain ⟨hS1, hS2, hS3, hS4, hS5, hS6⟩ := hSw
              go_simp
              try (with_reducible rfl)
            try simp only [Act.put, List.setIfInBounds_toArray, List.set_cons_zero, List.set_cons_succ]
            refine takeD (i := 26) (some 88) (v := ?_) rfl rfl (by kernel_rfl) (by kernel_rfl) (by kernel_rfl) (fun _ _ _ h => h) (by kernel_rfl) ?_ (by assumption) ?_
            rotate_left
            · intro wx hSw
              obtain ⟨hS1, hS2, hS3, hS4, hS5, hS6⟩ := hSw
              go_simp
              try (with_reducible rfl)
            try simp only [Act.put, List.setIfInBounds_toArray, List.set_cons_zero, List.set_cons_succ]
            refine takeD (i := 27) (some 89) (v := ?_) rfl rfl (by kernel_rfl) (by kernel_rfl) (by kernel_rfl) (fun _ _ _ h => h) (by kernel_rfl) ?_ (by assumption) ?_
            rotate_left
            · intro wx hSw
              obtain ⟨hS1, hS2, hS3, hS4, hS5, hS6⟩ := hSw
              go_simp
              try (with_reducible rfl)
            try simp only [Act.put, List.setIfInBounds_toArray, List.set_cons_zero, List.set_cons_succ]
            refine takeD (i := 28) (some 90) (v := ?_) rfl rfl (by kernel_rfl) (by kernel_rfl) (by kernel_rfl) (fun _ _ _ h => h) (by kernel_rfl) ?_ (by assumption) ?_
            rotate_left
            · intro wx hSw
              obtain ⟨hS1, hS2, hS3, hS4, hS5, hS6⟩ := hSw
              go_simp
              try (with_reducible rfl)
            try simp only [Act.put, List.setIfInBounds_toArray, List.set_cons_zero, List.set_cons_succ]
            refine takeD (i := 29) (some 91) (v := ?_) rfl rfl (by kernel_rfl) (by kernel_rfl) (by kernel_rfl) (fun _ _ _ h => h) (by kernel_rfl) ?_ (by assumption) ?_
            rotate_left
            · intro wx hSw
              obtain ⟨hS1, hS2, hS3, hS4, hS5, hS6⟩ := hSw
              go_simp
              try (with_reducible rfl)
            try simp only [Act.put, List.setIfInBounds_toArray, List.set_cons_zero, List.set_cons_succ]
            refine takeD (i := 30) (some 92) (v := ?_) rfl rfl (by kernel_rfl) (by kernel_rfl) (by kernel_rfl) (fun _ _ _ h => h) (by kernel_rfl) ?_ (by assumption) ?_
            rotate_left
            · intro wx hSw
              obtain ⟨hS1, hS2, hS3, hS4, hS5, hS6⟩ := hSw
              go_simp
              try (with_reducible rfl)
            try simp only [Act.put, List.setIfInBounds_toArray, List.set_cons_zero, List.set_cons_succ]
            refine takeD (i := 31) (some 93) (v := ?_) rfl rfl (by kernel_rfl) (by kernel_rfl) (by kernel_rfl) (fun _ _ _ h => h) (by kernel_rfl) ?_ (by assumption) ?_
            rotate_left
            · intro wx hSw
              obtain ⟨hS1, hS2, hS3, hS4, hS5, hS6⟩ := hSw
              go_simp
              try (with_reducible rfl)
            try simp only [Act.put, List.setIfInBounds_toArray, List.set_cons_zero, List.set_cons_succ]
            refine takeD (i := 32) (some 94) (v := ?_) rfl rfl (by kernel_rfl) (by kernel_rfl) (by kernel_rfl) (fun _ _ _ h => h) (by kernel_rfl) ?_ (by assumption) ?_
            rotate_left
            · intro wx hSw
              obtain ⟨hS1, hS2, hS3, hS4, hS5, hS6⟩ := hSw
              go_simp
              try (with_reducible rfl)
            try simp only [Act.put, List.setIfInBounds_toArray, List.set_cons_zero, List.set_cons_succ]
            refine takeD (i := 33) (some 95) (v := ?_) rfl rfl (by kernel_rfl) (by kernel_rfl) (by kernel_rfl) (fun _ _ _ h => h) (by kernel_rfl) ?_ (by assumption) ?_
            rotate_left
            · intro wx hSw
              obtain ⟨hS1, hS2, hS3, hS4, hS5, hS6⟩ := hSw
              go_simp
              try (with_reducible rfl)
            try simp only [Act.put, List.setIfInBounds_toArray, List.set_cons_zero, List.set_cons_succ]
            refine takeD (i := 34) (some 96) (v := ?_) rfl rfl (by kernel_rfl) (by kernel_rfl) (by kernel_rfl) (fun _ _ _ h => h) (by kernel_rfl) ?_ (by assumption) ?_
            rotate_left
            · intro wx hSw
              obtain ⟨hS1, hS2, hS3, hS4, hS5, hS6⟩ := hSw
              go_simp
              try (with_reducible rfl)
            try simp only [Act.put, List.setIfInBounds_toArray, List.set_cons_zero, List.set_cons_succ]
            refine takeD (i := 35) (some 97) (v := ?_) rfl rfl (by kernel_rfl) (by kernel_rfl) (by kernel_rfl) (fun _ _ _ h => h) (by kernel_rfl) ?_ (by assumption) ?_
            rotate_left
            · intro wx hSw
              obtain ⟨hS1, hS2, hS3, hS4, hS5, hS6⟩ := hSw
              go_simp
              try (with_reducible rfl)
            try simp only [Act.put, List.setIfInBounds_toArray, List.set_cons_zero, List.set_cons_succ]
            refine takeD (i := 36) (some 98) (v := ?_) rfl rfl (by kernel_rfl) (by kernel_rfl) (by kernel_rfl) (fun _ _ _ h => h) (by kernel_rfl) ?_ (by assumption) ?_
            rotate_left
            · intro wx hSw
              obtain ⟨hS1, hS2, hS3, hS4, hS5, hS6⟩ := hSw
              go_simp
              try (with_reducible rfl)
            try simp only [Act.put, List.setIfInBounds_toArray, List.set_cons_zero, List.set_cons_succ]
            refine takeD (i := 37) (some 99) (v := ?_) rfl rfl (by kernel_rfl) (by kernel_rfl) (by kernel_rfl) (fun _ _ _ h => h) (by kernel_rfl) ?_ (by assumption) ?_
            rotate_left
            · intro wx hSw
              obtain ⟨hS1, hS2, hS3, hS4, hS5, hS6⟩ := hSw
              go_simp
              try (with_reducible rfl)
            try simp only [Act.put, List.setIfInBounds_toArray, List.set_cons_zero, List.set_cons_succ]
            refine takeD (i := 38) (some 100) (v := ?_) rfl rfl (by kernel_rfl) (by kernel_rfl) (by kernel_rfl) (fun _ _ _ h => h) (by kernel_rfl) ?_ (by assumption) ?_
            rotate_left
            · intro wx hSw
              obtain ⟨hS1, hS2, hS3, hS4, hS5, hS6⟩ := hSw
              go_simp
              try (with_reducible rfl)
            try simp only [Act.put, List.setIfInBounds_toArray, List.set_cons_zero, List.set_cons_succ]
            refine takeD (i := 39) (some 101) (v := ?_) rfl rfl (by kernel_rfl) (by kernel_rfl) (by kernel_rfl) (fun _ _ _ h => h) (by kernel_rfl) ?_ (by assumption) ?_
            rotate_left
            · intro wx hSw
              obtain ⟨hS1, hS2, hS3, hS4, hS5, hS6⟩ := hSw
              go_simp
              try (with_reducible rfl)
            try simp only [Act.put, List.setIfInBounds_toArray, List.set_cons_zero, List.set_cons_succ]
            refine takeD (i := 40) (some 102) (v := ?_) rfl rfl (by kernel_rfl) (by kernel_rfl) (by kernel_rfl) (fun _ _ _ h => h) (by kernel_rfl) ?_ (by assumption) ?_
            rotate_left
            · intro wx hSw
              obtain ⟨hS1, hS2, hS3, hS4, hS5, hS6⟩ := hSw
              go_simp
              try (with_reducible rfl)
            try simp only [Act.put, List.setIfInBounds_toArray, List.set_cons_zero, List.set_cons_succ]
            refine takeD (i := 41) (some 103) (v := ?_) rfl rfl (by kernel_rfl) (by kernel_rfl) (by kernel_rfl) (fun _ _ _ h => h) (by kernel_rfl) ?_ (by assumption) ?_
            rotate_left
            · intro wx hSw
              obtain ⟨hS1, hS2, hS3, hS4, hS5, hS6⟩ := hSw
              go_simp
              try (with_reducible rfl)
            try simp only [Act.put, List.setIfInBounds_toArray, List.set_cons_zero, List.set_cons_succ]
            refine takeD (i := 42) (some 104) (v := ?_) rfl rfl (by kernel_rfl) (by kernel_rfl) (by kernel_rfl) (fun _ _ _ h => h) (by kernel_rfl) ?_ (by assumption) ?_
            rotate_left
            · intro wx hSw
              obtain ⟨hS1, hS2, hS3, hS4, hS5, hS6⟩ := hSw
              go_simp
              try (with_reducible rfl)
            try simp only [Act.put, List.setIfInBounds_toArray, List.set_cons_zero, List.set_cons_succ]
            refine skipD (i := 43) (some 105) rfl rfl (by kernel_rfl) (by kernel_rfl) (by kernel_rfl) (fun _ _ _ h => h) (by kernel_rfl) (by assumption) ?_
            try simp only [Act.put, List.setIfInBounds_toArray, List.set_cons_zero, List.set_cons_succ]
            refine skipD (i := 44) (some 106) rfl rfl (by kernel_rfl) (by kernel_rfl) (by kernel_rfl) (fun _ _ _ h => h) (by kernel_rfl) (by assumption) ?_
            try simp only [Act.put, List.setIfInBounds_toArray, List.set_cons_zero, List.set_cons_succ]
            refine skipD (i := 45) (some 107) rfl rfl (by kernel_rfl) (by kernel_rfl) (by kernel_rfl) (fun _ _ _ h => h) (by kernel_rfl) (by assumption) ?_
            try simp only [Act.put, List.setIfInBounds_toArray, List.set_cons_zero, List.set_cons_succ]
            refine skipD (i := 46) (some 108) rfl rfl (by kernel_rfl) (by kernel_rfl) (by kernel_rfl) (fun _ _ _ h => h) (by kernel_rfl) (by assumption) ?_
            try simp only [Act.put, List.setIfInBounds_toArray, List.set_cons_zero, List.set_cons_succ]
            refine skipD (i := 47) (some 109) rfl rfl (by kernel_rfl) (by kernel_rfl) (by kernel_rfl) (fun _ _ _ h => h) (by kernel_rfl) (by assumption) ?_
            try simp only [Act.put, List.setIfInBounds_toArray, List.set_cons_zero, List.set_cons_succ]
            refine skipD (i := 48) (some 110) rfl rfl (by kernel_rfl) (by kernel_rfl) (by kernel_rfl) (fun _ _ _ h => h) (by kernel_rfl) (by assumption) ?_
            try simp only [Act.put, List.setIfInBounds_toArray, List.set_cons_zero, List.set_cons_succ]
            refine skipD (i := 49) (some 111) rfl rfl (by kernel_rfl) (by kernel_rfl) (by kernel_rfl) (fun _ _ _ h => h) (by kernel_rfl) (by assumption) ?_
            try simp only [Act.put, List.setIfInBounds_toArray, List.set_cons_zero, List.set_cons_succ]
            refine skipD (i := 50) (some 112) rfl rfl (by kernel_rfl) (by kernel_rfl) (by kernel_rfl) (fun _ _ _ h => h) (by kernel_rfl) (by assumption) ?_
            try simp only [Act.put, List.setIfInBounds_toArray, List.set_cons_zero, List.set_cons_succ]
            refine takeD (i := 51) (some 113) (v := ?_) rfl rfl (by kernel_rfl) (by kernel_rfl) (by kernel_rfl) (fun _ _ _ h => h) (by kernel_rfl) ?_ (by assumption) ?_
            rotate_left
            · intro wx hSw
              obtain ⟨hS1, hS2, hS3, hS4, hS5, hS6⟩ := hSw
              go_simp
              try (with_reducible rfl)
            try simp only [Act.put, List.setIfInBounds_toArray, List.set_cons_zero, List.set_cons_succ]
            refine takeD (i := 52) (some 114) (v := ?_) rfl rfl (by kernel_rfl) (by kernel_rfl) (by kernel_rfl) (fun _ _ _ h => h) (by kernel_rfl) ?_ (by assumption) ?_
            rotate_left
            · intro wx hSw
              obtain ⟨hS1, hS2, hS3, hS4, hS5, hS6⟩ := hSw
              go_simp
              try (with_reducible rfl)
            try simp only [Act.put, List.setIfInBounds_toArray, List.set_cons_zero, List.set_cons_succ]
            refine skipD (i := 53) (some 115) rfl rfl (by kernel_rfl) (by kernel_rfl) (by kernel_rfl) (fun _ _ _ h => h) (by kernel_rfl) (by assumption) ?_
            try simp only [Act.put, List.setIfInBounds_toArray, List.set_cons_zero, List.set_cons_succ]
            refine skipD (i := 54) (some 116) rfl rfl (by kernel_rfl) (by kernel_rfl) (by kernel_rfl) (fun _ _ _ h => h) (by kernel_rfl) (by assumption) ?_
            try simp only [Act.put, List.setIfInBounds_toArray, List.set_cons_zero, List.set_cons_succ]
            refine skipD (i := 55) (some 117) rfl rfl (by kernel_rfl) (by kernel_rfl) (by kernel_rfl) (fun _ _ _ h => h) (by kernel_rfl) (by assumption) ?_
            try simp only [Act.put, List.setIfInBounds_toArray, List.set_cons_zero, List.set_cons_succ]
            refine skipD (i := 56) (some 118) rfl rfl (by kernel_rfl) (by kernel_rfl) (by kernel_rfl) (fun _ _ _ h => h) (by kernel_rfl) (by assumption) ?_
            try simp only [Act.put, List.setIfInBounds_toArray, List.set_cons_zero, List.set_cons_succ]
            refine skipD (i := 57) (some 119) rfl rfl (by kernel_rfl) (by kernel_rfl) (by kernel_rfl) (fun _ _ _ h => h) (by kernel_rfl) (by assumption) ?_
            try simp only [Act.put, List.setIfInBounds_toArray, List.set_cons_zero, List.set_cons_succ]
            refine skipD (i := 58) (some 120) rfl rfl (by kernel_rfl) (by kernel_rfl) (by kernel_rfl) (fun _ _ _ h => h) (by kernel_rfl) (by assumption) ?_
            try simp only [Act.put, List.setIfInBounds_toArray, List.set_cons_zero, List.set_cons_succ]
            refine skipD (i := 59) (some 121) rfl rfl (by kernel_rfl) (by kernel_rfl) (by kernel_rfl) (fun _ _ _ h => h) (by kernel_rfl) (by assumption) ?_
            try simp only [Act.put, List.setIfInBounds_toArray, List.set_cons_zero, List.set_cons_succ]
            refine skipD (i := 60) (some 122) rfl rfl (by kernel_rfl) (by kernel_rfl) (by kernel_rfl) (fun _ _ _ h => h) (by kernel_rfl) (by assumption) ?_
            try simp only [Act.put, List.setIfInBounds_toArray, List.set_cons_zero, List.set_cons_succ]
            refine skipD (i := 61) (some 123) rfl rfl (by kernel_rfl) (by kernel_rfl) (by kernel_rfl) (fun _ _ _ h => h) (by kernel_rfl) (by assumption) ?_
            try simp only [Act.put, List.setIfInBounds_toArray, List.set_cons_zero, List.set_cons_succ]
            refine skipD (i := 62) (some 124) rfl rfl (by kernel_rfl) (by kernel_rfl) (by kernel_rfl) (fun _ _ _ h => h) (by kernel_rfl) (by assumption) ?_
            try simp only [Act.put, List.setIfInBounds_toArray, List.set_cons_zero, List.set_cons_succ]
            refine skipD (i := 63) (some 125) rfl rfl (by kernel_rfl) (by kernel_rfl) (by kernel_rfl) (fun _ _ _ h => h) (by kernel_rfl) (by assumption) ?_
            try simp only [Act.put, List.setIfInBounds_toArray, List.set_cons_zero, List.set_cons_succ]
            refine takeD (i := 64) (some 126) (v := ?_) rfl rfl (by kernel_rfl) (by kernel_rfl) (by kernel_rfl) (fun _ _ _ h => h) (by kernel_rfl) ?_ (by assumption) ?_
            rotate_left
            · intro wx hSw
              obtain ⟨hS1, hS2, hS3, hS4, hS5, hS6⟩ := hSw
              go_simp
              try (with_reducible rfl)
            try simp only [Act.put, List.setIfInBounds_toArray, List.set_cons_zero, List.set_cons_succ]
            refine takeD (i := 65) (some 127) (v := ?_) rfl rfl (by kernel_rfl) (by kernel_rfl) (by kernel_rfl) (fun _ _ _ h => h) (by kernel_rfl) ?_ (by assumption) ?_
            rotate_left
            · intro wx hSw
              obtain ⟨hS1, hS2, hS3, hS4, hS5, hS6⟩ := hSw
              go_simp
              try (with_reducible rfl)
            try simp only [Act.put, List.setIfInBounds_toArray, List.set_cons_zero, List.set_cons_succ]
            refine wpAnyH_done (by kernel_rfl) ?_ _
            clear hHeld
            have hBrd := hBr.drew
            go_wp2_with fail
            go_roundw
            case rel => exact ⟨k + 1, by omega, by go_num, hBrd⟩
            case measure => simp [intOf]; omega
          · have q : pauseAt C (N.u k) (N.p k) = N.p k := by cases N.p k <;> simp [pauseAt] <;> omega
            rw [q] at c2
            have d1 : decide (C.xo ≤ N.u k) = false := decide_eq_false hA1
            have d2 : decide (N.u k ≤ C.xn) = false := decide_eq_false hA2
            have d3 : decide (C.xn < N.u k) = true := decide_eq_true (by omega)
            have d4 : decide (N.u k < C.xo) = true := decide_eq_true (by omega)
            have hbb : (N.p k != N.p k) = false := by simp
            clear q
            go_wp2_with fail
            refine wp_region_held_drew (S := fun w' => (∀ o, w'.cell? ⟨w1.heap.size, o, none⟩ = (#[.int .i64 C.p, .int .i64 C.c, .int .i64 C.xo, .int .i64 C.xn, .int .i64 C.hd, .int .i64 C.lo, .int .i64 C.dl] : Array Value)[o]?) ∧ (∀ o, w'.cell? ⟨gM, o, none⟩ = (#[.slice (some ⟨lu, ku, none⟩) L.nU L.cU, .int .i64 L.lo, .slice (some ⟨lp, kp, none⟩) L.nP L.cP] : Array Value)[o]?) ∧ (∀ o, w'.cell? ⟨w1.heap.size + 1, o, none⟩ = (#[.slice N.aU N.nU N.cU, .int .i64 N.lo, .slice (some ⟨gp, qp, none⟩) N.nP N.cP] : Array Value)[o]?) ∧ w'.cell? ⟨lu, ku + k, none⟩ = some (.int .i64 (N.u k)) ∧ w'.cell? ⟨lp, kp + k, none⟩ = some (.bool (N.p k)) ∧ w'.cell? ⟨gp, qp + k, none⟩ = some (.bool (N.p k))) (by kernel_rfl) ⟨cb, cM, cn, c1, c2, c3⟩ (fun hHeld => ?_)
            refine takeD (i := 0) (some 62) (v := ?_) rfl rfl (by kernel_rfl) (by kernel_rfl) (by kernel_rfl) (fun _ _ _ h => h) (by kernel_rfl) ?_ (by assumption) ?_
            rotate_left
            · intro wx hSw
              obtain ⟨hS1, hS2, hS3, hS4, hS5, hS6⟩ := hSw
              go_simp
              try (with_reducible rfl)
            try simp only [Act.put, List.setIfInBounds_toArray, List.set_cons_zero, List.set_cons_succ]
            refine takeD (i := 1) (some 63) (v := ?_) rfl rfl (by kernel_rfl) (by kernel_rfl) (by kernel_rfl) (fun _ _ _ h => h) (by kernel_rfl) ?_ (by assumption) ?_
            rotate_left
            · intro wx hSw
              obtain ⟨hS1, hS2, hS3, hS4, hS5, hS6⟩ := hSw
              go_simp
              try (with_reducible rfl)
            try simp only [Act.put, List.setIfInBounds_toArray, List.set_cons_zero, List.set_cons_succ]
            refine takeD (i := 2) (some 64) (v := ?_) rfl rfl (by kernel_rfl) (by kernel_rfl) (by kernel_rfl) (fun _ _ _ h => h) (by kernel_rfl) ?_ (by assumption) ?_
            rotate_left
            · intro wx hSw
              obtain ⟨hS1, hS2, hS3, hS4, hS5, hS6⟩ := hSw
              go_simp
              try (with_reducible rfl)
            try simp only [Act.put, List.setIfInBounds_toArray, List.set_cons_zero, List.set_cons_succ]
            refine takeD (i := 3) (some 65) (v := ?_) rfl rfl (by kernel_rfl) (by kernel_rfl) (by kernel_rfl) (fun _ _ _ h => h) (by kernel_rfl) ?_ (by assumption) ?_
            rotate_left
            · intro wx hSw
              obtain ⟨hS1, hS2, hS3, hS4, hS5, hS6⟩ := hSw
              go_simp
              try (with_reducible rfl)
            try simp only [Act.put, List.setIfInBounds_toArray, List.set_cons_zero, List.set_cons_succ]
            refine takeD (i := 4) (some 66) (v := ?_) rfl rfl (by kernel_rfl) (by kernel_rfl) (by kernel_rfl) (fun _ _ _ h => h) (by kernel_rfl) ?_ (by assumption) ?_
            rotate_left
            · intro wx hSw
              obtain ⟨hS1, hS2, hS3, hS4, hS5, hS6⟩ := hSw
              go_simp
              try (with_reducible rfl)
            try simp only [Act.put, List.setIfInBounds_toArray, List.set_cons_zero, List.set_cons_succ]
            refine takeD (i := 5) (some 67) (v := ?_) rfl rfl (by kernel_rfl) (by kernel_rfl) (by kernel_rfl) (fun _ _ _ h => h) (by kernel_rfl) ?_ (by assumption) ?_
            rotate_left
            · intro wx hSw
              obtain ⟨hS1, hS2, hS3, hS4, hS5, hS6⟩ := hSw
              go_simp
              try (with_reducible rfl)
            try simp only [Act.put, List.setIfInBounds_toArray, List.set_cons_zero, List.set_cons_succ]
            refine takeD (i := 6) (some 68) (v := ?_) rfl rfl (by kernel_rfl) (by kernel_rfl) (by kernel_rfl) (fun _ _ _ h => h) (by kernel_rfl) ?_ (by assumption) ?_
            rotate_left
            · intro wx hSw
              obtain ⟨hS1, hS2, hS3, hS4, hS5, hS6⟩ := hSw
              go_simp
              try (with_reducible rfl)
            try simp only [Act.put, List.setIfInBounds_toArray, List.set_cons_zero, List.set_cons_succ]
            refine takeD (i := 7) (some 69) (v := ?_) rfl rfl (by kernel_rfl) (by kernel_rfl) (by kernel_rfl) (fun _ _ _ h => h) (by kernel_rfl) ?_ (by assumption) ?_
            rotate_left
            · intro wx hSw
              obtain ⟨hS1, hS2, hS3, hS4, hS5, hS6⟩ := hSw
              go_simp
              try (with_reducible rfl)
            try simp only [Act.put, List.setIfInBounds_toArray, List.set_cons_zero, List.set_cons_succ]
            refine takeD (i := 8) (some 70) (v := ?_) rfl rfl (by kernel_rfl) (by kernel_rfl) (by kernel_rfl) (fun _ _ _ h => h) (by kernel_rfl) ?_ (by assumption) ?_
            rotate_left
            · intro wx hSw
              obtain ⟨hS1, hS2, hS3, hS4, hS5, hS6⟩ := hSw
              go_simp
              try (with_reducible rfl)
            try simp only [Act.put, List.setIfInBounds_toArray, List.set_cons_zero, List.set_cons_succ]
            refine skipD (i := 9) (some 71) rfl rfl (by kernel_rfl) (by kernel_rfl) (by kernel_rfl) (fun _ _ _ h => h) (by kernel_rfl) (by assumption) ?_
            try simp only [Act.put, List.setIfInBounds_toArray, List.set_cons_zero, List.set_cons_succ]
            refine skipD (i := 10) (some 72) rfl rfl (by kernel_rfl) (by kernel_rfl) (by kernel_rfl) (fun _ _ _ h => h) (by kernel_rfl) (by assumption) ?_
            try simp only [Act.put, List.setIfInBounds_toArray, List.set_cons_zero, List.set_cons_succ]
            refine skipD (i := 11) (some 73) rfl rfl (by kernel_rfl) (by kernel_rfl) (by kernel_rfl) (fun _ _ _ h => h) (by kernel_rfl) (by assumption) ?_
            try simp only [Act.put, List.setIfInBounds_toArray, List.set_cons_zero, List.set_cons_succ]
            refine skipD (i := 12) (some 74) rfl rfl (by kernel_rfl) (by kernel_rfl) (by kernel_rfl) (fun _ _ _ h => h) (by kernel_rfl) (by assumption) ?_
            try simp only [Act.put, List.setIfInBounds_toArray, List.set_cons_zero, List.set_cons_succ]
            refine skipD (i := 13) (some 75) rfl rfl (by kernel_rfl) (by kernel_rfl) (by kernel_rfl) (fun _ _ _ h => h) (by kernel_rfl) (by assumption) ?_
            try simp only [Act.put, List.setIfInBounds_toArray, List.set_cons_zero, List.set_cons_succ]
            refine skipD (i := 14) (some 76) rfl rfl (by kernel_rfl) (by kernel_rfl) (by kernel_rfl) (fun _ _ _ h => h) (by kernel_rfl) (by assumption) ?_
            try simp only [Act.put, List.setIfInBounds_toArray, List.set_cons_zero, List.set_cons_succ]
            refine takeD (i := 15) (some 77) (v := ?_) rfl rfl (by kernel_rfl) (by kernel_rfl) (by kernel_rfl) (fun _ _ _ h => h) (by kernel_rfl) ?_ (by assumption) ?_
            rotate_left
            · intro wx hSw
              obtain ⟨hS1, hS2, hS3, hS4, hS5, hS6⟩ := hSw
              go_simp
              try (with_reducible rfl)
            try simp only [Act.put, List.setIfInBounds_toArray, List.set_cons_zero, List.set_cons_succ]
            refine takeD (i := 16) (some 78) (v := ?_) rfl rfl (by kernel_rfl) (by kernel_rfl) (by kernel_rfl) (fun _ _ _ h => h) (by kernel_rfl) ?_ (by assumption) ?_
            rotate_left
            · intro wx hSw
              obtain ⟨hS1, hS2, hS3, hS4, hS5, hS6⟩ := hSw
              go_simp
              try (with_reducible rfl)
            try simp only [Act.put, List.setIfInBounds_toArray, List.set_cons_zero, List.set_cons_succ]
            refine takeD (i := 17) (some 79) (v := ?_) rfl rfl (by kernel_rfl) (by kernel_rfl) (by kernel_rfl) (fun _ _ _ h => h) (by kernel_rfl) ?_ (by assumption) ?_
            rotate_left
            · intro wx hSw
              obtain ⟨hS1, hS2, hS3, hS4, hS5, hS6⟩ := hSw
              go_simp
              try (with_reducible rfl)
            try simp only [Act.put, List.setIfInBounds_toArray, List.set_cons_zero, List.set_cons_succ]
            refine takeD (i := 18) (some 80) (v := ?_) rfl rfl (by kernel_rfl) (by kernel_rfl) (by kernel_rfl) (fun _ _ _ h => h) (by kernel_rfl) ?_ (by assumption) ?_
            rotate_left
            · intro wx hSw
              obtain ⟨hS1, hS2, hS3, hS4, hS5, hS6⟩ := hSw
              go_simp
              try (with_reducible rfl)
            try simp only [Act.put, List.setIfInBounds_toArray, List.set_cons_zero, List.set_cons_succ]
            refine takeD (i := 19) (some 81) (v := ?_) rfl rfl (by kernel_rfl) (by kernel_rfl) (by kernel_rfl) (fun _ _ _ h => h) (by kernel_rfl) ?_ (by assumption) ?_
            rotate_left
            · intro wx hSw
              obtain ⟨hS1, hS2, hS3, hS4, hS5, hS6⟩ := hSw
              go_simp
              try (with_reducible rfl)
            try simp only [Act.put, List.setIfInBounds_toArray, List.set_cons_zero, List.set_cons_succ]
            refine takeD (i := 20) (some 82) (v := ?_) rfl rfl (by kernel_rfl) (by kernel_rfl) (by kernel_rfl) (fun _ _ _ h => h) (by kernel_rfl) ?_ (by assumption) ?_
            rotate_left
            · intro wx hSw
              obtain ⟨hS1, hS2, hS3, hS4, hS5, hS6⟩ := hSw
              go_simp
              try (with_reducible rfl)
            try simp only [Act.put, List.setIfInBounds_toArray, List.set_cons_zero, List.set_cons_succ]
            refine takeD (i := 21) (some 83) (v := ?_) rfl rfl (by kernel_rfl) (by kernel_rfl) (by kernel_rfl) (fun _ _ _ h => h) (by kernel_rfl) ?_ (by assumption) ?_
            rotate_left
            · intro wx hSw
              obtain ⟨hS1, hS2, hS3, hS4, hS5, hS6⟩ := hSw
              go_simp
              try (with_reducible rfl)
            try simp only [Act.put, List.setIfInBounds_toArray, List.set_cons_zero, List.set_cons_succ]
            refine takeD (i := 22) (some 84) (v := ?_) rfl rfl (by kernel_rfl) (by kernel_rfl) (by kernel_rfl) (fun _ _ _ h => h) (by kernel_rfl) ?_ (by assumption) ?_
            rotate_left
            · intro wx hSw
              obtain ⟨hS1, hS2, hS3, hS4, hS5, hS6⟩ := hSw
              go_simp
              try (with_reducible rfl)
            try simp only [Act.put, List.setIfInBounds_toArray, List.set_cons_zero, List.set_cons_succ]
            refine takeD (i := 23) (some 85) (v := ?_) rfl rfl (by kernel_rfl) (by kernel_rfl) (by kernel_rfl) (fun _ _ _ h => h) (by kernel_rfl) ?_ (by assumption) ?_
            rotate_left
            · intro wx hSw
              obtain ⟨hS1, hS2, hS3, hS4, hS5, hS6⟩ := hSw
              go_simp
              try (with_reducible rfl)
            try simp only [Act.put, List.setIfInBounds_toArray, List.set_cons_zero, List.set_cons_succ]
            refine takeD (i := 24) (some 86) (v := ?_) rfl rfl (by kernel_rfl) (by kernel_rfl) (by kernel_rfl) (fun _ _ _ h => h) (by kernel_rfl) ?_ (by assumption) ?_
            rotate_left
            · intro wx hSw
              obtain ⟨hS1, hS2, hS3, hS4, hS5, hS6⟩ := hSw
              go_simp
              try (with_reducible rfl)
            try simp only [Act.put, List.setIfInBounds_toArray, List.set_cons_zero, List.set_cons_succ]
            refine takeD (i := 25) (some 87) (v := ?_) rfl rfl (by kernel_rfl) (by kernel_rfl) (by kernel_rfl) (fun _ _ _ h => h) (by kernel_rfl) ?_ (by assumption) ?_
            rotate_left
            · intro wx hSw
              obtain ⟨hS1, hS2, hS3, hS4, hS5, hS6⟩ := hSw
              go_simp
              try (with_reducible rfl)
            try simp only [Act.put, List.setIfInBounds_toArray, List.set_cons_zero, List.set_cons_succ]
            refine skipD (i := 26) (some 88) rfl rfl (by kernel_rfl) (by kernel_rfl) (by kernel_rfl) (fun _ _ _ h => h) (by kernel_rfl) (by assumption) ?_
            try simp only [Act.put, List.setIfInBounds_toArray, List.set_cons_zero, List.set_cons_succ]
            refine skipD (i := 27) (some 89) rfl rfl (by kernel_rfl) (by kernel_rfl) (by kernel_rfl) (fun _ _ _ h => h) (by kernel_rfl) (by assumption) ?_
            try simp only [Act.put, List.setIfInBounds_toArray, List.set_cons_zero, List.set_cons_succ]
            refine skipD (i := 28) (some 90) rfl rfl (by kernel_rfl) (by kernel_rfl) (by kernel_rfl) (fun _ _ _ h => h) (by kernel_rfl) (by assumption) ?_
            try simp only [Act.put, List.setIfInBounds_toArray, List.set_cons_zero, List.set_cons_succ]
            refine skipD (i := 29) (some 91) rfl rfl (by kernel_rfl) (by kernel_rfl) (by kernel_rfl) (fun _ _ _ h => h) (by kernel_rfl) (by assumption) ?_
            try simp only [Act.put, List.setIfInBounds_toArray, List.set_cons_zero, List.set_cons_succ]
            refine skipD (i := 30) (some 92) rfl rfl (by kernel_rfl) (by kernel_rfl) (by kernel_rfl) (fun _ _ _ h => h) (by kernel_rfl) (by assumption) ?_
            try simp only [Act.put, List.setIfInBounds_toArray, List.set_cons_zero, List.set_cons_succ]
            refine takeD (i := 31) (some 93) (v := ?_) rfl rfl (by kernel_rfl) (by kernel_rfl) (by kernel_rfl) (fun _ _ _ h => h) (by kernel_rfl) ?_ (by assumption) ?_
            rotate_left
            · intro wx hSw
              obtain ⟨hS1, hS2, hS3, hS4, hS5, hS6⟩ := hSw
              go_simp
              try (with_reducible rfl)
            try simp only [Act.put, List.setIfInBounds_toArray, List.set_cons_zero, List.set_cons_succ]
            refine takeD (i := 32) (some 94) (v := ?_) rfl rfl (by kernel_rfl) (by kernel_rfl) (by kernel_rfl) (fun _ _ _ h => h) (by kernel_rfl) ?_ (by assumption) ?_
            rotate_left
            · intro wx hSw
              obtain ⟨hS1, hS2, hS3, hS4, hS5, hS6⟩ := hSw
              go_simp
              try (with_reducible rfl)
            try simp only [Act.put, List.setIfInBounds_toArray, List.set_cons_zero, List.set_cons_succ]
            refine takeD (i := 33) (some 95) (v := ?_) rfl rfl (by kernel_rfl) (by kernel_rfl) (by kernel_rfl) (fun _ _ _ h => h) (by kernel_rfl) ?_ (by assumption) ?_
            rotate_left
            · intro wx hSw
              obtain ⟨hS1, hS2, hS3, hS4, hS5, hS6⟩ := hSw
              go_simp
              try (with_reducible rfl)
            try simp only [Act.put, List.setIfInBounds_toArray, List.set_cons_zero, List.set_cons_succ]
            refine takeD (i := 34) (some 96) (v := ?_) rfl rfl (by kernel_rfl) (by kernel_rfl) (by kernel_rfl) (fun _ _ _ h => h) (by kernel_rfl) ?_ (by assumption) ?_
            rotate_left
            · intro wx hSw
              obtain ⟨hS1, hS2, hS3, hS4, hS5, hS6⟩ := hSw
              go_simp
              try (with_reducible rfl)
            try simp only [Act.put, List.setIfInBounds_toArray, List.set_cons_zero, List.set_cons_succ]
            refine takeD (i := 35) (some 97) (v := ?_) rfl rfl (by kernel_rfl) (by kernel_rfl) (by kernel_rfl) (fun _ _ _ h => h) (by kernel_rfl) ?_ (by assumption) ?_
            rotate_left
            · intro wx hSw
              obtain ⟨hS1, hS2, hS3, hS4, hS5, hS6⟩ := hSw
              go_simp
              try (with_reducible rfl)
            try simp only [Act.put, List.setIfInBounds_toArray, List.set_cons_zero, List.set_cons_succ]
            refine takeD (i := 36) (some 98) (v := ?_) rfl rfl (by kernel_rfl) (by kernel_rfl) (by kernel_rfl) (fun _ _ _ h => h) (by kernel_rfl) ?_ (by assumption) ?_
            rotate_left
            · intro wx hSw
              obtain ⟨hS1, hS2, hS3, hS4, hS5, hS6⟩ := hSw
              go_simp
              try (with_reducible rfl)
            try simp only [Act.put, List.setIfInBounds_toArray, List.set_cons_zero, List.set_cons_succ]
            refine takeD (i := 37) (some 99) (v := ?_) rfl rfl (by kernel_rfl) (by kernel_rfl) (by kernel_rfl) (fun _ _ _ h => h) (by kernel_rfl) ?_ (by assumption) ?_
            rotate_left
            · intro wx hSw
              obtain ⟨hS1, hS2, hS3, hS4, hS5, hS6⟩ := hSw
              go_simp
              try (with_reducible rfl)
            try simp only [Act.put, List.setIfInBounds_toArray, List.set_cons_zero, List.set_cons_succ]
            refine takeD (i := 38) (some 100) (v := ?_) rfl rfl (by kernel_rfl) (by kernel_rfl) (by kernel_rfl) (fun _ _ _ h => h) (by kernel_rfl) ?_ (by assumption) ?_
            rotate_left
            · intro wx hSw
              obtain ⟨hS1, hS2, hS3, hS4, hS5, hS6⟩ := hSw
              go_simp
              try (with_reducible rfl)
            try simp only [Act.put, List.setIfInBounds_toArray, List.set_cons_zero, List.set_cons_succ]
            refine takeD (i := 39) (some 101) (v := ?_) rfl rfl (by kernel_rfl) (by kernel_rfl) (by kernel_rfl) (fun _ _ _ h => h) (by kernel_rfl) ?_ (by assumption) ?_
            rotate_left
            · intro wx hSw
              obtain ⟨hS1, hS2, hS3, hS4, hS5, hS6⟩ := hSw
              go_simp
              try (with_reducible rfl)
            try simp only [Act.put, List.setIfInBounds_toArray, List.set_cons_zero, List.set_cons_succ]
            refine takeD (i := 40) (some 102) (v := ?_) rfl rfl (by kernel_rfl) (by kernel_rfl) (by kernel_rfl) (fun _ _ _ h => h) (by kernel_rfl) ?_ (by assumption) ?_
            rotate_left
            · intro wx hSw
              obtain ⟨hS1, hS2, hS3, hS4, hS5, hS6⟩ := hSw
              go_simp
              try (with_reducible rfl)
            try simp only [Act.put, List.setIfInBounds_toArray, List.set_cons_zero, List.set_cons_succ]
            refine takeD (i := 41) (some 103) (v := ?_) rfl rfl (by kernel_rfl) (by kernel_rfl) (by kernel_rfl) (fun _ _ _ h => h) (by kernel_rfl) ?_ (by assumption) ?_
            rotate_left
            · intro wx hSw
              obtain ⟨hS1, hS2, hS3, hS4, hS5, hS6⟩ := hSw
              go_simp
              try (with_reducible rfl)
            try simp only [Act.put, List.setIfInBounds_toArray, List.set_cons_zero, List.set_cons_succ]
            refine takeD (i := 42) (some 104) (v := ?_) rfl rfl (by kernel_rfl) (by kernel_rfl) (by kernel_rfl) (fun _ _ _ h => h) (by kernel_rfl) ?_ (by assumption) ?_
            rotate_left
            · intro wx hSw
              obtain ⟨hS1, hS2, hS3, hS4, hS5, hS6⟩ := hSw
              go_simp
              try (with_reducible rfl)
            try simp only [Act.put, List.setIfInBounds_toArray, List.set_cons_zero, List.set_cons_succ]
            refine takeD (i := 43) (some 105) (v := ?_) rfl rfl (by kernel_rfl) (by kernel_rfl) (by kernel_rfl) (fun _ _ _ h => h) (by kernel_rfl) ?_ (by assumption) ?_
            rotate_left
            · intro wx hSw
              obtain ⟨hS1, hS2, hS3, hS4, hS5, hS6⟩ := hSw
              go_simp
              try (with_reducible rfl)
            try simp only [Act.put, List.setIfInBounds_toArray, List.set_cons_zero, List.set_cons_succ]
            refine takeD (i := 44) (some 106) (v := ?_) rfl rfl (by kernel_rfl) (by kernel_rfl) (by kernel_rfl) (fun _ _ _ h => h) (by kernel_rfl) ?_ (by assumption) ?_
            rotate_left
            · intro wx hSw
              obtain ⟨hS1, hS2, hS3, hS4, hS5, hS6⟩ := hSw
              go_simp
              try (with_reducible rfl)
            try simp only [Act.put, List.setIfInBounds_toArray, List.set_cons_zero, List.set_cons_succ]
            refine takeD (i := 45) (some 107) (v := ?_) rfl rfl (by kernel_rfl) (by kernel_rfl) (by kernel_rfl) (fun _ _ _ h => h) (by kernel_rfl) ?_ (by assumption) ?_
            rotate_left
            · intro wx hSw
              obtain ⟨hS1, hS2, hS3, hS4, hS5, hS6⟩ := hSw
              go_simp
              try (with_reducible rfl)
            try simp only [Act.put, List.setIfInBounds_toArray, List.set_cons_zero, List.set_cons_succ]
            refine takeD (i := 46) (some 108) (v := ?_) rfl rfl (by kernel_rfl) (by kernel_rfl) (by kernel_rfl) (fun _ _ _ h => h) (by kernel_rfl) ?_ (by assumption) ?_
            rotate_left
            · intro wx hSw
              obtain ⟨hS1, hS2, hS3, hS4, hS5, hS6⟩ := hSw
              go_simp
              try (with_reducible rfl)
            try simp only [Act.put, List.setIfInBounds_toArray, List.set_cons_zero, List.set_cons_succ]
            refine takeD (i := 47) (some 109) (v := ?_) rfl rfl (by kernel_rfl) (by kernel_rfl) (by kernel_rfl) (fun _ _ _ h => h) (by kernel_rfl) ?_ (by assumption) ?_
            rotate_left
            · intro wx hSw
              obtain ⟨hS1, hS2, hS3, hS4, hS5, hS6⟩ := hSw
              go_simp
              try (with_reducible rfl)
            try simp only [Act.put, List.setIfInBounds_toArray, List.set_cons_zero, List.set_cons_succ]
            refine takeD (i := 48) (some 110) (v := ?_) rfl rfl (by kernel_rfl) (by kernel_rfl) (by kernel_rfl) (fun _ _ _ h => h) (by kernel_rfl) ?_ (by assumption) ?_
            rotate_left
            · intro wx hSw
              obtain ⟨hS1, hS2, hS3, hS4, hS5, hS6⟩ := hSw
              go_simp
              try (with_reducible rfl)
            try simp only [Act.put, List.setIfInBounds_toArray, List.set_cons_zero, List.set_cons_succ]
            refine takeD (i := 49) (some 111) (v := ?_) rfl rfl (by kernel_rfl) (by kernel_rfl) (by kernel_rfl) (fun _ _ _ h => h) (by kernel_rfl) ?_ (by assumption) ?_
            rotate_left
            · intro wx hSw
              obtain ⟨hS1, hS2, hS3, hS4, hS5, hS6⟩ := hSw
              go_simp
              try (with_reducible rfl)
            try simp only [Act.put, List.setIfInBounds_toArray, List.set_cons_zero, List.set_cons_succ]
            refine takeD (i := 50) (some 112) (v := ?_) rfl rfl (by kernel_rfl) (by kernel_rfl) (by kernel_rfl) (fun _ _ _ h => h) (by kernel_rfl) ?_ (by assumption) ?_
            rotate_left
            · intro wx hSw
              obtain ⟨hS1, hS2, hS3, hS4, hS5, hS6⟩ := hSw
              go_simp
              try (with_reducible rfl)
            try simp only [Act.put, List.setIfInBounds_toArray, List.set_cons_zero, List.set_cons_succ]
            refine takeD (i := 51) (some 113) (v := ?_) rfl rfl (by kernel_rfl) (by kernel_rfl) (by kernel_rfl) (fun _ _ _ h => h) (by kernel_rfl) ?_ (by assumption) ?_
            rotate_left
            · intro wx hSw
              obtain ⟨hS1, hS2, hS3, hS4, hS5, hS6⟩ := hSw
              go_simp
              try (with_reducible rfl)
            try simp only [Act.put, List.setIfInBounds_toArray, List.set_cons_zero, List.set_cons_succ]
            refine takeD (i := 52) (some 114) (v := ?_) rfl rfl (by kernel_rfl) (by kernel_rfl) (by kernel_rfl) (fun _ _ _ h => h) (by kernel_rfl) ?_ (by assumption) ?_
            rotate_left
            · intro wx hSw
              obtain ⟨hS1, hS2, hS3, hS4, hS5, hS6⟩ := hSw
              go_simp
              try (with_reducible rfl)
            try simp only [Act.put, List.setIfInBounds_toArray, List.set_cons_zero, List.set_cons_succ]
            refine takeD (i := 53) (some 115) (v := ?_) rfl rfl (by kernel_rfl) (by kernel_rfl) (by kernel_rfl) (fun _ _ _ h => h) (by kernel_rfl) ?_ (by assumption) ?_
            rotate_left
            · intro wx hSw
              obtain ⟨hS1, hS2, hS3, hS4, hS5, hS6⟩ := hSw
              go_simp
              try (with_reducible rfl)
            try simp only [Act.put, List.setIfInBounds_toArray, List.set_cons_zero, List.set_cons_succ]
            refine takeD (i := 54) (some 116) (v := ?_) rfl rfl (by kernel_rfl) (by kernel_rfl) (by kernel_rfl) (fun _ _ _ h => h) (by kernel_rfl) ?_ (by assumption) ?_
            rotate_left
            · intro wx hSw
              obtain ⟨hS1, hS2, hS3, hS4, hS5, hS6⟩ := hSw
              go_simp
              try (with_reducible rfl)
            try simp only [Act.put, List.setIfInBounds_toArray, List.set_cons_zero, List.set_cons_succ]
            refine takeD (i := 55) (some 117) (v := ?_) rfl rfl (by kernel_rfl) (by kernel_rfl) (by kernel_rfl) (fun _ _ _ h => h) (by kernel_rfl) ?_ (by assumption) ?_
            rotate_left
            · intro wx hSw
              obtain ⟨hS1, hS2, hS3, hS4, hS5, hS6⟩ := hSw
              go_simp
              try (with_reducible rfl)
            try simp only [Act.put, List.setIfInBounds_toArray, List.set_cons_zero, List.set_cons_succ]
            refine takeD (i := 56) (some 118) (v := ?_) rfl rfl (by kernel_rfl) (by kernel_rfl) (by kernel_rfl) (fun _ _ _ h => h) (by kernel_rfl) ?_ (by assumption) ?_
            rotate_left
            · intro wx hSw
              obtain ⟨hS1, hS2, hS3, hS4, hS5, hS6⟩ := hSw
              go_simp
              try (with_reducible rfl)
            try simp only [Act.put, List.setIfInBounds_toArray, List.set_cons_zero, List.set_cons_succ]
            refine takeD (i := 57) (some 119) (v := ?_) rfl rfl (by kernel_rfl) (by kernel_rfl) (by kernel_rfl) (fun _ _ _ h => h) (by kernel_rfl) ?_ (by assumption) ?_
            rotate_left
            · intro wx hSw
              obtain ⟨hS1, hS2, hS3, hS4, hS5, hS6⟩ := hSw
              go_simp
              try (with_reducible rfl)
            try simp only [Act.put, List.setIfInBounds_toArray, List.set_cons_zero, List.set_cons_succ]
            refine takeD (i := 58) (some 120) (v := ?_) rfl rfl (by kernel_rfl) (by kernel_rfl) (by kernel_rfl) (fun _ _ _ h => h) (by kernel_rfl) ?_ (by assumption) ?_
            rotate_left
            · intro wx hSw
              obtain ⟨hS1, hS2, hS3, hS4, hS5, hS6⟩ := hSw
              go_simp
              try (with_reducible rfl)
            try simp only [Act.put, List.setIfInBounds_toArray, List.set_cons_zero, List.set_cons_succ]
            refine takeD (i := 59) (some 121) (v := ?_) rfl rfl (by kernel_rfl) (by kernel_rfl) (by kernel_rfl) (fun _ _ _ h => h) (by kernel_rfl) ?_ (by assumption) ?_
            rotate_left
            · intro wx hSw
              obtain ⟨hS1, hS2, hS3, hS4, hS5, hS6⟩ := hSw
              go_simp
              try (with_reducible rfl)
            try simp only [Act.put, List.setIfInBounds_toArray, List.set_cons_zero, List.set_cons_succ]
            refine takeD (i := 60) (some 122) (v := ?_) rfl rfl (by kernel_rfl) (by kernel_rfl) (by kernel_rfl) (fun _ _ _ h => h) (by kernel_rfl) ?_ (by assumption) ?_
            rotate_left
            · intro wx hSw
              obtain ⟨hS1, hS2, hS3, hS4, hS5, hS6⟩ := hSw
              go_simp
              try (with_reducible rfl)
            try simp only [Act.put, List.setIfInBounds_toArray, List.set_cons_zero, List.set_cons_succ]
            refine takeD (i := 61) (some 123) (v := ?_) rfl rfl (by kernel_rfl) (by kernel_rfl) (by kernel_rfl) (fun _ _ _ h => h) (by kernel_rfl) ?_ (by assumption) ?_
            rotate_left
            · intro wx hSw
              obtain ⟨hS1, hS2, hS3, hS4, hS5, hS6⟩ := hSw
              go_simp
              try (with_reducible rfl)
            try simp only [Act.put, List.setIfInBounds_toArray, List.set_cons_zero, List.set_cons_succ]
            refine takeD (i := 62) (some 124) (v := ?_) rfl rfl (by kernel_rfl) (by kernel_rfl) (by kernel_rfl) (fun _ _ _ h => h) (by kernel_rfl) ?_ (by assumption) ?_
            rotate_left
            · intro wx hSw
              obtain ⟨hS1, hS2, hS3, hS4, hS5, hS6⟩ := hSw
              go_simp
              try (with_reducible rfl)
            try simp only [Act.put, List.setIfInBounds_toArray, List.set_cons_zero, List.set_cons_succ]
            refine takeD (i := 63) (some 125) (v := ?_) rfl rfl (by kernel_rfl) (by kernel_rfl) (by kernel_rfl) (fun _ _ _ h => h) (by kernel_rfl) ?_ (by assumption) ?_
            rotate_left
            · intro wx hSw
              obtain ⟨hS1, hS2, hS3, hS4, hS5, hS6⟩ := hSw
              go_simp
              try (with_reducible rfl)
            try simp only [Act.put, List.setIfInBounds_toArray, List.set_cons_zero, List.set_cons_succ]
            refine takeD (i := 64) (some 126) (v := ?_) rfl rfl (by kernel_rfl) (by kernel_rfl) (by kernel_rfl) (fun _ _ _ h => h) (by kernel_rfl) ?_ (by assumption) ?_
            rotate_left
            · intro wx hSw
              obtain ⟨hS1, hS2, hS3, hS4, hS5, hS6⟩ := hSw
              go_simp
              try (with_reducible rfl)
            try simp only [Act.put, List.setIfInBounds_toArray, List.set_cons_zero, List.set_cons_succ]
            refine takeD (i := 65) (some 127) (v := ?_) rfl rfl (by kernel_rfl) (by kernel_rfl) (by kernel_rfl) (fun _ _ _ h => h) (by kernel_rfl) ?_ (by assumption) ?_
            rotate_left
            · intro wx hSw
              obtain ⟨hS1, hS2, hS3, hS4, hS5, hS6⟩ := hSw
              go_simp
              try (with_reducible rfl)
            try simp only [Act.put, List.setIfInBounds_toArray, List.set_cons_zero, List.set_cons_succ]
            refine wpAnyH_done (by kernel_rfl) ?_ _
            clear hHeld
            have hBrd := hBr.drew
            go_wp2_with fail
            go_roundw
            case rel => exact ⟨k + 1, by omega, by go_num, hBrd⟩
            case measure => simp [intOf]; omega
      · obtain rfl : k = N.nU := by omega
        have hb := hBr
        replace hN := hN.up hb
        replace hL := hL.up hb
        replace kM := (hb.block _ (blk_lt kM)).trans kM
        replace hB := next2 hB hb
        clear hb hBk kMk hBr hL2 hT2 kW hT
        have cb := (boxed2 hB).1
        have cn := (boxed2 hB).2
        have cM := blk_cell kM
        have hOL : Hid (Cnt.Ok C L) := HAL.out.ok.2 HOK.out.sig
        have hz : Hid (toldC C L true = []) := by
          show toldL C L.u L.p L.nU = []
          rw [HLu.out, HLp.out]
          exact told_idem (by omega) _
        go_wp2_with fail
        refine (iSignals_any C L _ HLs.out.fit hL true ⟨fun _ => hOL.out, fun _ => rfl⟩).mono ?_
        rintro e wa ⟨L3, aT3, cT3, rfl, hSA⟩
        rw [hz.out]
        have hb := hSA.b
        clear hSA cb cn cM
        replace hN := hN.up hb
        replace hL := hL.up hb
        replace kM := (hb.block _ (blk_lt kM)).trans kM
        replace hB := next2 hB hb
        clear hb
        have hA := (Below.refl wa.heap.size wa).alloc (Nat.le_refl _) (.cells #[.slice L3.aU L3.nU L3.cU, .int .i64 L3.lo, .slice L3.aP L3.nP L3.cP] 29)
        replace hN := hN.up hA
        replace hL := hL.up hA
        replace kM := (hA.block _ (blk_lt kM)).trans kM
        replace hB := next2 hB hA
        clear hA
        have cn := (boxed2 hB).2
        have cM := blk_cell kM
        rw [hnU.out, HLl.out] at cM
        dsimp only [Cnt.cells, List.length_nil]
        have hnl : Hid (((toldC C N true).length : Int) ≤ N.nU) := by
          have := toldL_len C N.u N.p N.nU
          show ((toldL C N.u N.p N.nU).length : Int) ≤ N.nU
          omega
        have hnl2 := hnl.out
        generalize (toldC C N true).length = nT at *
        go_wp2_with fail
        generalize wa.alloc (.cells #[.slice L3.aU L3.nU L3.cU, .int .i64 L3.lo, .slice L3.aP L3.nP L3.cP] 29) = wb at *
        refine (sameInts_any L.aU N.aU N.nU L.cU N.cU N.u _ (by omega) (by have := hL.u; rw [HLu.out, hnU.out] at this; exact this) hN.u).mono ?_
        rintro e wc ⟨rfl, hSm⟩
        have hb := hSm.below wb.heap.size
        clear hSm cn cM
        replace hN := hN.up hb
        replace hL := hL.up hb
        replace kM := (hb.block _ (blk_lt kM)).trans kM
        replace hB := next2 hB hb
        clear hb
        have cn := (boxed2 hB).2
        have cM := blk_cell kM
        rw [hnU.out, HLl.out] at cM
        have B := B1.trans ((under2 hB).mono B1.size)
        clear hB hN hL kM
        go_wp2_with fail
        go_ret
        exact ⟨rfl, B⟩
end Go.Proofs.Ytpldaohflojkmaa
