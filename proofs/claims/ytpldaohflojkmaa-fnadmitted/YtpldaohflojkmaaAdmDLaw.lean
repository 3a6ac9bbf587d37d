/- What is admitted and released again leaves the counts as they were: on every drawn counts the law answers true. -/
import Derived.Test.YtpldaohflojkmaaDAdm
import Derived.Test.YtpldaohflojkmaaDSame
namespace Go.Proofs.Ytpldaohflojkmaa
open Go.RowKit
set_option linter.unusedVariables false
set_option linter.unusedSimpArgs false

theorem addU_back (u : Nat → Int) (i : Nat) (y : Int) : addU (addU u i y) i (-y) = u := by
  funext k
  unfold addU
  by_cases e : k = i
  · simp [e]; omega
  · simp [e]
theorem addN_back (N : Cnt) (a b y : Int) : AlikeC (addN (addN N a b y) a b (-y)) N := by
  unfold addN
  by_cases e : b = 2
  · simp only [if_pos e]
    exact ⟨rfl, (addU_back N.u a.toNat y).symm, rfl, rfl, rfl⟩
  · simp only [if_neg e]
    exact ⟨rfl, rfl, by show N.lo = N.lo + y + -y; omega, rfl, rfl⟩
theorem addN_alike {A B : Cnt} (h : AlikeC A B) (a b y : Int) : AlikeC (addN A a b y) (addN B a b y) := by
  unfold addN
  by_cases e : b = 2
  · simp only [if_pos e]
    exact ⟨h.nU, by show addU B.u _ _ = addU A.u _ _; rw [h.u], h.lo, h.nP, h.p⟩
  · simp only [if_neg e]
    exact ⟨h.nU, h.u, by show B.lo + y = A.lo + y; rw [h.lo], h.nP, h.p⟩
def sumU (lo : Int) (u : Nat → Int) : Nat → Int
  | 0 => lo
  | k + 1 => sumU lo u k + u k
theorem sumU_le {C : Cfg} {N : Cnt} (h : Cnt.Ok C N) (k : Nat) (hk : k ≤ N.nU) : 0 ≤ sumU N.lo N.u k ∧ sumU N.lo N.u k ≤ C.lo + (k : Int) * (C.xo + C.hd) := by
  induction k with
  | zero => have := h.lo; simp only [sumU]; omega
  | succ k ih =>
    have h1 := ih (by omega)
    have h2 := h.u k (by omega)
    have e : ((k + 1 : Nat) : Int) * (C.xo + C.hd) = (k : Int) * (C.xo + C.hd) + (C.xo + C.hd) := by rw [Int.natCast_succ, Int.add_mul, Int.one_mul]
    simp only [sumU]
    omega
theorem sumU_small {C : Cfg} {N : Cnt} (h : Cnt.Ok C N) (k : Nat) (hk : k ≤ N.nU) : 0 ≤ sumU N.lo N.u k ∧ sumU N.lo N.u k ≤ 9000 := by
  have h1 := sumU_le h k hk
  have h2 := h.facts.u.2
  have h3 := h.c.num.xo
  have h4 := h.c.num.hd
  have h5 := h.c.num.lo
  have h6 : (k : Int) = 0 ∨ (k : Int) = 1 ∨ (k : Int) = 2 ∨ (k : Int) = 3 ∨ (k : Int) = 4 := by omega
  refine ⟨h1.1, ?_⟩
  rcases h6 with e | e | e | e | e <;> rw [e] at h1 <;> omega
theorem sumU_all {C : Cfg} {N : Cnt} (h : Cnt.Ok C N) : sumU N.lo N.u N.nU ≤ C.c := by
  have h1 := (sumU_le h N.nU (Nat.le_refl _)).2
  have h2 := h.c.sum
  rw [h.nU] at h1
  omega
set_option maxRecDepth 100000 in
set_option maxHeartbeats 20000000 in
theorem admLaw_any (a : Option Addr) (len cap : Nat) (w : World) (hl : len ≤ maxLen) (hC : len ≤ 1048576 → Code w.heap.size (.slice a len cap) len w) :
    Calls Try.prog 3 #[.slice a len cap] w fun e w' => e = .returned (.bool true) ∧ Below w.heap.size w w' := by
  have HC : Hid (len ≤ 1048576 → Code w.heap.size (.slice a len cap) len w) := hC
  clear hC
  by_cases hbig : 1048576 < (len : Int)
  · go_enter Try.func3, Try.ntmps3
    go_wp2_with fail
    refine (bigC_any a len cap _ hl).mono ?_
    rintro e w' ⟨rfl, hw⟩
    rw [hw, decide_eq_true hbig]
    clear hw w'
    go_wp2_with fail
    go_ret
    exact ⟨rfl, Below.refl _ _⟩
  go_enter Try.func3, Try.ntmps3
  go_wp2_with fail
  refine (bigC_any a len cap _ hl).mono ?_
  rintro e w' ⟨rfl, hw⟩
  rw [hw, decide_eq_false (show ¬ (1048576 : Int) < (len : Int) by omega)]
  clear hw w'
  go_wp2_with fail
  refine (drawAdmitted_any (.slice a len cap) len _ (HC.out (by omega)) ⟨_, _, _, rfl⟩).mono ?_
  rintro e w1 ⟨C, N, port, prio, cs, rfl, hfw, hN, B1⟩
  clear HC hbig
  obtain ⟨ok, hok⟩ := ok_decC (formP C N port prio cs ∧ Cnt.Ok C (addN N port prio cs))
  obtain ⟨fn, hfn⟩ := ok_decC (formP C N port prio cs ∧ Cnt.Ok C (addN N port prio (-cs)))
  have HOK : Hid (ok = true ↔ formP C N port prio cs ∧ Cnt.Ok C (addN N port prio cs)) := hok
  have HFN : Hid (fn = true ↔ formP C N port prio cs ∧ Cnt.Ok C (addN N port prio (-cs))) := hfn
  have hbb : (!(ok == ok)) = false := by cases ok <;> rfl
  have hbf : (!(fn == fn)) = false := by cases fn <;> rfl
  have hbc : (ok == ok) = true := by cases ok <;> rfl
  have hbd : (fn == fn) = true := by cases fn <;> rfl
  have hB : Below (w1.heap.size + 2) ((w1.alloc (.cells #[.int .i64 C.p, .int .i64 C.c, .int .i64 C.xo, .int .i64 C.xn, .int .i64 C.hd, .int .i64 C.lo, .int .i64 C.dl] 25)).alloc (.cells #[.slice N.aU N.nU N.cU, .int .i64 N.lo, .slice N.aP N.nP N.cP] 29)) ((w1.alloc (.cells #[.int .i64 C.p, .int .i64 C.c, .int .i64 C.xo, .int .i64 C.xn, .int .i64 C.hd, .int .i64 C.lo, .int .i64 C.dl] 25)).alloc (.cells #[.slice N.aU N.nU N.cU, .int .i64 N.lo, .slice N.aP N.nP N.cP] 29)) := Below.refl _ _
  replace hN := hN.up (under2 hB)
  clear hok hfn
  unfold Cfg.cells Cnt.cells
  go_wp2_with fail
  generalize hw2 : (w1.alloc (.cells #[.int .i64 C.p, .int .i64 C.c, .int .i64 C.xo, .int .i64 C.xn, .int .i64 C.hd, .int .i64 C.lo, .int .i64 C.dl] 25)).alloc (.cells #[.slice N.aU N.nU N.cU, .int .i64 N.lo, .slice N.aP N.nP N.cP] 29) = w2
  rw [hw2] at hN
  have hB2 : Below (w1.heap.size + 2) ((w1.alloc (.cells #[.int .i64 C.p, .int .i64 C.c, .int .i64 C.xo, .int .i64 C.xn, .int .i64 C.hd, .int .i64 C.lo, .int .i64 C.dl] 25)).alloc (.cells #[.slice N.aU N.nU N.cU, .int .i64 N.lo, .slice N.aP N.nP N.cP] 29)) w2 := by rw [← hw2]; exact hB
  clear hw2 hB
  have hB := hB2
  clear hB2
  refine (iAdmitted_any C N port prio cs _ hfw.small.fit hN ok HOK.out).mono ?_
  rintro e w3 ⟨M, rfl, hOw, hb, hAL⟩
  have HM : Hid (AlikeC (orZero (addN N port prio cs) ok) M) := hAL
  have hM := hOw.rd
  replace hN := hN.up hb
  replace hB := next2 hB hb
  clear hb hAL hOw
  have hA := (Below.refl w3.heap.size w3).alloc (Nat.le_refl _) (.cells #[.slice M.aU M.nU M.cU, .int .i64 M.lo, .slice M.aP M.nP M.cP] 29)
  have kM := blk_new w3 (.cells #[.slice M.aU M.nU M.cU, .int .i64 M.lo, .slice M.aP M.nP M.cP] 29)
  replace hM := hM.up hA
  replace hN := hN.up hA
  replace hB := next2 hB hA
  clear hA
  have cb := (boxed2 hB).1
  have cn := (boxed2 hB).2
  dsimp only [Cnt.cells]
  go_wp2_with fail
  generalize w3.heap.size = gM at *
  generalize w3.alloc (.cells #[.slice M.aU M.nU M.cU, .int .i64 M.lo, .slice M.aP M.nP M.cP] 29) = w4 at *
  clear cb cn
  refine (sAdmitted_any C N port prio cs _ hfw.small.fit hN ok HOK.out).mono ?_
  rintro e w5 ⟨M2, rfl, hOw, hb, hAL⟩
  have HM2 : Hid (AlikeC (orZero (addN N port prio cs) ok) M2) := hAL
  have hM2 := hOw.rd
  replace hN := hN.up hb
  replace hM := hM.up hb
  replace kM := (hb.block _ (blk_lt kM)).trans kM
  replace hB := next2 hB hb
  clear hb hAL hOw
  have hA := (Below.refl w5.heap.size w5).alloc (Nat.le_refl _) (.cells #[.slice M2.aU M2.nU M2.cU, .int .i64 M2.lo, .slice M2.aP M2.nP M2.cP] 29)
  have kM2 := blk_new w5 (.cells #[.slice M2.aU M2.nU M2.cU, .int .i64 M2.lo, .slice M2.aP M2.nP M2.cP] 29)
  replace hM2 := hM2.up hA
  replace hN := hN.up hA
  replace hM := hM.up hA
  replace kM := (hA.block _ (blk_lt kM)).trans kM
  replace hB := next2 hB hA
  clear hA
  have cb := (boxed2 hB).1
  have cn := (boxed2 hB).2
  dsimp only [Cnt.cells]
  go_wp2_with fail
  generalize w5.heap.size = gM2 at *
  generalize w5.alloc (.cells #[.slice M2.aU M2.nU M2.cU, .int .i64 M2.lo, .slice M2.aP M2.nP M2.cP] 29) = w6 at *
  clear cb cn
  refine (iReleased_any C N port prio cs _ hfw.small.fit hN fn HFN.out).mono ?_
  rintro e w7 ⟨O, rfl, hOw, hb, hAL⟩
  have HO : Hid (AlikeC (orZero (addN N port prio (-cs)) fn) O) := hAL
  have hO := hOw.rd
  replace hN := hN.up hb
  replace hM := hM.up hb
  replace kM := (hb.block _ (blk_lt kM)).trans kM
  replace hM2 := hM2.up hb
  replace kM2 := (hb.block _ (blk_lt kM2)).trans kM2
  replace hB := next2 hB hb
  clear hb hAL hOw
  have hA := (Below.refl w7.heap.size w7).alloc (Nat.le_refl _) (.cells #[.slice O.aU O.nU O.cU, .int .i64 O.lo, .slice O.aP O.nP O.cP] 29)
  have kO := blk_new w7 (.cells #[.slice O.aU O.nU O.cU, .int .i64 O.lo, .slice O.aP O.nP O.cP] 29)
  replace hO := hO.up hA
  replace hN := hN.up hA
  replace hM := hM.up hA
  replace kM := (hA.block _ (blk_lt kM)).trans kM
  replace hM2 := hM2.up hA
  replace kM2 := (hA.block _ (blk_lt kM2)).trans kM2
  replace hB := next2 hB hA
  clear hA
  have cb := (boxed2 hB).1
  have cn := (boxed2 hB).2
  dsimp only [Cnt.cells]
  go_wp2_with fail
  generalize w7.heap.size = gO at *
  generalize w7.alloc (.cells #[.slice O.aU O.nU O.cU, .int .i64 O.lo, .slice O.aP O.nP O.cP] 29) = w8 at *
  clear cb cn
  refine (sReleased_any C N port prio cs _ hfw.small.fit hN fn HFN.out).mono ?_
  rintro e w9 ⟨O2, rfl, hOw, hb, hAL⟩
  have HO2 : Hid (AlikeC (orZero (addN N port prio (-cs)) fn) O2) := hAL
  have hO2 := hOw.rd
  replace hN := hN.up hb
  replace hM := hM.up hb
  replace kM := (hb.block _ (blk_lt kM)).trans kM
  replace hM2 := hM2.up hb
  replace kM2 := (hb.block _ (blk_lt kM2)).trans kM2
  replace hO := hO.up hb
  replace kO := (hb.block _ (blk_lt kO)).trans kO
  replace hB := next2 hB hb
  clear hb hAL hOw
  have hA := (Below.refl w9.heap.size w9).alloc (Nat.le_refl _) (.cells #[.slice O2.aU O2.nU O2.cU, .int .i64 O2.lo, .slice O2.aP O2.nP O2.cP] 29)
  have kO2 := blk_new w9 (.cells #[.slice O2.aU O2.nU O2.cU, .int .i64 O2.lo, .slice O2.aP O2.nP O2.cP] 29)
  replace hO2 := hO2.up hA
  replace hN := hN.up hA
  replace hM := hM.up hA
  replace kM := (hA.block _ (blk_lt kM)).trans kM
  replace hM2 := hM2.up hA
  replace kM2 := (hA.block _ (blk_lt kM2)).trans kM2
  replace hO := hO.up hA
  replace kO := (hA.block _ (blk_lt kO)).trans kO
  replace hB := next2 hB hA
  clear hA
  have c1 := blk_cell kM
  have c2 := blk_cell kM2
  have c3 := blk_cell kO
  have c4 := blk_cell kO2
  have cb := (boxed2 hB).1
  have cn := (boxed2 hB).2
  dsimp only [Cnt.cells]
  go_wp2_with fail
  generalize w9.heap.size = gO2 at *
  generalize w9.alloc (.cells #[.slice O2.aU O2.nU O2.cU, .int .i64 O2.lo, .slice O2.aP O2.nP O2.cP] 29) = w10 at *
  clear cb cn
  have HMs : Hid M.Small := Few.small (((hfw.addN _ _ _).orZero ok).alike HM.out)
  have HOs : Hid O.Small := Few.small (((hfw.addN _ _ _).orZero fn).alike HO.out)
  refine (sameCounts_any M M2 _ HMs.out hM hM2 (HM.out.symm.trans HM2.out)).mono ?_
  rintro e wa ⟨rfl, hb⟩
  clear c1 c2 c3 c4
  replace hN := hN.up hb
  replace hM := hM.up hb
  replace kM := (hb.block _ (blk_lt kM)).trans kM
  replace hM2 := hM2.up hb
  replace kM2 := (hb.block _ (blk_lt kM2)).trans kM2
  replace hO := hO.up hb
  replace kO := (hb.block _ (blk_lt kO)).trans kO
  replace hO2 := hO2.up hb
  replace kO2 := (hb.block _ (blk_lt kO2)).trans kO2
  replace hB := next2 hB hb
  clear hb
  have c1 := blk_cell kM
  have c2 := blk_cell kM2
  have c3 := blk_cell kO
  have c4 := blk_cell kO2
  go_wp2_with fail
  refine (sameCounts_any O O2 _ HOs.out hO hO2 (HO.out.symm.trans HO2.out)).mono ?_
  rintro e wb ⟨rfl, hb⟩
  clear c1 c2 c3 c4
  replace hN := hN.up hb
  replace hM := hM.up hb
  replace kM := (hb.block _ (blk_lt kM)).trans kM
  replace hM2 := hM2.up hb
  replace kM2 := (hb.block _ (blk_lt kM2)).trans kM2
  replace hO := hO.up hb
  replace kO := (hb.block _ (blk_lt kO)).trans kO
  replace hO2 := hO2.up hb
  replace kO2 := (hb.block _ (blk_lt kO2)).trans kO2
  replace hB := next2 hB hb
  clear hb
  cases ok
  · have c1 := blk_cell kM
    have c2 := blk_cell kM2
    have c3 := blk_cell kO
    have c4 := blk_cell kO2
    go_wp2_with fail
    refine (sameCounts_any M M2 _ HMs.out hM hM2 (HM.out.symm.trans HM2.out)).mono ?_
    rintro e wc ⟨rfl, hb⟩
    clear c1 c2 c3 c4
    replace hN := hN.up hb
    replace hM := hM.up hb
    replace kM := (hb.block _ (blk_lt kM)).trans kM
    replace hM2 := hM2.up hb
    replace kM2 := (hb.block _ (blk_lt kM2)).trans kM2
    replace hO := hO.up hb
    replace kO := (hb.block _ (blk_lt kO)).trans kO
    replace hO2 := hO2.up hb
    replace kO2 := (hb.block _ (blk_lt kO2)).trans kO2
    replace hB := next2 hB hb
    clear hb
    have c3 := blk_cell kO
    have c4 := blk_cell kO2
    go_wp2_with fail
    refine (sameCounts_any O O2 _ HOs.out hO hO2 (HO.out.symm.trans HO2.out)).mono ?_
    rintro e wd ⟨rfl, hb⟩
    have B := B1.trans ((under2 (next2 hB hb)).mono B1.size)
    clear c3 c4 hb hB hN hM hM2 hO hO2 kM kM2 kO kO2
    go_wp2_with fail
    go_ret
    exact ⟨rfl, B⟩
  · have hform := (HOK.out.1 rfl).1
    have hadd := (HOK.out.1 rfl).2
    have HMa : Hid (AlikeC (addN N port prio cs) M) := HM.out
    have HMok : Hid (Cnt.Ok C M) := HMa.out.ok.2 hadd
    have hform2 : formP C M port prio cs := ⟨HMok.out, hform.port, hform.prio, hform.cells⟩
    have hback : AlikeC (addN M port prio (-cs)) N := (addN_alike HMa.out port prio (-cs)).symm.trans (addN_back N port prio cs)
    have HB9 : Hid (AlikeC (addN M port prio (-cs)) N) := hback
    have Hrel : Hid (formP C M port prio cs ∧ Cnt.Ok C (addN M port prio (-cs))) := ⟨hform2, hback.ok.1 hform.ok⟩
    clear hform hadd hform2 hback
    have cb := (boxed2 hB).1
    have c1 := blk_cell kM
    go_wp2_with fail
    refine (iReleased_any C M port prio cs _ HMs.out.fit hM true ⟨fun _ => Hrel.out, fun _ => rfl⟩).mono ?_
    rintro e wc ⟨R, rfl, hOw, hb, hAR⟩
    have HRN : Hid (AlikeC R N) := hAR.symm.trans HB9.out
    have hRr := hOw.rd
    clear cb c1 hO hO2 hM2 kO kO2 kM2
    replace hN := hN.up hb
    replace hM := hM.up hb
    replace kM := (hb.block _ (blk_lt kM)).trans kM
    replace hB := next2 hB hb
    clear hb hAR hOw
    have hA := (Below.refl wc.heap.size wc).alloc (Nat.le_refl _) (.cells #[.slice R.aU R.nU R.cU, .int .i64 R.lo, .slice R.aP R.nP R.cP] 29)
    have kR := blk_new wc (.cells #[.slice R.aU R.nU R.cU, .int .i64 R.lo, .slice R.aP R.nP R.cP] 29)
    replace hRr := hRr.up hA
    replace hN := hN.up hA
    replace hM := hM.up hA
    replace kM := (hA.block _ (blk_lt kM)).trans kM
    replace hB := next2 hB hA
    clear hA
    have c1 := blk_cell kM
    dsimp only [Cnt.cells]
    go_wp2_with fail
    generalize wc.heap.size = gR at *
    generalize wc.alloc (.cells #[.slice R.aU R.nU R.cU, .int .i64 R.lo, .slice R.aP R.nP R.cP] 29) = wd at *
    clear c1
    have h2 := HMok.out.facts.u.1
    have h4 := HMok.out.facts.u.2
    have hm4 : (M.nU : Int) ≤ 4 := by omega
    obtain ⟨lu, ku, eLu, hcLu⟩ := rd_some hM.u (by omega)
    have Hc1 : Hid (∀ i, i < M.nU → wd.cell? ⟨lu, ku + i, none⟩ = some (.int .i64 (M.u i))) := hcLu
    have HeLu : Hid (M.aU = some ⟨lu, ku, none⟩) := eLu
    clear hcLu eLu
    go_loopw [18, 19] (fun s i wr => ∃ k : Nat, k ≤ M.nU ∧ i = .int .i64 k ∧ s = .int .i64 (sumU M.lo M.u k) ∧ Below wd.heap.size wd wr) (fun _ i _ => M.nU - (intOf i).toNat)
    case atStart => exact ⟨0, Nat.zero_le _, rfl, rfl, Below.refl _ _⟩
    case round =>
      obtain ⟨k, hk, rfl, rfl, hBr⟩ := hrel
      have kMk := (hBr.block _ (blk_lt kM)).trans kM
      have cM := blk_cell kMk
      by_cases hlt : k < M.nU
      · have hlt' : (k : Int) < M.nU := by omega
        rw [HeLu.out] at cM
        have c1 := (hBr.cell (p := ⟨lu, ku + k, none⟩) (cellLt (Hc1.out k hlt))).trans (Hc1.out k hlt)
        have e1 : IntKind.i64.wrap (sumU M.lo M.u k + M.u k) = sumU M.lo M.u (k + 1) := by
          have h9 := sumU_small HMok.out (k + 1) (by omega)
          have e : sumU M.lo M.u (k + 1) = sumU M.lo M.u k + M.u k := rfl
          rw [← e]
          exact wrapC _ (by omega) (by omega)
        clear kMk
        go_wp2_with fail
        go_roundw
        case rel => exact ⟨k + 1, by omega, by go_num, by first | rfl | rw [e1], hBr⟩
        case measure => simp [intOf]; omega
      · obtain rfl : k = M.nU := by omega
        have hb := hBr
        clear kMk
        replace hN := hN.up hb
        replace hM := hM.up hb
        replace kM := (hb.block _ (blk_lt kM)).trans kM
        replace hRr := hRr.up hb
        replace kR := (hb.block _ (blk_lt kR)).trans kR
        replace hB := next2 hB hb
        clear hb hBr
        have c2 := blk_cell kR
        have cn := (boxed2 hB).2
        have hsum := sumU_all HMok.out
        have HRs : Hid R.Small := HRN.out.symm.small hfw.small
        have hsd : Hid (decide (sumU M.lo M.u M.nU ≤ C.c) = true) := decide_eq_true hsum
        generalize sumU M.lo M.u M.nU = sm at *
        go_wp2_with fail
        refine (sameCounts_any R N _ HRs.out hRr hN HRN.out).mono ?_
        rintro e we ⟨rfl, hb⟩
        clear c2 cn cM
        replace hN := hN.up hb
        replace hM := hM.up hb
        replace kM := (hb.block _ (blk_lt kM)).trans kM
        replace hRr := hRr.up hb
        replace kR := (hb.block _ (blk_lt kR)).trans kR
        replace hB := next2 hB hb
        clear hb
        have cb := (boxed2 hB).1
        have cM := blk_cell kM
        go_wp2_with fail
        refine (iCountsOk_any C M _ HMs.out.fit hM true ⟨fun _ => HMok.out, fun _ => rfl⟩).mono ?_
        rintro e wf ⟨rfl, hb⟩
        clear cb cM
        replace hN := hN.up hb
        replace hM := hM.up hb
        replace kM := (hb.block _ (blk_lt kM)).trans kM
        replace hRr := hRr.up hb
        replace kR := (hb.block _ (blk_lt kR)).trans kR
        replace hB := next2 hB hb
        clear hb
        have cb := (boxed2 hB).1
        have B := B1.trans ((under2 hB).mono B1.size)
        have hsd' := hsd.out
        clear hB hN hM hRr kM kR
        go_wp2_with fail
        go_ret
        exact ⟨ret_bool (by first | rfl | exact hsd' | simpa using hsum), B⟩
end Go.Proofs.Ytpldaohflojkmaa
