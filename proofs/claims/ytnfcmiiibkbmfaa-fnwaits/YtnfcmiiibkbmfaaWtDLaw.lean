/- What waits, waits behind what waited, and nothing else is changed: on every drawn round the law answers true. -/
import Derived.Test.YtnfcmiiibkbmfaaDWaits
namespace Go.Proofs.Ytnfcmiiibkbmfaa
open Go.RowKit
set_option linter.unusedVariables false
set_option linter.unusedSimpArgs false

theorem Alike.smallD {A B : Rnd} (h : Alike A B) (hs : A.Small) : B.Small := ⟨by rw [h.nQ]; exact hs.q, by rw [h.nD]; exact hs.d, by rw [h.nS]; exact hs.s, fun i hi => by rw [h.l]; exact hs.l i (by rw [← h.nS]; exact hi)⟩
theorem Rnd.Small.fitD {R : Rnd} (h : R.Small) : R.Fit := ⟨Nat.le_trans h.q (by unfold maxLen; omega), Nat.le_trans h.d (by unfold maxLen; omega), Nat.le_trans h.s (by unfold maxLen; omega), fun i hi => Nat.le_trans (h.l i hi) (by unfold maxLen; omega)⟩
theorem waitsM_smallD {R : Rnd} {c s : Int} {ok : Bool} (hok : ok = true ↔ waitsP R c s) : (waitsM R c s ok).Small := by
  cases ok
  · exact ⟨Nat.zero_le _, Nat.zero_le _, Nat.zero_le _, fun i _ => Nat.zero_le _⟩
  · exact ok_smallA (waitsM_okP (hok.1 rfl))
theorem waited {R N : Rnd} {kk : Nat} {s : Int} (hP : waitsP R kk s) (hA : Alike (waitsM R kk s true) N) {W : World} (hR : RdRnd W R) (hN : RdRnd W N) :
    ∃ (g1 o1 g2 o2 gz oz c1 c2 l : Nat) (a2 : Option Addr), N.aS = some ⟨g1, o1, none⟩ ∧ R.aS = some ⟨g2, o2, none⟩ ∧ kk < N.nS ∧ kk < R.nS ∧ l ≤ 1000 ∧ N.nD = R.nD ∧ N.d = R.d ∧ N.Ok ∧ ∀ W', RdRnd W' R → RdRnd W' N → W'.cell? ⟨g1, o1 + kk, none⟩ = some (.slice (some ⟨gz, oz, none⟩) (l + 1) c1) ∧ W'.cell? ⟨g2, o2 + kk, none⟩ = some (.slice a2 l c2) ∧ W'.cell? ⟨gz, oz + l, none⟩ = some (.int .i64 s) := by
  have hPo := hP
  obtain ⟨hO, hk, hs, hL⟩ := hP
  have hkS : kk < R.nS := by rw [hO.s]; omega
  have hnS : N.nS = R.nS := hA.nS
  have hkN : kk < N.nS := by rw [hnS]; exact hkS
  have hl : N.L kk = R.L kk + 1 := by
    rw [hA.l]
    show (if kk = ((kk : Nat) : Int).toNat then R.L ((kk : Nat) : Int).toNat + 1 else R.L kk) = _
    rw [Int.toNat_natCast, if_pos rfl]
  have hz : N.z kk (R.L kk) = s := by
    rw [hA.z]
    show (if kk = ((kk : Nat) : Int).toNat then pushZ (R.L ((kk : Nat) : Int).toNat) s (R.z ((kk : Nat) : Int).toNat) (R.L kk) else R.z kk (R.L kk)) = s
    rw [Int.toNat_natCast, if_pos rfl]
    unfold pushZ
    rw [if_pos rfl]
  rw [Int.toNat_natCast] at hL
  obtain ⟨g1, o1, e1, c1⟩ := hN.s kk hkN
  obtain ⟨g2, o2, e2, c2⟩ := hR.s kk hkS
  obtain ⟨gz, oz, ez, cz⟩ := hN.z kk hkN (R.L kk) (by omega)
  refine ⟨g1, o1, g2, o2, gz, oz, N.C kk, R.C kk, R.L kk, R.A kk, e1, e2, hkN, hkS, by omega, hA.nD, hA.d, hA.okI.2 (waitsM_okP hPo), fun W' hR' hN' => ?_⟩
  obtain ⟨g1', o1', e1', c1'⟩ := hN'.s kk hkN
  obtain ⟨g2', o2', e2', c2'⟩ := hR'.s kk hkS
  obtain ⟨gz', oz', ez', cz'⟩ := hN'.z kk hkN (R.L kk) (by omega)
  rw [e1] at e1'
  rw [e2] at e2'
  rw [ez] at ez'
  cases e1'
  cases e2'
  cases ez'
  dsimp only at c1' c2' cz'
  rw [ez, hl] at c1'
  rw [hz] at cz'
  exact ⟨c1', c2', cz'⟩
set_option maxRecDepth 100000 in
set_option maxHeartbeats 20000000 in
theorem waitsLaw_any (a : Option Addr) (len cap : Nat) (w : World) (hl : len ≤ maxLen) (hC : len ≤ 1048576 → Code w.heap.size (.slice a len cap) len w) :
    Calls Try.prog 6 #[.slice a len cap] w fun e w' => e = .returned (.bool true) ∧ Below w.heap.size w w' := by
  have HC : Hid (len ≤ 1048576 → Code w.heap.size (.slice a len cap) len w) := hC
  clear hC
  by_cases hbig : 1048576 < (len : Int)
  · go_enter Try.func6, Try.ntmps6
    go_wp2_with fail
    refine (bigC_any a len cap _ hl).mono ?_
    rintro e w' ⟨rfl, hw⟩
    rw [hw, decide_eq_true hbig]
    clear hw w'
    go_wp2_with fail
    go_ret
    exact ⟨rfl, Below.refl _ _⟩
  go_enter Try.func6, Try.ntmps6
  go_wp2_with fail
  refine (bigC_any a len cap _ hl).mono ?_
  rintro e w' ⟨rfl, hw⟩
  rw [hw, decide_eq_false (by omega)]
  clear hw w'
  go_wp2_with fail
  refine (drawWaits_any (.slice a len cap) len _ (HC.out (by omega)) ⟨_, _, _, rfl⟩).mono ?_
  rintro e w1 ⟨R, kc, s, rfl, hS, hR, hB⟩
  have HS : Hid R.Small := hS
  obtain ⟨ok, hok⟩ := ok_decR (waitsP R kc s)
  have HO : Hid (ok = true ↔ waitsP R kc s) := hok
  have hbb : (!(ok == ok)) = false := by cases ok <;> rfl
  have hbc : (ok == ok) = true := by cases ok <;> rfl
  clear HC hbig hS hok
  have hA := (Below.refl w1.heap.size w1).alloc (Nat.le_refl _) (.cells #[.slice R.aQ R.nQ R.cQ, .slice R.aD R.nD R.cD, .int .i64 R.turn, .bool R.fresh, .slice R.aS R.nS R.cS] 27)
  have kR := blk_new w1 (.cells #[.slice R.aQ R.nQ R.cQ, .slice R.aD R.nD R.cD, .int .i64 R.turn, .bool R.fresh, .slice R.aS R.nS R.cS] 27)
  replace hR := hR.up hA
  replace hB := hB.trans (hA.mono hB.size)
  clear hA
  dsimp only [Rnd.cells]
  go_wp2_with fail
  generalize w1.alloc (.cells #[.slice R.aQ R.nQ R.cQ, .slice R.aD R.nD R.cD, .int .i64 R.turn, .bool R.fresh, .slice R.aS R.nS R.cS] 27) = w2 at *
  generalize w1.heap.size = bR at *
  refine (iWaits_any R kc s _ HS.out hR.rd ok HO.out).mono ?_
  rintro e w3 ⟨N, rfl, hN, hb, hA1⟩
  have HN : Hid (Alike (waitsM R kc s ok) N) := hA1
  replace hR := hR.up hb
  replace kR := (hb.block _ (blk_lt kR)).trans kR
  replace hB := hB.trans (hb.mono hB.size)
  clear hb hA1
  have hA := (Below.refl w3.heap.size w3).alloc (Nat.le_refl _) (.cells #[.slice N.aQ N.nQ N.cQ, .slice N.aD N.nD N.cD, .int .i64 N.turn, .bool N.fresh, .slice N.aS N.nS N.cS] 27)
  have kN := blk_new w3 (.cells #[.slice N.aQ N.nQ N.cQ, .slice N.aD N.nD N.cD, .int .i64 N.turn, .bool N.fresh, .slice N.aS N.nS N.cS] 27)
  replace hN := hN.up hA
  replace hR := hR.up hA
  replace kR := (hA.block _ (blk_lt kR)).trans kR
  replace hB := hB.trans (hA.mono hB.size)
  clear hA
  have ckR := blk_cell kR
  dsimp only [Rnd.cells]
  go_wp2_with fail
  clear ckR
  generalize w3.alloc (.cells #[.slice N.aQ N.nQ N.cQ, .slice N.aD N.nD N.cD, .int .i64 N.turn, .bool N.fresh, .slice N.aS N.nS N.cS] 27) = w4 at *
  generalize w3.heap.size = bN at *
  refine (sWaits_any R kc s _ HS.out hR.rd ok HO.out).mono ?_
  rintro e w5 ⟨M, rfl, hM, hb, hA1⟩
  have HNM : Hid (Alike N M) := HN.out.symm.trans hA1
  replace hR := hR.up hb
  replace kR := (hb.block _ (blk_lt kR)).trans kR
  replace hN := hN.up hb
  replace kN := (hb.block _ (blk_lt kN)).trans kN
  replace hB := hB.trans (hb.mono hB.size)
  clear hb hA1
  have cN := blk_cell ((Below.refl w5.heap.size w5).alloc (Nat.le_refl _) (.cells #[.slice M.aQ M.nQ M.cQ, .slice M.aD M.nD M.cD, .int .i64 M.turn, .bool M.fresh, .slice M.aS M.nS M.cS] 27) |>.block _ (blk_lt kN) |>.trans kN)
  clear cN
  have hA := (Below.refl w5.heap.size w5).alloc (Nat.le_refl _) (.cells #[.slice M.aQ M.nQ M.cQ, .slice M.aD M.nD M.cD, .int .i64 M.turn, .bool M.fresh, .slice M.aS M.nS M.cS] 27)
  have kM := blk_new w5 (.cells #[.slice M.aQ M.nQ M.cQ, .slice M.aD M.nD M.cD, .int .i64 M.turn, .bool M.fresh, .slice M.aS M.nS M.cS] 27)
  replace hM := hM.up hA
  replace hR := hR.up hA
  replace kR := (hA.block _ (blk_lt kR)).trans kR
  replace hN := hN.up hA
  replace kN := (hA.block _ (blk_lt kN)).trans kN
  replace hB := hB.trans (hA.mono hB.size)
  clear hA
  have cN := blk_cell kN
  have cM := blk_cell kM
  dsimp only [Rnd.cells]
  go_wp2_with fail
  clear cN cM
  generalize w5.alloc (.cells #[.slice M.aQ M.nQ M.cQ, .slice M.aD M.nD M.cD, .int .i64 M.turn, .bool M.fresh, .slice M.aS M.nS M.cS] 27) = w6 at *
  generalize w5.heap.size = bM at *
  have HNs : Hid N.Small := HN.out.smallD (waitsM_smallD HO.out)
  refine (sameRound_any N M _ HNs.out hN.rd hM.rd HNM.out).mono ?_
  rintro e w7 ⟨rfl, hb⟩
  replace hR := hR.up hb
  replace kR := (hb.block _ (blk_lt kR)).trans kR
  replace hN := hN.up hb
  replace kN := (hb.block _ (blk_lt kN)).trans kN
  replace hM := hM.up hb
  replace kM := (hb.block _ (blk_lt kM)).trans kM
  replace hB := hB.trans (hb.mono hB.size)
  clear hb
  cases ok
  · have cN := blk_cell kN
    have cM := blk_cell kM
    go_wp2_with fail
    refine (sameRound_any N M _ HNs.out hN.rd hM.rd HNM.out).mono ?_
    rintro e w8 ⟨rfl, hb⟩
    have B := hB.trans (hb.mono hB.size)
    clear hb hB hN hM hR kN kM kR cN cM
    go_wp2_with fail
    go_ret
    exact ⟨rfl, B⟩
  · obtain ⟨kk, rfl⟩ : ∃ kk : Nat, kc = ((kk : Nat) : Int) := by
      have := (HO.out.1 rfl).2.1
      exact ⟨kc.toNat, by omega⟩
    obtain ⟨g1, o1, g2, o2, gz, oz, c1, c2, l, a2, e1, e2, hk1, hk2, hl1, hnD, hdd, hNo, hfx⟩ := waited (HO.out.1 rfl) HN.out hR.rd hN.rd
    have HE1 : Hid (N.aS = some ⟨g1, o1, none⟩) := e1
    have HE2 : Hid (R.aS = some ⟨g2, o2, none⟩) := e2
    have HnD : Hid (N.nD = R.nD) := hnD
    have HdD : Hid (N.d = R.d) := hdd
    have HNo : Hid N.Ok := hNo
    have HFx : Hid (∀ W', RdRnd W' R → RdRnd W' N → W'.cell? ⟨g1, o1 + kk, none⟩ = some (.slice (some ⟨gz, oz, none⟩) (l + 1) c1) ∧ W'.cell? ⟨g2, o2 + kk, none⟩ = some (.slice a2 l c2) ∧ W'.cell? ⟨gz, oz + l, none⟩ = some (.int .i64 s)) := hfx
    have hi1 : (kk : Int) < (N.nS : Int) := by omega
    have hi2 : (kk : Int) < (R.nS : Int) := by omega
    have hi3 : (l : Int) < (l : Int) + 1 := by omega
    have hwr : IntKind.i64.wrap ((l : Int) + 1) = (l : Int) + 1 := wrapD _ (by omega) (by omega)
    have hss : (s == s) = true := by simp
    clear e1 e2 hnD hdd hNo hfx hM kM
    go_wp2_with fail
    have hd : Below w7.heap.size w7 w7.drew := (Below.refl _ _).drew
    replace hR := hR.up hd
    replace kR := (hd.block _ (blk_lt kR)).trans kR
    replace hN := hN.up hd
    replace kN := (hd.block _ (blk_lt kN)).trans kN
    replace hB := hB.trans (hd.mono hB.size)
    clear hd
    have hSS : (∀ o, w7.drew.cell? ⟨bN, o, none⟩ = (#[.slice N.aQ N.nQ N.cQ, .slice N.aD R.nD N.cD, .int .i64 N.turn, .bool N.fresh, .slice (some ⟨g1, o1, none⟩) N.nS N.cS] : Array Value)[o]?) ∧ (∀ o, w7.drew.cell? ⟨bR, o, none⟩ = (#[.slice R.aQ R.nQ R.cQ, .slice R.aD R.nD R.cD, .int .i64 R.turn, .bool R.fresh, .slice (some ⟨g2, o2, none⟩) R.nS R.cS] : Array Value)[o]?) ∧ w7.drew.cell? ⟨g1, o1 + kk, none⟩ = some (.slice (some ⟨gz, oz, none⟩) (l + 1) c1) ∧ w7.drew.cell? ⟨g2, o2 + kk, none⟩ = some (.slice a2 l c2) ∧ w7.drew.cell? ⟨gz, oz + l, none⟩ = some (.int .i64 s) := by
      refine ⟨?_, ?_, HFx.out _ hR.rd hN.rd⟩
      · have := blk_cell kN
        rw [HE1.out, HnD.out] at this
        exact this
      · have := blk_cell kR
        rw [HE2.out] at this
        exact this
    refine wp_region_held_drew (S := fun w' => (∀ o, w'.cell? ⟨bN, o, none⟩ = (#[.slice N.aQ N.nQ N.cQ, .slice N.aD R.nD N.cD, .int .i64 N.turn, .bool N.fresh, .slice (some ⟨g1, o1, none⟩) N.nS N.cS] : Array Value)[o]?) ∧ (∀ o, w'.cell? ⟨bR, o, none⟩ = (#[.slice R.aQ R.nQ R.cQ, .slice R.aD R.nD R.cD, .int .i64 R.turn, .bool R.fresh, .slice (some ⟨g2, o2, none⟩) R.nS R.cS] : Array Value)[o]?) ∧ w'.cell? ⟨g1, o1 + kk, none⟩ = some (.slice (some ⟨gz, oz, none⟩) (l + 1) c1) ∧ w'.cell? ⟨g2, o2 + kk, none⟩ = some (.slice a2 l c2) ∧ w'.cell? ⟨gz, oz + l, none⟩ = some (.int .i64 s)) (by kernel_rfl) hSS (fun hHeld => ?_)
    refine takeD (i := 0) (some 53) (v := ?_) rfl rfl (by kernel_rfl) (by kernel_rfl) (by kernel_rfl) (fun _ _ _ h => h) (by kernel_rfl) ?_ (by assumption) ?_
    rotate_left
    · intro wx hSw
      obtain ⟨hS1, hS2, hS3, hS4, hS5⟩ := hSw
      go_simp
      try (with_reducible rfl)
    try simp only [Act.put, List.setIfInBounds_toArray, List.set_cons_zero, List.set_cons_succ]
    refine wpAnyH_ready (rs := [1]) (by kernel_rfl) (by simp) ?_
    refine AllReadyH.cons rfl (fun K hK => ?_) AllReadyH.nil
    go_simp
    have eN : (Value.agg #[.slice N.aQ N.nQ N.cQ, .slice N.aD R.nD N.cD, .int .i64 N.turn, .bool N.fresh, .slice (some ⟨g1, o1, none⟩) N.nS N.cS]) = Value.agg N.cells := by unfold Rnd.cells; rw [HE1.out, HnD.out]
    rw [eN]
    clear eN hSS
    refine (iRoundOk_any N _ HNs.out.fitD hN.rd true ⟨fun _ => HNo.out, fun _ => rfl⟩).mono ?_
    rintro e w8 ⟨rfl, hb⟩
    replace hR := hR.up hb
    replace kR := (hb.block _ (blk_lt kR)).trans kR
    replace hN := hN.up hb
    replace kN := (hb.block _ (blk_lt kN)).trans kN
    replace hB := hB.trans (hb.mono hB.size)
    clear hb
    have hSS : (∀ o, w8.cell? ⟨bN, o, none⟩ = (#[.slice N.aQ N.nQ N.cQ, .slice N.aD R.nD N.cD, .int .i64 N.turn, .bool N.fresh, .slice (some ⟨g1, o1, none⟩) N.nS N.cS] : Array Value)[o]?) ∧ (∀ o, w8.cell? ⟨bR, o, none⟩ = (#[.slice R.aQ R.nQ R.cQ, .slice R.aD R.nD R.cD, .int .i64 R.turn, .bool R.fresh, .slice (some ⟨g2, o2, none⟩) R.nS R.cS] : Array Value)[o]?) ∧ w8.cell? ⟨g1, o1 + kk, none⟩ = some (.slice (some ⟨gz, oz, none⟩) (l + 1) c1) ∧ w8.cell? ⟨g2, o2 + kk, none⟩ = some (.slice a2 l c2) ∧ w8.cell? ⟨gz, oz + l, none⟩ = some (.int .i64 s) := by
      refine ⟨?_, ?_, HFx.out _ hR.rd hN.rd⟩
      · have := blk_cell kN
        rw [HE1.out, HnD.out] at this
        exact this
      · have := blk_cell kR
        rw [HE2.out] at this
        exact this
    try go_wp2_with fail
    refine hK.out _ _ hSS (fun hHeld => ?_)
    clear hK K
    try simp only [Act.put, List.setIfInBounds_toArray, List.set_cons_zero, List.set_cons_succ]
    refine takeD (i := 2) (some 55) (v := ?_) rfl rfl (by kernel_rfl) (by kernel_rfl) (by kernel_rfl) (fun _ _ _ h => h) (by kernel_rfl) ?_ (by assumption) ?_
    rotate_left
    · intro wx hSw
      obtain ⟨hS1, hS2, hS3, hS4, hS5⟩ := hSw
      go_simp
      try (with_reducible rfl)
    try simp only [Act.put, List.setIfInBounds_toArray, List.set_cons_zero, List.set_cons_succ]
    refine takeD (i := 3) (some 56) (v := ?_) rfl rfl (by kernel_rfl) (by kernel_rfl) (by kernel_rfl) (fun _ _ _ h => h) (by kernel_rfl) ?_ (by assumption) ?_
    rotate_left
    · intro wx hSw
      obtain ⟨hS1, hS2, hS3, hS4, hS5⟩ := hSw
      go_simp
      try (with_reducible rfl)
    try simp only [Act.put, List.setIfInBounds_toArray, List.set_cons_zero, List.set_cons_succ]
    refine takeD (i := 4) (some 57) (v := ?_) rfl rfl (by kernel_rfl) (by kernel_rfl) (by kernel_rfl) (fun _ _ _ h => h) (by kernel_rfl) ?_ (by assumption) ?_
    rotate_left
    · intro wx hSw
      obtain ⟨hS1, hS2, hS3, hS4, hS5⟩ := hSw
      go_simp
      try (with_reducible rfl)
    try simp only [Act.put, List.setIfInBounds_toArray, List.set_cons_zero, List.set_cons_succ]
    refine takeD (i := 5) (some 58) (v := ?_) rfl rfl (by kernel_rfl) (by kernel_rfl) (by kernel_rfl) (fun _ _ _ h => h) (by kernel_rfl) ?_ (by assumption) ?_
    rotate_left
    · intro wx hSw
      obtain ⟨hS1, hS2, hS3, hS4, hS5⟩ := hSw
      go_simp
      try (with_reducible rfl)
    try simp only [Act.put, List.setIfInBounds_toArray, List.set_cons_zero, List.set_cons_succ]
    refine takeD (i := 6) (some 59) (v := ?_) rfl rfl (by kernel_rfl) (by kernel_rfl) (by kernel_rfl) (fun _ _ _ h => h) (by kernel_rfl) ?_ (by assumption) ?_
    rotate_left
    · intro wx hSw
      obtain ⟨hS1, hS2, hS3, hS4, hS5⟩ := hSw
      go_simp
      try (with_reducible rfl)
    try simp only [Act.put, List.setIfInBounds_toArray, List.set_cons_zero, List.set_cons_succ]
    refine takeD (i := 7) (some 60) (v := ?_) rfl rfl (by kernel_rfl) (by kernel_rfl) (by kernel_rfl) (fun _ _ _ h => h) (by kernel_rfl) ?_ (by assumption) ?_
    rotate_left
    · intro wx hSw
      obtain ⟨hS1, hS2, hS3, hS4, hS5⟩ := hSw
      go_simp
      try (with_reducible rfl)
    try simp only [Act.put, List.setIfInBounds_toArray, List.set_cons_zero, List.set_cons_succ]
    refine takeD (i := 8) (some 61) (v := ?_) rfl rfl (by kernel_rfl) (by kernel_rfl) (by kernel_rfl) (fun _ _ _ h => h) (by kernel_rfl) ?_ (by assumption) ?_
    rotate_left
    · intro wx hSw
      obtain ⟨hS1, hS2, hS3, hS4, hS5⟩ := hSw
      go_simp
      try (with_reducible rfl)
    try simp only [Act.put, List.setIfInBounds_toArray, List.set_cons_zero, List.set_cons_succ]
    refine takeD (i := 9) (some 62) (v := ?_) rfl rfl (by kernel_rfl) (by kernel_rfl) (by kernel_rfl) (fun _ _ _ h => h) (by kernel_rfl) ?_ (by assumption) ?_
    rotate_left
    · intro wx hSw
      obtain ⟨hS1, hS2, hS3, hS4, hS5⟩ := hSw
      go_simp
      try (with_reducible rfl)
    try simp only [Act.put, List.setIfInBounds_toArray, List.set_cons_zero, List.set_cons_succ]
    refine takeD (i := 10) (some 63) (v := ?_) rfl rfl (by kernel_rfl) (by kernel_rfl) (by kernel_rfl) (fun _ _ _ h => h) (by kernel_rfl) ?_ (by assumption) ?_
    rotate_left
    · intro wx hSw
      obtain ⟨hS1, hS2, hS3, hS4, hS5⟩ := hSw
      go_simp
      try (with_reducible rfl)
    try simp only [Act.put, List.setIfInBounds_toArray, List.set_cons_zero, List.set_cons_succ]
    refine takeD (i := 11) (some 64) (v := ?_) rfl rfl (by kernel_rfl) (by kernel_rfl) (by kernel_rfl) (fun _ _ _ h => h) (by kernel_rfl) ?_ (by assumption) ?_
    rotate_left
    · intro wx hSw
      obtain ⟨hS1, hS2, hS3, hS4, hS5⟩ := hSw
      go_simp
      try (with_reducible rfl)
    try simp only [Act.put, List.setIfInBounds_toArray, List.set_cons_zero, List.set_cons_succ]
    refine takeD (i := 12) (some 65) (v := ?_) rfl rfl (by kernel_rfl) (by kernel_rfl) (by kernel_rfl) (fun _ _ _ h => h) (by kernel_rfl) ?_ (by assumption) ?_
    rotate_left
    · intro wx hSw
      obtain ⟨hS1, hS2, hS3, hS4, hS5⟩ := hSw
      go_simp
      try (with_reducible rfl)
    try simp only [Act.put, List.setIfInBounds_toArray, List.set_cons_zero, List.set_cons_succ]
    refine takeD (i := 13) (some 66) (v := ?_) rfl rfl (by kernel_rfl) (by kernel_rfl) (by kernel_rfl) (fun _ _ _ h => h) (by kernel_rfl) ?_ (by assumption) ?_
    rotate_left
    · intro wx hSw
      obtain ⟨hS1, hS2, hS3, hS4, hS5⟩ := hSw
      go_simp
      try (with_reducible rfl)
    try simp only [Act.put, List.setIfInBounds_toArray, List.set_cons_zero, List.set_cons_succ]
    refine takeD (i := 14) (some 67) (v := ?_) rfl rfl (by kernel_rfl) (by kernel_rfl) (by kernel_rfl) (fun _ _ _ h => h) (by kernel_rfl) ?_ (by assumption) ?_
    rotate_left
    · intro wx hSw
      obtain ⟨hS1, hS2, hS3, hS4, hS5⟩ := hSw
      go_simp
      try (with_reducible rfl)
    try simp only [Act.put, List.setIfInBounds_toArray, List.set_cons_zero, List.set_cons_succ]
    refine takeD (i := 15) (some 68) (v := ?_) rfl rfl (by kernel_rfl) (by kernel_rfl) (by kernel_rfl) (fun _ _ _ h => h) (by kernel_rfl) ?_ (by assumption) ?_
    rotate_left
    · intro wx hSw
      obtain ⟨hS1, hS2, hS3, hS4, hS5⟩ := hSw
      go_simp
      try (with_reducible rfl)
    try simp only [Act.put, List.setIfInBounds_toArray, List.set_cons_zero, List.set_cons_succ]
    refine takeD (i := 16) (some 69) (v := ?_) rfl rfl (by kernel_rfl) (by kernel_rfl) (by kernel_rfl) (fun _ _ _ h => h) (by kernel_rfl) ?_ (by assumption) ?_
    rotate_left
    · intro wx hSw
      obtain ⟨hS1, hS2, hS3, hS4, hS5⟩ := hSw
      go_simp
      try (with_reducible rfl)
    try simp only [Act.put, List.setIfInBounds_toArray, List.set_cons_zero, List.set_cons_succ]
    refine takeD (i := 17) (some 70) (v := ?_) rfl rfl (by kernel_rfl) (by kernel_rfl) (by kernel_rfl) (fun _ _ _ h => h) (by kernel_rfl) ?_ (by assumption) ?_
    rotate_left
    · intro wx hSw
      obtain ⟨hS1, hS2, hS3, hS4, hS5⟩ := hSw
      go_simp
      try (with_reducible rfl)
    try simp only [Act.put, List.setIfInBounds_toArray, List.set_cons_zero, List.set_cons_succ]
    refine takeD (i := 18) (some 71) (v := ?_) rfl rfl (by kernel_rfl) (by kernel_rfl) (by kernel_rfl) (fun _ _ _ h => h) (by kernel_rfl) ?_ (by assumption) ?_
    rotate_left
    · intro wx hSw
      obtain ⟨hS1, hS2, hS3, hS4, hS5⟩ := hSw
      go_simp
      try (with_reducible rfl)
    try simp only [Act.put, List.setIfInBounds_toArray, List.set_cons_zero, List.set_cons_succ]
    refine takeD (i := 19) (some 72) (v := ?_) rfl rfl (by kernel_rfl) (by kernel_rfl) (by kernel_rfl) (fun _ _ _ h => h) (by kernel_rfl) ?_ (by assumption) ?_
    rotate_left
    · intro wx hSw
      obtain ⟨hS1, hS2, hS3, hS4, hS5⟩ := hSw
      go_simp
      try (with_reducible rfl)
    try simp only [Act.put, List.setIfInBounds_toArray, List.set_cons_zero, List.set_cons_succ]
    refine takeD (i := 20) (some 73) (v := ?_) rfl rfl (by kernel_rfl) (by kernel_rfl) (by kernel_rfl) (fun _ _ _ h => h) (by kernel_rfl) ?_ (by assumption) ?_
    rotate_left
    · intro wx hSw
      obtain ⟨hS1, hS2, hS3, hS4, hS5⟩ := hSw
      go_simp
      try (with_reducible rfl)
    try simp only [Act.put, List.setIfInBounds_toArray, List.set_cons_zero, List.set_cons_succ]
    refine takeD (i := 21) (some 74) (v := ?_) rfl rfl (by kernel_rfl) (by kernel_rfl) (by kernel_rfl) (fun _ _ _ h => h) (by kernel_rfl) ?_ (by assumption) ?_
    rotate_left
    · intro wx hSw
      obtain ⟨hS1, hS2, hS3, hS4, hS5⟩ := hSw
      go_simp
      try (with_reducible rfl)
    try simp only [Act.put, List.setIfInBounds_toArray, List.set_cons_zero, List.set_cons_succ]
    refine takeD (i := 22) (some 75) (v := ?_) rfl rfl (by kernel_rfl) (by kernel_rfl) (by kernel_rfl) (fun _ _ _ h => h) (by kernel_rfl) ?_ (by assumption) ?_
    rotate_left
    · intro wx hSw
      obtain ⟨hS1, hS2, hS3, hS4, hS5⟩ := hSw
      go_simp
      try (with_reducible rfl)
    try simp only [Act.put, List.setIfInBounds_toArray, List.set_cons_zero, List.set_cons_succ]
    refine takeD (i := 23) (some 76) (v := ?_) rfl rfl (by kernel_rfl) (by kernel_rfl) (by kernel_rfl) (fun _ _ _ h => h) (by kernel_rfl) ?_ (by assumption) ?_
    rotate_left
    · intro wx hSw
      obtain ⟨hS1, hS2, hS3, hS4, hS5⟩ := hSw
      go_simp
      try (with_reducible rfl)
    try simp only [Act.put, List.setIfInBounds_toArray, List.set_cons_zero, List.set_cons_succ]
    refine takeD (i := 24) (some 77) (v := ?_) rfl rfl (by kernel_rfl) (by kernel_rfl) (by kernel_rfl) (fun _ _ _ h => h) (by kernel_rfl) ?_ (by assumption) ?_
    rotate_left
    · intro wx hSw
      obtain ⟨hS1, hS2, hS3, hS4, hS5⟩ := hSw
      go_simp
      try (with_reducible rfl)
    try simp only [Act.put, List.setIfInBounds_toArray, List.set_cons_zero, List.set_cons_succ]
    refine takeD (i := 25) (some 78) (v := ?_) rfl rfl (by kernel_rfl) (by kernel_rfl) (by kernel_rfl) (fun _ _ _ h => h) (by kernel_rfl) ?_ (by assumption) ?_
    rotate_left
    · intro wx hSw
      obtain ⟨hS1, hS2, hS3, hS4, hS5⟩ := hSw
      go_simp
      try (with_reducible rfl)
    try simp only [Act.put, List.setIfInBounds_toArray, List.set_cons_zero, List.set_cons_succ]
    refine takeD (i := 26) (some 79) (v := ?_) rfl rfl (by kernel_rfl) (by kernel_rfl) (by kernel_rfl) (fun _ _ _ h => h) (by kernel_rfl) ?_ (by assumption) ?_
    rotate_left
    · intro wx hSw
      obtain ⟨hS1, hS2, hS3, hS4, hS5⟩ := hSw
      go_simp
      try (with_reducible rfl)
    try simp only [Act.put, List.setIfInBounds_toArray, List.set_cons_zero, List.set_cons_succ]
    refine takeD (i := 27) (some 80) (v := ?_) rfl rfl (by kernel_rfl) (by kernel_rfl) (by kernel_rfl) (fun _ _ _ h => h) (by kernel_rfl) ?_ (by assumption) ?_
    rotate_left
    · intro wx hSw
      obtain ⟨hS1, hS2, hS3, hS4, hS5⟩ := hSw
      go_simp
      try (with_reducible rfl)
    try simp only [Act.put, List.setIfInBounds_toArray, List.set_cons_zero, List.set_cons_succ]
    refine takeD (i := 28) (some 81) (v := ?_) rfl rfl (by kernel_rfl) (by kernel_rfl) (by kernel_rfl) (fun _ _ _ h => h) (by kernel_rfl) ?_ (by assumption) ?_
    rotate_left
    · intro wx hSw
      obtain ⟨hS1, hS2, hS3, hS4, hS5⟩ := hSw
      go_simp
      try (with_reducible rfl)
    try simp only [Act.put, List.setIfInBounds_toArray, List.set_cons_zero, List.set_cons_succ]
    refine takeD (i := 29) (some 82) (v := ?_) rfl rfl (by kernel_rfl) (by kernel_rfl) (by kernel_rfl) (fun _ _ _ h => h) (by kernel_rfl) ?_ (by assumption) ?_
    rotate_left
    · intro wx hSw
      obtain ⟨hS1, hS2, hS3, hS4, hS5⟩ := hSw
      go_simp
      try (with_reducible rfl)
    try simp only [Act.put, List.setIfInBounds_toArray, List.set_cons_zero, List.set_cons_succ]
    refine takeD (i := 30) (some 83) (v := ?_) rfl rfl (by kernel_rfl) (by kernel_rfl) (by kernel_rfl) (fun _ _ _ h => h) (by kernel_rfl) ?_ (by assumption) ?_
    rotate_left
    · intro wx hSw
      obtain ⟨hS1, hS2, hS3, hS4, hS5⟩ := hSw
      go_simp
      try (with_reducible rfl)
    try simp only [Act.put, List.setIfInBounds_toArray, List.set_cons_zero, List.set_cons_succ]
    refine takeD (i := 31) (some 84) (v := ?_) rfl rfl (by kernel_rfl) (by kernel_rfl) (by kernel_rfl) (fun _ _ _ h => h) (by kernel_rfl) ?_ (by assumption) ?_
    rotate_left
    · intro wx hSw
      obtain ⟨hS1, hS2, hS3, hS4, hS5⟩ := hSw
      go_simp
      try (with_reducible rfl)
    try simp only [Act.put, List.setIfInBounds_toArray, List.set_cons_zero, List.set_cons_succ]
    refine takeD (i := 32) (some 85) (v := ?_) rfl rfl (by kernel_rfl) (by kernel_rfl) (by kernel_rfl) (fun _ _ _ h => h) (by kernel_rfl) ?_ (by assumption) ?_
    rotate_left
    · intro wx hSw
      obtain ⟨hS1, hS2, hS3, hS4, hS5⟩ := hSw
      go_simp
      try (with_reducible rfl)
    try simp only [Act.put, List.setIfInBounds_toArray, List.set_cons_zero, List.set_cons_succ]
    refine takeD (i := 33) (some 86) (v := ?_) rfl rfl (by kernel_rfl) (by kernel_rfl) (by kernel_rfl) (fun _ _ _ h => h) (by kernel_rfl) ?_ (by assumption) ?_
    rotate_left
    · intro wx hSw
      obtain ⟨hS1, hS2, hS3, hS4, hS5⟩ := hSw
      go_simp
      try (with_reducible rfl)
    try simp only [Act.put, List.setIfInBounds_toArray, List.set_cons_zero, List.set_cons_succ]
    refine takeD (i := 34) (some 87) (v := ?_) rfl rfl (by kernel_rfl) (by kernel_rfl) (by kernel_rfl) (fun _ _ _ h => h) (by kernel_rfl) ?_ (by assumption) ?_
    rotate_left
    · intro wx hSw
      obtain ⟨hS1, hS2, hS3, hS4, hS5⟩ := hSw
      go_simp
      try (with_reducible rfl)
    try simp only [Act.put, List.setIfInBounds_toArray, List.set_cons_zero, List.set_cons_succ]
    refine takeD (i := 35) (some 88) (v := ?_) rfl rfl (by kernel_rfl) (by kernel_rfl) (by kernel_rfl) (fun _ _ _ h => h) (by kernel_rfl) ?_ (by assumption) ?_
    rotate_left
    · intro wx hSw
      obtain ⟨hS1, hS2, hS3, hS4, hS5⟩ := hSw
      go_simp
      try (with_reducible rfl)
    try simp only [Act.put, List.setIfInBounds_toArray, List.set_cons_zero, List.set_cons_succ]
    refine takeD (i := 36) (some 89) (v := ?_) rfl rfl (by kernel_rfl) (by kernel_rfl) (by kernel_rfl) (fun _ _ _ h => h) (by kernel_rfl) ?_ (by assumption) ?_
    rotate_left
    · intro wx hSw
      obtain ⟨hS1, hS2, hS3, hS4, hS5⟩ := hSw
      go_simp
      try (with_reducible rfl)
    try simp only [Act.put, List.setIfInBounds_toArray, List.set_cons_zero, List.set_cons_succ]
    refine takeD (i := 37) (some 90) (v := ?_) rfl rfl (by kernel_rfl) (by kernel_rfl) (by kernel_rfl) (fun _ _ _ h => h) (by kernel_rfl) ?_ (by assumption) ?_
    rotate_left
    · intro wx hSw
      obtain ⟨hS1, hS2, hS3, hS4, hS5⟩ := hSw
      go_simp
      try (with_reducible rfl)
    try simp only [Act.put, List.setIfInBounds_toArray, List.set_cons_zero, List.set_cons_succ]
    refine takeD (i := 38) (some 91) (v := ?_) rfl rfl (by kernel_rfl) (by kernel_rfl) (by kernel_rfl) (fun _ _ _ h => h) (by kernel_rfl) ?_ (by assumption) ?_
    rotate_left
    · intro wx hSw
      obtain ⟨hS1, hS2, hS3, hS4, hS5⟩ := hSw
      go_simp
      try (with_reducible rfl)
    try simp only [Act.put, List.setIfInBounds_toArray, List.set_cons_zero, List.set_cons_succ]
    refine takeD (i := 39) (some 92) (v := ?_) rfl rfl (by kernel_rfl) (by kernel_rfl) (by kernel_rfl) (fun _ _ _ h => h) (by kernel_rfl) ?_ (by assumption) ?_
    rotate_left
    · intro wx hSw
      obtain ⟨hS1, hS2, hS3, hS4, hS5⟩ := hSw
      go_simp
      try (with_reducible rfl)
    try simp only [Act.put, List.setIfInBounds_toArray, List.set_cons_zero, List.set_cons_succ]
    refine wpAnyH_ready (rs := [40]) (by kernel_rfl) (by simp) ?_
    refine AllReadyH.cons rfl (fun K hK => ?_) AllReadyH.nil
    go_simp
    refine (sameInts_any N.aD R.aD R.nD N.cD R.cD R.d _ HS.out.d (by have := hN.rd.d; rw [HnD.out, HdD.out] at this; exact this) hR.rd.d).mono ?_
    rintro e w9 ⟨rfl, hsm⟩
    have hb := hsm.below w8.heap.size
    clear hsm
    replace hR := hR.up hb
    replace kR := (hb.block _ (blk_lt kR)).trans kR
    replace hN := hN.up hb
    replace kN := (hb.block _ (blk_lt kN)).trans kN
    replace hB := hB.trans (hb.mono hB.size)
    clear hb
    have hSS : (∀ o, w9.cell? ⟨bN, o, none⟩ = (#[.slice N.aQ N.nQ N.cQ, .slice N.aD R.nD N.cD, .int .i64 N.turn, .bool N.fresh, .slice (some ⟨g1, o1, none⟩) N.nS N.cS] : Array Value)[o]?) ∧ (∀ o, w9.cell? ⟨bR, o, none⟩ = (#[.slice R.aQ R.nQ R.cQ, .slice R.aD R.nD R.cD, .int .i64 R.turn, .bool R.fresh, .slice (some ⟨g2, o2, none⟩) R.nS R.cS] : Array Value)[o]?) ∧ w9.cell? ⟨g1, o1 + kk, none⟩ = some (.slice (some ⟨gz, oz, none⟩) (l + 1) c1) ∧ w9.cell? ⟨g2, o2 + kk, none⟩ = some (.slice a2 l c2) ∧ w9.cell? ⟨gz, oz + l, none⟩ = some (.int .i64 s) := by
      refine ⟨?_, ?_, HFx.out _ hR.rd hN.rd⟩
      · have := blk_cell kN
        rw [HE1.out, HnD.out] at this
        exact this
      · have := blk_cell kR
        rw [HE2.out] at this
        exact this
    try go_wp2_with fail
    refine hK.out _ _ hSS (fun hHeld => ?_)
    clear hK K
    try simp only [Act.put, List.setIfInBounds_toArray, List.set_cons_zero, List.set_cons_succ]
    refine takeD (i := 41) (some 94) (v := ?_) rfl rfl (by kernel_rfl) (by kernel_rfl) (by kernel_rfl) (fun _ _ _ h => h) (by kernel_rfl) ?_ (by assumption) ?_
    rotate_left
    · intro wx hSw
      obtain ⟨hS1, hS2, hS3, hS4, hS5⟩ := hSw
      go_simp
      try (with_reducible rfl)
    try simp only [Act.put, List.setIfInBounds_toArray, List.set_cons_zero, List.set_cons_succ]
    refine takeD (i := 42) (some 2) (v := ?_) rfl rfl (by kernel_rfl) (by kernel_rfl) (by kernel_rfl) (fun _ _ _ h => h) (by kernel_rfl) ?_ (by assumption) ?_
    rotate_left
    · intro wx hSw
      obtain ⟨hS1, hS2, hS3, hS4, hS5⟩ := hSw
      go_simp
      try (with_reducible rfl)
    try simp only [Act.put, List.setIfInBounds_toArray, List.set_cons_zero, List.set_cons_succ]
    refine wpAnyH_done (by kernel_rfl) ?_ _
    clear hHeld
    have B := hB
    go_wp2_with fail
    go_ret
    exact ⟨rfl, B⟩
end Go.Proofs.Ytnfcmiiibkbmfaa
