/- At every round, class and size Waits answers as the specification does, writes into no argument, and its answer owns its memory: the law FnExactWaits returns true for every argument, under no condition. -/
import Derived.Test.YtapmhpdcgghihaaRows
import Derived.Test.YtapmhpdcgghihaaRnWaitS
import Derived.Test.YtapmhpdcgghihaaRnSz
import Derived.Test.YtapmhpdcgghihaaLiftR
import Derived.ProofKit
import Derived.OpenShut
import Derived.ShutString
import Derived.ChangeOld
import Derived.Below
namespace Go.Proofs.Ytapmhpdcgghihaa
open Go.ChangeShapes Go.WideShapes Go.ChangeAt Go.RowKit
set_option linter.unusedVariables false

theorem ownOkW : ownKnob Try.prog.godebug = none := by kernel_rfl
theorem Alike.smallW {A B : Rnd} (h : Alike A B) (hs : A.Small) : B.Small := ⟨by rw [h.nQ]; exact hs.q, by rw [h.nD]; exact hs.d, by rw [h.nS]; exact hs.s, fun i hi => by rw [h.l]; exact hs.l i (by rw [← h.nS]; exact hi)⟩
theorem waitsP_copy {R : Rnd} {c s : Int} {gQ gD gS : Nat} {G : Nat → Nat} : waitsP (R.copy gQ gD gS G) c s ↔ waitsP R c s := ⟨fun h => ⟨copy_ok.1 h.1, h.2⟩, fun h => ⟨copy_ok.2 h.1, h.2⟩⟩
theorem waitsM_copy {R : Rnd} {c s : Int} {ok : Bool} {gQ gD gS : Nat} {G : Nat → Nat} : Alike (waitsM R c s ok) (waitsM (R.copy gQ gD gS G) c s ok) := by
  cases ok
  · exact Alike.refl _
  · exact ⟨rfl, rfl, rfl, rfl, rfl, rfl, rfl, rfl, rfl⟩
theorem copy_small {R : Rnd} {gQ gD gS : Nat} {G : Nat → Nat} (h : R.Small) : (R.copy gQ gD gS G).Small := ⟨h.q, h.d, h.s, h.l⟩
theorem waitsM_small {R : Rnd} {c s : Int} {ok : Bool} (hs : R.Small) (hok : ok = true ↔ waitsP R c s) : (waitsM R c s ok).Small := by
  cases ok
  · exact ⟨Nat.zero_le _, Nat.zero_le _, Nat.zero_le _, fun i _ => Nat.zero_le _⟩
  · refine ⟨hs.q, hs.d, hs.s, fun i hi => ?_⟩
    have h1 := (hok.1 rfl).2.2.2
    show (if i = c.toNat then R.L c.toNat + 1 else R.L i) ≤ 1048576
    split
    · omega
    · exact hs.l i hi
theorem sumL_push (L : Nat → Nat) (c n : Nat) : sumL (fun i => if i = c then L c + 1 else L i) n ≤ sumL L n + 1 ∧ (n ≤ c → sumL (fun i => if i = c then L c + 1 else L i) n = sumL L n) := by
  induction n with
  | zero => exact ⟨Nat.zero_le _, fun _ => rfl⟩
  | succ k ih =>
    show sumL _ k + (if k = c then L c + 1 else L k) ≤ sumL L k + L k + 1 ∧ (k + 1 ≤ c → sumL _ k + (if k = c then L c + 1 else L k) = sumL L k + L k)
    by_cases e : k = c
    · have h1 := ih.2 (by omega)
      rw [if_pos e, ← e] at *
      refine ⟨by omega, fun h => by omega⟩
    · rw [if_neg e]
      refine ⟨by have := ih.1; omega, fun h => by have := ih.2 (by omega); omega⟩
theorem waitsM_sum {R RG : Rnd} {c s : Int} {ok : Bool} (h : Alike (waitsM R c s ok) RG) (hs : sumL R.L R.nS ≤ 1048576) : sumL RG.L RG.nS ≤ 5000000 := by
  rw [h.l, h.nS]
  cases ok
  · exact Nat.zero_le _
  · have := (sumL_push R.L c.toNat R.nS).1
    show sumL (fun i => if i = c.toNat then R.L c.toNat + 1 else R.L i) R.nS ≤ 5000000
    omega
set_option maxHeartbeats 20000000 in
theorem waits_law (R : Rnd) (c s : Int) (w : World) (hf : R.Fit) (h : RdRnd w R) :
    Calls Try.prog 5 #[.agg R.cells, .int .i64 c, .int .i64 s] w fun e w' => e = .returned (.bool true) ∧ Below w.heap.size w w' := by
  obtain ⟨ok, hok⟩ := ok_decR (waitsP R c s)
  have HO : Hid (ok = true ↔ waitsP R c s) := hok
  have HOc : Hid (∀ gQ gD gS G, ok = true ↔ waitsP (R.copy gQ gD gS G) c s) := fun _ _ _ _ => hok.trans waitsP_copy.symm
  have HR : Hid (RdRnd w R) := h
  have HF : Hid R.Fit := hf
  have hbb : (ok != ok) = false := by cases ok <;> rfl
  have HA : Hid (∀ o, Below w.heap.size w (w.alloc o)) := fun o => (Below.refl _ _).alloc (Nat.le_refl _) _
  clear h hf hok
  unfold Rnd.cells
  go_enter Try.func5, Try.ntmps5
  go_wp2_with fail
  refine (szRoundS_any R _ HF.out (HR.out.up (HA.out _))).mono ?_
  rintro e w1 ⟨⟨r, rfl, hr⟩, hb⟩
  have hB := first hb
  clear hb
  rcases hr with rfl | ⟨r0, hs, hsum⟩
  · have B := under hB
    go_wp2_with fail
    go_ret
    exact ⟨rfl, B⟩
  have HS : Hid R.Small := hs
  have HSum : Hid (sumL R.L R.nS ≤ 1048576) := hsum
  clear hs hsum
  have cb := boxed hB
  have hr0 : ¬ r < 0 := by omega
  go_wp2_with fail
  refine (toRound_any R _ HS.out (HR.out.up (under hB))).mono ?_
  rintro e w2 ⟨gQ, gD, gS, G, rfl, _, j2, hb2⟩
  replace hB := next hB hb2
  replace cb := boxed hB
  clear hb2
  simp only [Rnd.copy, Rnd.cells]
  go_wp2_with fail
  refine (sWaits_any (R.copy gQ gD gS G) c s _ (copy_small HS.out) j2.rd ok (HOc.out _ _ _ _)).mono ?_
  rintro e w3 ⟨RW, rfl, hW, hb3, hAW⟩
  have HAW : Hid (Alike (waitsM R c s ok) RW) := waitsM_copy.trans hAW
  have HW0 : Hid (OwnRn w3 w2.heap.size RW) := hW
  replace hB := next hB hb3
  replace cb := boxed hB
  clear hb3 hAW j2
  have hA := (Below.refl w3.heap.size w3).alloc (Nat.le_refl _) (.cells #[.slice RW.aQ RW.nQ RW.cQ, .slice RW.aD RW.nD RW.cD, .int .i64 RW.turn, .bool RW.fresh, .slice RW.aS RW.nS RW.cS] 28)
  have kW := blk_new w3 (.cells #[.slice RW.aQ RW.nQ RW.cQ, .slice RW.aD RW.nD RW.cD, .int .i64 RW.turn, .bool RW.fresh, .slice RW.aS RW.nS RW.cS] 28)
  have HEA : Hid ((w3.alloc (.cells #[.slice RW.aQ RW.nQ RW.cQ, .slice RW.aD RW.nD RW.cD, .int .i64 RW.turn, .bool RW.fresh, .slice RW.aS RW.nS RW.cS] 28)).heap.size = w3.heap.size + 1) := by rw [Hid]; simp
  replace hW := hW.up hA
  replace hB := next hB hA
  replace cb := boxed hB
  clear hA
  dsimp only [Rnd.cells]
  go_wp2_with fail
  generalize w3.alloc (.cells #[.slice RW.aQ RW.nQ RW.cQ, .slice RW.aD RW.nD RW.cD, .int .i64 RW.turn, .bool RW.fresh, .slice RW.aS RW.nS RW.cS] 28) = wa at *
  refine (toRound_any R _ HS.out (HR.out.up (under hB))).mono ?_
  rintro e w4 ⟨gQ4, gD4, gS4, G4, rfl, hlo, j4, hb⟩
  have hX := j4.own hlo
  have HX0 : Hid (OwnRn w4 wa.heap.size (R.copy gQ4 gD4 gS4 G4)) := hX
  have HwA : Hid (w.heap.size + 1 ≤ wa.heap.size) := upper hB
  have HA4 : Hid (wa.heap.size ≤ w4.heap.size) := hb.size
  replace hW := hW.up hb
  replace kW := (hb.block _ (blk_lt kW)).trans kW
  replace hB := next hB hb
  replace cb := boxed hB
  clear hb j4 hlo
  have hA := (Below.refl w4.heap.size w4).alloc (Nat.le_refl _) (.cells #[.slice (some ⟨gQ4, 0, none⟩) R.nQ R.nQ, .slice (some ⟨gD4, 0, none⟩) R.nD R.nD, .int .i64 R.turn, .bool R.fresh, .slice (some ⟨gS4, 0, none⟩) R.nS R.nS] 28)
  have kX := blk_new w4 (.cells #[.slice (some ⟨gQ4, 0, none⟩) R.nQ R.nQ, .slice (some ⟨gD4, 0, none⟩) R.nD R.nD, .int .i64 R.turn, .bool R.fresh, .slice (some ⟨gS4, 0, none⟩) R.nS R.nS] 28)
  have HEB : Hid ((w4.alloc (.cells #[.slice (some ⟨gQ4, 0, none⟩) R.nQ R.nQ, .slice (some ⟨gD4, 0, none⟩) R.nD R.nD, .int .i64 R.turn, .bool R.fresh, .slice (some ⟨gS4, 0, none⟩) R.nS R.nS] 28)).heap.size = w4.heap.size + 1) := by rw [Hid]; simp
  replace hW := hW.up hA
  replace hX := hX.up hA
  replace kW := (hA.block _ (blk_lt kW)).trans kW
  replace hB := next hB hA
  replace cb := boxed hB
  clear hA
  simp only [Rnd.copy, Rnd.cells]
  go_wp2_with fail
  generalize w4.alloc (.cells #[.slice (some ⟨gQ4, 0, none⟩) R.nQ R.nQ, .slice (some ⟨gD4, 0, none⟩) R.nD R.nD, .int .i64 R.turn, .bool R.fresh, .slice (some ⟨gS4, 0, none⟩) R.nS R.nS] 28) = wb at *
  refine (iWaits_any (R.copy gQ4 gD4 gS4 G4) c s _ (copy_small HS.out) hX.rd ok (HOc.out _ _ _ _)).mono ?_
  rintro e w5 ⟨RG, rfl, hG, hb, hAG⟩
  have HAG : Hid (Alike (waitsM R c s ok) RG) := waitsM_copy.trans hAG
  have HG0 : Hid (OwnRn w5 wb.heap.size RG) := hG
  have Hb5 : Hid (wb.heap.size ≤ w5.heap.size) := hb.size
  replace hW := hW.up hb
  replace hX := hX.up hb
  replace kW := (hb.block _ (blk_lt kW)).trans kW
  replace kX := (hb.block _ (blk_lt kX)).trans kX
  replace hB := next hB hb
  replace cb := boxed hB
  clear hb hAG
  have hA := (Below.refl w5.heap.size w5).alloc (Nat.le_refl _) (.cells #[.slice RG.aQ RG.nQ RG.cQ, .slice RG.aD RG.nD RG.cD, .int .i64 RG.turn, .bool RG.fresh, .slice RG.aS RG.nS RG.cS] 28)
  have kG := blk_new w5 (.cells #[.slice RG.aQ RG.nQ RG.cQ, .slice RG.aD RG.nD RG.cD, .int .i64 RG.turn, .bool RG.fresh, .slice RG.aS RG.nS RG.cS] 28)
  replace hW := hW.up hA
  replace hX := hX.up hA
  replace hG := hG.up hA
  replace kW := (hA.block _ (blk_lt kW)).trans kW
  replace kX := (hA.block _ (blk_lt kX)).trans kX
  replace hB := next hB hA
  replace cb := boxed hB
  clear hA
  have cW := blk_cell kW
  dsimp only [Rnd.cells]
  go_wp2_with fail
  generalize w5.alloc (.cells #[.slice RG.aQ RG.nQ RG.cQ, .slice RG.aD RG.nD RG.cD, .int .i64 RG.turn, .bool RG.fresh, .slice RG.aS RG.nS RG.cS] 28) = wc at *
  have HGW : Hid (Alike RG RW) := HAG.out.symm.trans HAW.out
  have HGs : Hid RG.Small := HAG.out.smallW (waitsM_small HS.out HO.out)
  have HGm : Hid (sumL RG.L RG.nS ≤ 5000000) := waitsM_sum HAG.out HSum.out
  refine (eqRound_any RG RW _ HGs.out hG.rd hW.rd HGW.out.nQ HGW.out.q HGW.out.nD HGW.out.d HGW.out.t HGW.out.f HGW.out.nS HGW.out.l HGW.out.z).mono ?_
  rintro e w6 ⟨rfl, hb⟩
  clear cW
  replace hW := hW.up hb
  replace hX := hX.up hb
  replace hG := hG.up hb
  replace kW := (hb.block _ (blk_lt kW)).trans kW
  replace kX := (hb.block _ (blk_lt kX)).trans kX
  replace kG := (hb.block _ (blk_lt kG)).trans kG
  replace hB := next hB hb
  replace cb := boxed hB
  clear hb
  have cX := blk_cell kX
  go_wp2_with fail
  refine wp_region_held_drew (S := fun w' => (∀ o, w'.cell? ⟨w.heap.size, o, none⟩ = (#[.slice R.aQ R.nQ R.cQ, .slice R.aD R.nD R.cD, .int .i64 R.turn, .bool R.fresh, .slice R.aS R.nS R.cS] : Array Value)[o]?) ∧ ∀ o, w'.cell? ⟨w4.heap.size, o, none⟩ = (#[.slice (some ⟨gQ4, 0, none⟩) R.nQ R.nQ, .slice (some ⟨gD4, 0, none⟩) R.nD R.nD, .int .i64 R.turn, .bool R.fresh, .slice (some ⟨gS4, 0, none⟩) R.nS R.nS] : Array Value)[o]?) (by kernel_rfl) ⟨cb, cX⟩ (fun hHeld => ?_)
  refine takeD (i := 0) (some 49) (v := ?_) rfl rfl (by kernel_rfl) (by kernel_rfl) (by kernel_rfl) (fun _ _ _ h => h) (by kernel_rfl) ?_ (by assumption) ?_
  rotate_left
  · intro wx hSw
    obtain ⟨hS1, hS2⟩ := hSw
    go_simp
    try (with_reducible rfl)
  try simp only [Act.put, List.setIfInBounds_toArray, List.set_cons_zero, List.set_cons_succ]
  refine takeD (i := 1) (some 50) (v := ?_) rfl rfl (by kernel_rfl) (by kernel_rfl) (by kernel_rfl) (fun _ _ _ h => h) (by kernel_rfl) ?_ (by assumption) ?_
  rotate_left
  · intro wx hSw
    obtain ⟨hS1, hS2⟩ := hSw
    go_simp
    try (with_reducible rfl)
  try simp only [Act.put, List.setIfInBounds_toArray, List.set_cons_zero, List.set_cons_succ]
  refine wpAnyH_ready (rs := [2]) (by kernel_rfl) (by simp) ?_
  refine AllReadyH.cons rfl (fun K hK => ?_) AllReadyH.nil
  go_simp
  have hd : Below w6.heap.size w6 w6.drew := (Below.refl _ _).drew
  replace hW := hW.up hd
  replace hX := hX.up hd
  replace hG := hG.up hd
  replace kW := (hd.block _ (blk_lt kW)).trans kW
  replace kX := (hd.block _ (blk_lt kX)).trans kX
  replace kG := (hd.block _ (blk_lt kG)).trans kG
  replace hB := next hB hd
  replace cb := boxed hB
  clear hd
  refine (toRound_any R _ HS.out (HR.out.up (under hB))).mono ?_
  rintro e w7 ⟨gQ7, gD7, gS7, G7, rfl, _, j7, hb⟩
  replace hW := hW.up hb
  replace hX := hX.up hb
  replace hG := hG.up hb
  replace kW := (hb.block _ (blk_lt kW)).trans kW
  replace kX := (hb.block _ (blk_lt kX)).trans kX
  replace kG := (hb.block _ (blk_lt kG)).trans kG
  replace hB := next hB hb
  replace cb := boxed hB
  replace cX := blk_cell kX
  clear hb
  simp only [Rnd.copy, Rnd.cells]
  go_wp2_with fail
  refine hK.out _ _ ⟨cb, cX⟩ (fun hHeld => ?_)
  clear hK K
  try simp only [Act.put, List.setIfInBounds_toArray, List.set_cons_zero, List.set_cons_succ]
  refine wpAnyH_ready (rs := [3]) (by kernel_rfl) (by simp) ?_
  refine AllReadyH.cons rfl (fun K hK => ?_) AllReadyH.nil
  go_simp
  refine (eqRound_any (R.copy gQ4 gD4 gS4 G4) (R.copy gQ7 gD7 gS7 G7) _ (copy_small HS.out) hX.rd j7.rd rfl rfl rfl rfl rfl rfl rfl rfl rfl).mono ?_
  rintro e w8 ⟨rfl, hb⟩
  clear j7
  replace hW := hW.up hb
  replace hX := hX.up hb
  replace hG := hG.up hb
  replace kW := (hb.block _ (blk_lt kW)).trans kW
  replace kX := (hb.block _ (blk_lt kX)).trans kX
  replace kG := (hb.block _ (blk_lt kG)).trans kG
  replace hB := next hB hb
  replace cb := boxed hB
  replace cX := blk_cell kX
  clear hb
  go_wp2_with fail
  refine hK.out _ _ ⟨cb, cX⟩ (fun hHeld => ?_)
  clear hK K
  try simp only [Act.put, List.setIfInBounds_toArray, List.set_cons_zero, List.set_cons_succ]
  refine takeD (i := 4) (some 53) (v := ?_) rfl rfl (by kernel_rfl) (by kernel_rfl) (by kernel_rfl) (fun _ _ _ h => h) (by kernel_rfl) ?_ (by assumption) ?_
  rotate_left
  · intro wx hSw
    obtain ⟨hS1, hS2⟩ := hSw
    go_simp
    try (with_reducible rfl)
  try simp only [Act.put, List.setIfInBounds_toArray, List.set_cons_zero, List.set_cons_succ]
  refine wpAnyH_done (by kernel_rfl) ?_ _
  clear hHeld
  clear cX
  have cX := blk_cell kX
  go_wp2_with fail
  refine (markRound_any (R.copy gQ4 gD4 gS4 G4) 1 wa.heap.size _ hX (copy_small HS.out) (show sumL R.L R.nS ≤ 5000000 by have := HSum.out; omega) (by omega) (by have := blk_lt kG; have := HA4.out; have := HEB.out; have := Hb5.out; omega)).mono ?_
  rintro e w9 ⟨T, rfl, hXm, hT, hTb⟩
  have hTb := hTb w4 HX0.out
  have eA := HEA.out
  have eB := HEB.out
  have e5 := Hb5.out
  have eW := HwA.out
  have hW9 := hW.touchHi HW0.out hT (fun x hx => by have := (hTb x hx).1; omega)
  have hG9 := hG.touch hT (fun x hx => by have := (hTb x hx).2; omega)
  have kW9 := (hT.block _ (blk_lt kW) (fun hx => by have := (hTb _ hx).1; omega)).trans kW
  have kG9 := (hT.block _ (blk_lt kG) (fun hx => by have := (hTb _ hx).2; omega)).trans kG
  have hB9 := hB.trans (hT.below (upper hB) (fun x hx => by have := (hTb x hx).1; omega))
  clear hW hG kW kG kX hX hXm hT hTb hB cb cX eA eB e5 eW
  have cb := boxed hB9
  have cW := blk_cell kW9
  have cG := blk_cell kG9
  generalize hKX : (((R.copy gQ4 gD4 gS4 G4).total 1 : Nat) : Int) = KX at *
  have hkx : ¬ KX < 0 := by omega
  go_wp2_with fail
  refine (eqRound_any RG RW _ HGs.out hG9.rd hW9.rd HGW.out.nQ HGW.out.q HGW.out.nD HGW.out.d HGW.out.t HGW.out.f HGW.out.nS HGW.out.l HGW.out.z).mono ?_
  rintro e w10 ⟨rfl, hb⟩
  have hW := hW9.up hb
  have hG := hG9.up hb
  have kW := (hb.block _ (blk_lt kW9)).trans kW9
  have kG := (hb.block _ (blk_lt kG9)).trans kG9
  have hB := next hB9 hb
  clear hW9 hG9 kW9 kG9 cW cG cb hb hB9
  have cb := boxed hB
  have cG := blk_cell kG
  go_wp2_with fail
  refine (markRound_any RG 1 wb.heap.size _ hG HGs.out HGm.out (by omega) (by have := blk_lt kG; have := Hb5.out; omega)).mono ?_
  rintro e w11 ⟨T, rfl, hM, hT, hTb⟩
  have hTb := hTb w5 HG0.out
  have eA := HEA.out
  have eB := HEB.out
  have e4 := HA4.out
  have eW := HwA.out
  have hW11 := hW.touchHi HW0.out hT (fun x hx => by have := (hTb x hx).1; omega)
  have kW11 := (hT.block _ (blk_lt kW) (fun hx => by have := (hTb _ hx).1; omega)).trans kW
  have kG11 := (hT.block _ (blk_lt kG) (fun hx => by have := (hTb _ hx).2; omega)).trans kG
  have hB11 := hB.trans (hT.below (upper hB) (fun x hx => by have := (hTb x hx).1; omega))
  clear hW hG kW kG cG cb hT hTb hB eA eB e4 eW
  have cG := blk_cell kG11
  have cb := boxed hB11
  generalize hKK : ((RG.total 1 : Nat) : Int) = KK at *
  have hk1 : ¬ KK < 0 := by omega
  have hk2 : (KK != KK) = false := by simp
  go_wp2_with fail
  refine (heldRound_any RG 1 wb.heap.size _ hM HGs.out HGm.out (by omega)).mono ?_
  rintro e w12 ⟨rfl, hb⟩
  rw [hKK]
  have hW := hW11.up hb
  replace hM := hM.up hb
  have kW := (hb.block _ (blk_lt kW11)).trans kW11
  have kG := (hb.block _ (blk_lt kG11)).trans kG11
  have hB := next hB11 hb
  replace cb := boxed hB
  clear hW11 kW11 kG11 cG hb hB11
  go_wp2_with fail
  refine (toRound_any R _ HS.out (HR.out.up (under hB))).mono ?_
  rintro e w13 ⟨gQ8, gD8, gS8, G8, rfl, _, j8, hb⟩
  replace hW := hW.up hb
  replace hM := hM.up hb
  replace kW := (hb.block _ (blk_lt kW)).trans kW
  replace kG := (hb.block _ (blk_lt kG)).trans kG
  replace hB := next hB hb
  replace cb := boxed hB
  clear hb
  simp only [Rnd.copy, Rnd.cells]
  go_wp2_with fail
  refine (iWaits_any (R.copy gQ8 gD8 gS8 G8) c s _ (copy_small HS.out) j8.rd ok (HOc.out _ _ _ _)).mono ?_
  rintro e w14 ⟨RH, rfl, hH, hb, hAH⟩
  have HHW : Hid (Alike RH RW) := (waitsM_copy.trans hAH).symm.trans HAW.out
  have HHs : Hid RH.Small := (waitsM_copy.trans hAH).smallW (waitsM_small HS.out HO.out)
  replace hW := hW.up hb
  replace hM := hM.up hb
  replace kW := (hb.block _ (blk_lt kW)).trans kW
  replace kG := (hb.block _ (blk_lt kG)).trans kG
  replace hB := next hB hb
  replace cb := boxed hB
  clear hb hAH j8
  have hA := (Below.refl w14.heap.size w14).alloc (Nat.le_refl _) (.cells #[.slice RH.aQ RH.nQ RH.cQ, .slice RH.aD RH.nD RH.cD, .int .i64 RH.turn, .bool RH.fresh, .slice RH.aS RH.nS RH.cS] 28)
  replace hH := hH.up hA
  replace hW := hW.up hA
  replace hM := hM.up hA
  replace kW := (hA.block _ (blk_lt kW)).trans kW
  replace kG := (hA.block _ (blk_lt kG)).trans kG
  replace hB := next hB hA
  replace cb := boxed hB
  clear hA
  have cW := blk_cell kW
  dsimp only [Rnd.cells]
  go_wp2_with fail
  generalize w14.alloc (.cells #[.slice RH.aQ RH.nQ RH.cQ, .slice RH.aD RH.nD RH.cD, .int .i64 RH.turn, .bool RH.fresh, .slice RH.aS RH.nS RH.cS] 28) = wd at *
  refine (eqRound_any RH RW _ HHs.out hH.rd hW.rd HHW.out.nQ HHW.out.q HHW.out.nD HHW.out.d HHW.out.t HHW.out.f HHW.out.nS HHW.out.l HHW.out.z).mono ?_
  rintro e w15 ⟨rfl, hb⟩
  clear cW hH
  replace hW := hW.up hb
  replace hM := hM.up hb
  replace kW := (hb.block _ (blk_lt kW)).trans kW
  replace kG := (hb.block _ (blk_lt kG)).trans kG
  replace hB := next hB hb
  replace cb := boxed hB
  clear hb hW kW
  have cG := blk_cell kG
  go_wp2_with fail
  refine (heldRound_any RG 1 wb.heap.size _ hM HGs.out HGm.out (by omega)).mono ?_
  rintro e w16 ⟨rfl, hb⟩
  rw [hKK]
  have B := under (next hB hb)
  clear hb hM kG cG cb hB
  go_wp2_with fail
  go_ret
  exact ⟨rfl, B⟩

set_option maxRecDepth 100000 in
theorem waits_lifted (os : Os) (started : os.Started) (H : Type) (enc : TypeId × Value → H) :
    ReturnsInHanded {} Try.checked os 5 .any (Rows.fnExactWaitsSpec.pre6 enc Try.prog Try.f5 Rows.fnExactWaitsRow.domain false) (Rows.fnExactWaitsSpec.post enc Try.prog Try.f5 false true false false) := by
  refine returnsInHanded_of_change (C := Try.checked) ownOkW started (by kernel_rfl) Try.func5
    (ChangeSpec.witness6 (enc := enc) (C := Try.checked) false ⟨#[], #[.agg #[.slice none 0 0, .slice none 0 0, .int .i64 0, .bool false, .slice none 0 0], .int .i64 0, .int .i64 0], []⟩ 8 (by kernel_rfl) (by kernel_rfl) (by kernel_rfl) (by kernel_rfl)) ?_
  intro W base args ds gs before hval0 hW hcnd _
  have hval : ∀ (j : Nat) t v, Try.f5.params[j]? = some t → args[j]? = some v → Value.okWide Try.prog W .any base t v := hval0
  have hW' := hW
  obtain ⟨p, q, hA0, hV, rfl, hfz, hnd⟩ := hW
  have hA : DataW.TrodAll enc Try.prog W 0 (fun _ => true) true Try.f5.params.toList args.toList ds p := hA0
  rw [Try.params5] at hA hval
  obtain ⟨v0, vs0, d0, ds0, p0, q0, hargs, rfl, rfl, h0, r0⟩ := trodAll_cons hA
  obtain ⟨v1, vs1, d1, ds1, p1, q1, rfl, rfl, rfl, h1, r1⟩ := trodAll_cons r0
  obtain ⟨v2, vs2, d2, ds2, p2, q2, rfl, rfl, rfl, h2, r2⟩ := trodAll_cons r1
  obtain ⟨rfl, rfl, rfl⟩ := trodAll_nil r2
  obtain rfl : args = #[v0, v1, v2] := by cases args; simp_all
  obtain ⟨rfl, rfl⟩ := trodVars_none hV
  have k0 := h0
  have lt0 : ∀ x ∈ p0, x.block < W.heap.size := by obtain ⟨m, hm⟩ := k0; exact DataW.trod_lt m _ _ _ hm
  obtain ⟨R0, rfl, f0, rr0⟩ := open_round (hval 0 25 v0 rfl rfl) h0
  obtain ⟨a1, rfl, rfl, rfl, w1⟩ := open_int Try.underlying2 (hval 1 2 v1 rfl rfl) h1
  obtain ⟨a2, rfl, rfl, rfl, w2⟩ := open_int Try.underlying2 (hval 2 2 v2 rfl rfl) h2
  clear hA0 hval0
  refine (waits_law R0 a1 a2 W f0 rr0).mono fun e W' ⟨he, bel⟩ => ?_
  subst he
  exact ⟨_, rfl, _, _, _, [], _, [], hW', trodAll_mk1 (shut_bool Try.underlying4 _), (trodAll_cons_mk (Below.trod laidOutR (by kernel_rfl) (of_decide_eq_true (by kernel_rfl)) k0 bel lt0) (trodAll_cons_mk (shut_int Try.underlying2 w1) (trodAll_cons_mk (shut_int Try.underlying2 w2) trodAll_mk0))), rfl, bel.frame _, fun h => by cases h⟩

theorem waits_holds : Rows.FnExactWaitsSaid :=
  OpenClaim.holds_of_wide 5 Try.f5 rfl rfl rfl rfl rfl rfl rfl ⟨rfl, rfl, rfl, rfl, rfl⟩ rfl rfl rfl rfl rfl (by kernel_rfl) Try.func5 (by kernel_rfl)
    (of_decide_eq_true (by kernel_rfl)) (by unfold Func.isWrapper; first | (rw [if_pos (by decide +kernel)]; kernel_rfl) | (rw [if_neg (by decide +kernel)]; exact ⟨rfl, rfl⟩))
    (fun os started H enc _ => waits_lifted os started H enc)
#print axioms waits_holds
end Go.Proofs.Ytapmhpdcgghihaa
