import Derived.Test.YtlipielghpoaoaaGreatT18
import Derived.Test.YtlipielghpoaoaaGreatT26
import Derived.Test.YtlipielghpoaoaaGreatT27
namespace Go.Proofs.YtlipielghpoaoaaGreat
open Go.RowKit
set_option linter.unusedVariables false
set_option linter.unusedSimpArgs false
set_option maxRecDepth 100000 in
set_option maxHeartbeats 4000000 in
theorem l6Ticked_any (S : Swg) (w : World) (hs : S.Small) (hU : 0 < S.N.nU) (hPp : 0 < S.N.nP) (htab : tabOk S.nE S.e) (h0 : 0 ≤ S.now) (h1 : S.now < 1000000000) (h : RdSg w S) :
  Calls Tryz.prog 42 #[.agg S.cells] w fun e w' => ∃ S2, e = .returned (.agg S2.cells) ∧ AlikeG (S.ticked none 0) S2 ∧ OwnSz w' w.heap.size S2 ∧ Below w.heap.size w w' := by
 have HR : Hid (RdSg w S) := h
 have HS : Hid S.Small := hs
 have HTb : Hid (tabOk S.nE S.e) := htab
 obtain ⟨W, eW⟩ : ∃ W, (w.alloc (.cells S.cells 41)).alloc (.cells #[.int .i64 0, .int .i64 0, .int .i64 0, .int .i64 0, .int .i64 0, .int .i64 0, .int .i64 0, .int .i64 0, .int .i64 0, .slice none 0 0, .slice none 0 0, .int .i64 0, .slice none 0 0, .slice none 0 0, .slice none 0 0, .int .i64 0, .int .i64 0] 41) = W := ⟨_, rfl⟩
 have HX : Hid (Two w S.cells zSw 41 W) := by rw [← eW]; exact Two.start _ _ _ _
 have HL : Hid (∀ j, j < 17 → W.cell? ⟨w.heap.size, 0 + j, none⟩ = S.cells[j]?) := fun j _ => by rw [Nat.zero_add]; exact blk_cell HX.out.a j
 have HW1 : Hid (w.heap.size ≤ W.heap.size) := HX.out.bel.size
 have hw1 : IntKind.i64.wrap (S.now + 1) = S.now + 1 := wrapE _ (by omega) (by omega)
 clear hs h htab
 go_enter Tryz.func42, Tryz.ntmps42
 go_wp2_with (refine wpList_ldT rfl 41 17 _ Tryz.underlying41 rfl infoSgI (.tmp 1) rfl (w.heap.size) 0 rfl S.cells rfl HL.out ?_)
 clear eW HL
 refine (l6Copy_any S _ HS.out hU hPp (HR.out.up HX.out.bel)).mono ?_
 rintro e w2 ⟨P, rfl, aP, oP, hbl⟩
 replace HX : Hid (Two w S.cells zSw 41 w2) := HX.out.up hbl
 have HP : Hid (AlikeG S P ∧ OwnSz w2 w.heap.size P) := ⟨aP, oP.mono HW1.out⟩
 clear aP oP hbl
 have HG : Hid ((w2.alloc (.cells #[.int .i64 0, .int .i64 0, .int .i64 0, .int .i64 0, .int .i64 0, .int .i64 0, .int .i64 0, .int .i64 0, .int .i64 0, .slice none 0 0, .slice none 0 0, .int .i64 0, .slice none 0 0, .slice none 0 0, .slice none 0 0, .int .i64 0, .int .i64 0] 41)).heap[w2.heap.size]? = some (.cells #[.int .i64 0, .int .i64 0, .int .i64 0, .int .i64 0, .int .i64 0, .int .i64 0, .int .i64 0, .int .i64 0, .int .i64 0, .slice none 0 0, .slice none 0 0, .int .i64 0, .slice none 0 0, .slice none 0 0, .slice none 0 0, .int .i64 0, .int .i64 0] 41 (0, 0))) := blk_new _ _
 go_wp2_with (refine wpList_stA rfl 41 (.tmp 3) (.tmp 5) rfl (w2.heap.size) 0 rfl (.agg P.cells) rfl 17 rfl 41 _ HG.out infoSgI (Nat.le_of_ble_eq_true rfl) (Swg.oneC _) ?_)
 intro X0 hP
 replace hP : Put _ X0 w2.heap.size P.cells 41 := hP.cast rfl
 have hbl : Below w2.heap.size w2 X0 := ((Below.refl _ _).alloc (Nat.le_refl _) _).trans (hP.to.below (by simp) (fun x hx => by simp at hx; omega))
 have kN := hP.blk
 have hgN : w.heap.size + 1 < w2.heap.size := blk_lt HX.out.b
 replace HX : Hid (Two w S.cells zSw 41 X0) := HX.out.up hbl
 replace HP : Hid (AlikeG S P ∧ OwnSz X0 w.heap.size P) := ⟨HP.out.1, HP.out.2.up hbl⟩
 clear hP HG hbl
 obtain ⟨gN, eN⟩ : ∃ g, w2.heap.size = g := ⟨_, rfl⟩
 rw [eN] at kN hgN ⊢
 clear eN
 have HgN : Hid (w.heap.size + 1 < gN) := hgN
 have HkN : Hid (X0.heap[gN]? = some (.cells P.cells 41 (0, 0))) := kN
 have c7 : X0.cell? ⟨w.heap.size, 7, none⟩ = some (.int .i64 S.now) := blk_cell HX.out.a 7
 clear kN hgN
 go_wp2_with (refine wpList_stA rfl 2 (.tmp 9) (.tmp 8) rfl gN 7 rfl (.int .i64 (S.now + 1)) rfl 1 rfl 41 _ HkN.out infoI1 (Nat.le_of_ble_eq_true rfl) (by simp [Value.cells, Value.oneCell']) ?_)
 intro X1 hP
 obtain ⟨P1, eP⟩ : ∃ P1, ({ P with now := S.now + 1 } : Swg) = P1 := ⟨_, rfl⟩
 replace hP : Put X0 X1 gN P1.cells 41 := hP.cast (by rw [← eP]; rfl)
 replace HX : Hid (Two w S.cells zSw 41 X1) := HX.out.put hP HgN.out
 have HO1 : Hid (OwnSz X1 w.heap.size P) := HP.out.2.off HkN.out hP.to
 replace HkN : Hid (X1.heap[gN]? = some (.cells P1.cells 41 (0, 0))) := hP.blk
 have c7 : X1.cell? ⟨gN, 7, none⟩ = some (.int .i64 (S.now + 1)) := (blk_cell HkN.out 7).trans (by rw [← eP]; rfl)
 have c9 : X1.cell? ⟨gN, 9, none⟩ = some (.slice P.aE P.nE P.cE) := (blk_cell HkN.out 9).trans (by rw [← eP]; rfl)
 clear hP
 go_wp2_with fail
 clear c7 c9
 refine (l3Aged_any P.aE P.nE P.cE P.e (S.now + 1) _ (by rw [HP.out.1.nE, HP.out.1.e]; exact HTb.out) ⟨by omega, by omega⟩ HO1.out.g.e.g.ents).mono ?_
 rintro e X2 ⟨v, rfl, oA, hbl⟩
 have eT : agedL (entsL P.nE P.e) (S.now + 1) = P.tkL := by unfold Swg.tkL; rw [HP.out.1.now]
 rw [eT] at oA
 obtain ⟨aE, cE, rfl, og⟩ := oA.og
 have HN : Hid (AlikeG (S.ticked none 0) (P.ticked aE cE) ∧ OwnSz X2 w.heap.size (P.ticked aE cE)) := ⟨HP.out.1.tick _ _ _ _, (HO1.out.up hbl).tick (og.mono HX.out.bel.size)⟩
 replace HX : Hid (Two w S.cells zSw 41 X2) := HX.out.up hbl
 replace HkN : Hid (X2.heap[gN]? = some (.cells P1.cells 41 (0, 0))) := (hbl.block _ (blk_lt HkN.out)).trans HkN.out
 have eC : Hid (lay P1.cells 9 #[.slice aE P.tkL.length cE] = (P.ticked aE cE).cells) := by
  rw [Hid, ← eP, ← HP.out.1.now]
  rfl
 clear oA hbl og eT
 go_wp2_with (refine wpList_stA rfl 36 (.tmp 15) (.tmp 14) rfl gN 9 rfl (.slice aE P.tkL.length cE) rfl 1 rfl 41 _ HkN.out infoEs (Nat.le_of_ble_eq_true rfl) (by simp [Value.cells, Value.oneCell']) ?_)
 intro X3 hP
 replace hP : Put X2 X3 gN (P.ticked aE cE).cells 41 := hP.cast eC.out
 replace HX : Hid (Two w S.cells zSw 41 X3) := HX.out.put hP HgN.out
 replace HN : Hid (AlikeG (S.ticked none 0) (P.ticked aE cE) ∧ OwnSz X3 w.heap.size (P.ticked aE cE)) := ⟨HN.out.1, HN.out.2.off HkN.out hP.to⟩
 have HL : Hid (∀ j, j < 17 → X3.cell? ⟨gN, 0 + j, none⟩ = (P.ticked aE cE).cells[j]?) := fun j _ => by rw [Nat.zero_add]; exact blk_cell hP.blk j
 have HD : Hid (X3.heap[w.heap.size + 1]? = some (.cells zSw 41 (0, 0))) := HX.out.b
 clear hP eC eP HkN HO1 HP
 go_wp2_with (first | refine wpList_ldT rfl 41 17 _ Tryz.underlying41 rfl infoSgI (.tmp 3) rfl (gN) 0 rfl (P.ticked aE cE).cells rfl HL.out ?_ | refine wpList_stA rfl 41 (.tmp 2) (.tmp 16) rfl (w.heap.size + 1) 0 rfl (.agg (P.ticked aE cE).cells) rfl 17 rfl 41 _ HD.out infoSgI (Nat.le_of_ble_eq_true rfl) (Swg.oneC _) ?_)
 intro X hP
 replace hP : Put X3 X (w.heap.size + 1) (P.ticked aE cE).cells 41 := hP.cast rfl
 have HK : Hid (X.heap[w.heap.size + 1]? = some (.cells (P.ticked aE cE).cells 41 (0, 0))) := hP.blk
 have HFF : Hid (OwnSz X w.heap.size (P.ticked aE cE) ∧ Below w.heap.size w X) := ⟨HN.out.2.off HD.out hP.to, HX.out.bel.trans (hP.to.below HX.out.bel.size (fun x hx => by simp at hx; omega))⟩
 clear hP HL HD
 go_wp2_with fail
 exact bodyPost_ret (res_cellT Tryz.results42 17 _ Tryz.underlying41 rfl infoSgI _ _ (w.heap.size + 1) (P.ticked aE cE).cells rfl 41 HK.out rfl) rfl ⟨P.ticked aE cE, rfl, HN.out.1, HFF.out.1, HFF.out.2⟩
set_option maxRecDepth 100000 in
set_option maxHeartbeats 4000000 in
theorem sTicked_any (S : Swg) (w : World) (hs : S.Small) (hr : RdSg w S) (ok : Bool) (hok : ok = true ↔ S.Ok) (b : Bool) (hb : b = true ↔ S.Ok ∧ S.now ≠ 1000000000) :
  Calls Tryz.prog 10 #[.agg S.cells] w fun e w' => ∃ S2, e = .returned (.tuple #[.agg S2.cells, .bool b]) ∧ AlikeG (tickOf S b) S2 ∧ OwnSz w' w.heap.size S2 ∧ Below w.heap.size w w' := by
 have HO : Hid (ok = true ↔ S.Ok) := hok
 have HBB : Hid (b = true ↔ S.Ok ∧ S.now ≠ 1000000000) := hb
 have HR : Hid (RdSg w S) := hr
 have HS : Hid S.Small := hs
 obtain ⟨W, eW⟩ : ∃ W, (w.alloc (.cells S.cells 41)).alloc (.cells #[.int .i64 0, .int .i64 0, .int .i64 0, .int .i64 0, .int .i64 0, .int .i64 0, .int .i64 0, .int .i64 0, .int .i64 0, .slice none 0 0, .slice none 0 0, .int .i64 0, .slice none 0 0, .slice none 0 0, .slice none 0 0, .int .i64 0, .int .i64 0] 41) = W := ⟨_, rfl⟩
 have HX : Hid (Two w S.cells zSw 41 W) := by rw [← eW]; exact Two.start _ _ _ _
 have HL : Hid (∀ j, j < 17 → W.cell? ⟨w.heap.size, 0 + j, none⟩ = S.cells[j]?) := fun j _ => by rw [Nat.zero_add]; exact blk_cell HX.out.a j
 clear hs hr hok hb
 go_enter Tryz.func10, Tryz.ntmps10
 go_wp2_with (refine wpList_ldT rfl 41 17 _ Tryz.underlying41 rfl infoSgI (.tmp 1) rfl (w.heap.size) 0 rfl S.cells rfl HL.out ?_)
 clear eW HL
 refine (sSwitchOk_any S _ HS.out (HR.out.up HX.out.bel) ok HO.out).mono ?_
 rintro e w1 ⟨rfl, hbl⟩
 replace HX : Hid (Two w S.cells zSw 41 w1) := HX.out.up hbl
 clear hbl
 have c7 : w1.cell? ⟨w.heap.size, 7, none⟩ = some (.int .i64 S.now) := blk_cell HX.out.a 7
 have HD : Hid (w1.heap[w.heap.size + 1]? = some (.cells zSw 41 (0, 0))) := HX.out.b
 cases ok
 ·
  have HF : Hid (b = false) := by
   rw [Hid, Bool.eq_false_iff]
   intro e
   have h := HBB.out.1 e
   exact absurd (HO.out.2 h.1) (by simp)
  go_wp2_with (refine wpList_stA rfl 41 (.tmp 2) (.tmp 12) rfl (w.heap.size + 1) 0 rfl (.agg #[.int .i64 0, .int .i64 0, .int .i64 0, .int .i64 0, .int .i64 0, .int .i64 0, .int .i64 0, .int .i64 0, .int .i64 0, .slice none 0 0, .slice none 0 0, .int .i64 0, .slice none 0 0, .slice none 0 0, .slice none 0 0, .int .i64 0, .int .i64 0]) rfl 17 rfl 41 _ HD.out infoSgI (Nat.le_of_ble_eq_true rfl) (by simp [Value.cells, Value.oneCell']) ?_)
  intro X hP
  replace hP : Put w1 X (w.heap.size + 1) zeroG.cells 41 := hP.cast rfl
  have HK : Hid (X.heap[w.heap.size + 1]? = some (.cells zeroG.cells 41 (0, 0))) := hP.blk
  have HB2 : Hid (Below w.heap.size w X) := HX.out.bel.trans (hP.to.below HX.out.bel.size (fun x hx => by simp at hx; omega))
  clear hP c7
  go_wp2_with fail
  rw [HF.out]
  exact bodyPost_ret (res_cellT2 Tryz.results10 17 _ Tryz.underlying41 rfl infoSgI _ _ (w.heap.size + 1) zeroG.cells rfl 41 HK.out rfl (.bool false) rfl) rfl ⟨zeroG, rfl, AlikeG.refl _, zero_own _ _, HB2.out⟩
 have HOk : Hid S.Ok := HO.out.1 rfl
 by_cases hnow : S.now = 1000000000
 ·
  have HNow : Hid (S.now = 1000000000) := hnow
  have hnow' : (S.now == 1000000000) = true := by simp [hnow]
  clear hnow
  have HF : Hid (b = false) := by
   rw [Hid, Bool.eq_false_iff]
   intro e
   have h := HBB.out.1 e
   exact h.2 HNow.out
  go_wp2_with (refine wpList_stA rfl 41 (.tmp 2) (.tmp 12) rfl (w.heap.size + 1) 0 rfl (.agg #[.int .i64 0, .int .i64 0, .int .i64 0, .int .i64 0, .int .i64 0, .int .i64 0, .int .i64 0, .int .i64 0, .int .i64 0, .slice none 0 0, .slice none 0 0, .int .i64 0, .slice none 0 0, .slice none 0 0, .slice none 0 0, .int .i64 0, .int .i64 0]) rfl 17 rfl 41 _ HD.out infoSgI (Nat.le_of_ble_eq_true rfl) (by simp [Value.cells, Value.oneCell']) ?_)
  intro X hP
  replace hP : Put w1 X (w.heap.size + 1) zeroG.cells 41 := hP.cast rfl
  have HK : Hid (X.heap[w.heap.size + 1]? = some (.cells zeroG.cells 41 (0, 0))) := hP.blk
  have HB2 : Hid (Below w.heap.size w X) := HX.out.bel.trans (hP.to.below HX.out.bel.size (fun x hx => by simp at hx; omega))
  clear hP c7
  go_wp2_with fail
  rw [HF.out]
  exact bodyPost_ret (res_cellT2 Tryz.results10 17 _ Tryz.underlying41 rfl infoSgI _ _ (w.heap.size + 1) zeroG.cells rfl 41 HK.out rfl (.bool false) rfl) rfl ⟨zeroG, rfl, AlikeG.refl _, zero_own _ _, HB2.out⟩
 have hnow' : (S.now == 1000000000) = false := by simp [hnow]
 have HNow : Hid (S.now ≠ 1000000000) := hnow
 clear hnow
 have HF : Hid (b = true) := HBB.out.2 ⟨HOk.out, HNow.out⟩
 have HL : Hid (∀ j, j < 17 → w1.cell? ⟨w.heap.size, 0 + j, none⟩ = S.cells[j]?) := fun j _ => by rw [Nat.zero_add]; exact blk_cell HX.out.a j
 obtain ⟨ht1, ht2, ht3, ht4, ht5⟩ := tab_of HOk.out
 have HTb : Hid (tabOk S.nE S.e) := ht1
 clear ht1
 go_wp2_with (refine wpList_ldT rfl 41 17 _ Tryz.underlying41 rfl infoSgI (.tmp 1) rfl (w.heap.size) 0 rfl S.cells rfl HL.out ?_)
 clear HL c7 hnow'
 have HW1 : Hid (w.heap.size ≤ w1.heap.size) := HX.out.bel.size
 refine (l6Ticked_any S _ HS.out ht4 ht5 HTb.out ht2 (by have := HNow.out; omega) (HR.out.up HX.out.bel)).mono ?_
 rintro e w2 ⟨P, rfl, aP, oP, hbl⟩
 replace HX : Hid (Two w S.cells zSw 41 w2) := HX.out.up hbl
 have HN : Hid (AlikeG (tickOf S b) P ∧ OwnSz w2 w.heap.size P) := ⟨by rw [HF.out, tickOf_t]; exact aP, oP.mono HW1.out⟩
 replace HD : Hid (w2.heap[w.heap.size + 1]? = some (.cells zSw 41 (0, 0))) := HX.out.b
 clear aP oP hbl
 go_wp2_with (refine wpList_stA rfl 41 (.tmp 2) (.tmp 14) rfl (w.heap.size + 1) 0 rfl (.agg P.cells) rfl 17 rfl 41 _ HD.out infoSgI (Nat.le_of_ble_eq_true rfl) (Swg.oneC _) ?_)
 intro X hP
 replace hP : Put w2 X (w.heap.size + 1) P.cells 41 := hP.cast rfl
 have HK : Hid (X.heap[w.heap.size + 1]? = some (.cells P.cells 41 (0, 0))) := hP.blk
 have HFF : Hid (OwnSz X w.heap.size P ∧ Below w.heap.size w X) := ⟨HN.out.2.off HD.out hP.to, HX.out.bel.trans (hP.to.below HX.out.bel.size (fun x hx => by simp at hx; omega))⟩
 clear hP HD
 go_wp2_with fail
 rw [HF.out] at HN ⊢
 exact bodyPost_ret (res_cellT2 Tryz.results10 17 _ Tryz.underlying41 rfl infoSgI _ _ (w.heap.size + 1) P.cells rfl 41 HK.out rfl (.bool true) rfl) rfl ⟨P, rfl, HN.out.1, HFF.out.1, HFF.out.2⟩
theorem Alike.tot {a b : Rnd} (h : Alike a b) : b.tot = a.tot := by unfold Rnd.tot; rw [h.nQ, h.nD, h.l, h.nS]
theorem AlikeL.tot {a b : Lng} (h : AlikeL a b) : b.tot = a.tot := by unfold Lng.tot; rw [h.nT, h.l, h.nU, h.r.tot]
theorem sumL_congr {f g : Nat → Nat} : ∀ {n : Nat}, (∀ i, i < n → f i = g i) → sumL f n = sumL g n := by
 intro n
 induction n with
 | zero => intro _; rfl
 | succ n ih =>
  intro h
  show sumL f n + f n = sumL g n + g n
  rw [ih (fun i hi => h i (by omega)), h n (by omega)]
theorem AlikeG.tot {A B : Swg} (h : AlikeG A B) : B.tot = A.tot := by
 unfold Swg.tot
 rw [h.nE, h.n.nU, h.n.nP, h.nK, h.nL, sumL_congr (fun i hi => (h.l i hi).tot)]
theorem tkL_le (S : Swg) : S.tkL.length ≤ S.nE := by
 have h := List.length_filter_le (fun y : Ent => decide (S.now + 1 - y.t ≤ 20)) (entsL S.nE S.e)
 rw [entsL_len] at h
 exact h
theorem tickOf_small {S : Swg} (h : S.Small) (b : Bool) : (tickOf S b).Small := by
 cases b
 ·
  exact ⟨Nat.zero_le _, ⟨Nat.zero_le _, Nat.zero_le _⟩, Nat.zero_le _, fun i hi => absurd hi (Nat.not_lt_zero _), Nat.zero_le _, fun i hi => absurd hi (Nat.not_lt_zero _)⟩
 ·
  exact ⟨Nat.le_trans (tkL_le S) h.e, h.n, h.k, h.b, h.l, h.ls⟩
theorem tickOf_tot {S : Swg} (b : Bool) : (tickOf S b).tot ≤ S.tot := by
 cases b
 ·
  exact Nat.zero_le _
 ·
  have := tkL_le S
  show S.tkL.length + (S.N.nU + S.N.nP) + S.nK + (S.nL + sumL (fun i => (S.L i).tot) S.nL) ≤ S.nE + (S.N.nU + S.N.nP) + S.nK + (S.nL + sumL (fun i => (S.L i).tot) S.nL)
  omega
theorem tick_iff {S P : Swg} (h : AlikeG S P) {b : Bool} (hb : b = true ↔ S.Ok ∧ S.now ≠ 1000000000) : b = true ↔ P.Ok ∧ P.now ≠ 1000000000 := by rw [hb, h.ok, h.now]
theorem tickOf_alike {S P : Swg} (h : AlikeG S P) (b : Bool) : AlikeG (tickOf S b) (tickOf P b) := by
 cases b
 ·
  exact AlikeG.refl _
 ·
  exact h.tick _ _ _ _
theorem wpList_ldTG {ops : Array Oper} {rest : List Oper} {o : Oper} {a : Act} {w : World} {Q : Exit → Act → World → Prop} (hw : Region.wanted o (yielded ops a.tmps) = true) (ty : TypeId) (n : Nat) (d : TypeDesc) (hu : Tryz.prog.underlying ty = some d) (hd : d.isRow = true) (hi : (Tryz.prog.info? ty).map (·.size) = some n) (x : Operand) (ho : o.op = .load ty x) (b off : Nat) (hx : a.eval x = .pointer (some ⟨b, off, none⟩))
  (cs : Array Value) (hs : cs.size = n) (hc : ∀ j, j < n → w.cell? ⟨b, off + j, none⟩ = cs[j]?) (h : wpList Tryz.prog ops Q rest (a.put o.dst (.agg cs)) w) : wpList Tryz.prog ops Q (o :: rest) a w :=
 wpList_step fun K hK => by
  rw [if_pos hw]
  unfold Oper.wp
  rw [run_ldT ty n d hu hd hi x ho b off hx cs hs hc]
  exact hK _ _ h
end Go.Proofs.YtlipielghpoaoaaGreat
