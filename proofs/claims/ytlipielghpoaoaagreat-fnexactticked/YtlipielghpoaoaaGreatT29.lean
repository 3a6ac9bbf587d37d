/- At every switch Ticked answers as the specification does, writes into no argument, keeps nothing of one, and owns its answer's memory: the law FnExactTicked returns true for every argument, under no condition. -/
import Derived.Test.YtlipielghpoaoaaGreatRows
import Derived.Test.YtlipielghpoaoaaGreatT27
import Derived.Test.YtlipielghpoaoaaGreatT28
import Derived.Below
import Derived.ChangeOld
import Derived.OpenShut
import Derived.ProofKit
import Derived.ShutString
namespace Go.Proofs.YtlipielghpoaoaaGreat
open Go.ChangeShapes Go.WideShapes Go.ChangeAt Go.RowKit
set_option linter.unusedVariables false
theorem infoSgL : (Tryz.prog.info? 32).map (·.size) = some 17 := by kernel_rfl
theorem box17 {w wi : World} {S : Swg} {t : TypeId} (h : Below (w.heap.size + 1) (w.alloc (.cells S.cells t)) wi) : ∀ j, j < 17 → wi.cell? ⟨w.heap.size, 0 + j, none⟩ = S.cells[j]? := fun j _ => by
 rw [Nat.zero_add]
 exact boxed h j
theorem blk17 {w : World} {g : Nat} {S : Swg} {t : TypeId} (h : w.heap[g]? = some (.cells S.cells t (0, 0))) : ∀ j, j < 17 → w.cell? ⟨g, 0 + j, none⟩ = S.cells[j]? := fun j _ => by
 rw [Nat.zero_add]
 exact blk_cell h j
set_option maxRecDepth 100000 in
set_option maxHeartbeats 8000000 in
theorem ticked_law (S : Swg) (w : World) (hf : S.Fit) (h : RdSg w S) :
  Calls Tryz.prog 4 #[.agg S.cells] w fun e w' => e = .returned (.bool true) ∧ Below w.heap.size w w' := by
 obtain ⟨ok, hok⟩ := ok_decS S.Ok
 have HO : Hid (ok = true ↔ S.Ok) := hok
 obtain ⟨b, hbb⟩ := ok_decS (S.Ok ∧ S.now ≠ 1000000000)
 have HBB : Hid (b = true ↔ S.Ok ∧ S.now ≠ 1000000000) := hbb
 have HR : Hid (RdSg w S) := h
 have HF : Hid S.Fit := hf
 have hb0 : (b != b) = false := by cases b <;> rfl
 obtain ⟨W, eW⟩ : ∃ W, w.alloc (.cells S.cells 32) = W := ⟨_, rfl⟩
 have HB : Hid (Below (w.heap.size + 1) (w.alloc (.cells S.cells 32)) W) := by rw [eW]; exact Below.refl _ _
 have HL : Hid (∀ j, j < 17 → W.cell? ⟨w.heap.size, 0 + j, none⟩ = S.cells[j]?) := box17 HB.out
 clear h hf hok hbb
 go_enter Tryz.func4, Tryz.ntmps4
 go_wp2_with (refine wpList_ldT rfl 32 17 _ Tryz.underlying32 rfl infoSgL (.tmp 1) rfl w.heap.size 0 rfl S.cells rfl HL.out ?_)
 clear eW HL
 refine (szSwitch_any S _ HF.out (HR.out.up (under HB.out))).mono ?_
 rintro e w1 ⟨⟨r, rfl, hr⟩, hb⟩
 replace HB : Hid (Below (w.heap.size + 1) (w.alloc (.cells S.cells 32)) w1) := next HB.out hb
 clear hb
 rcases hr with rfl | ⟨r0, hs, htt⟩
 ·
  have B := under HB.out
  go_wp2_with fail
  go_ret
  exact ⟨rfl, B⟩
 have HS : Hid S.Small := hs
 have HTo : Hid (S.tot ≤ 1048576) := htt
 have hr0 : ¬ r < 0 := by omega
 clear hs htt
 have HL : Hid (∀ j, j < 17 → w1.cell? ⟨w.heap.size, 0 + j, none⟩ = S.cells[j]?) := box17 HB.out
 go_wp2_with (refine wpList_ldT rfl 32 17 _ Tryz.underlying32 rfl infoSgL (.tmp 1) rfl w.heap.size 0 rfl S.cells rfl HL.out ?_)
 clear HL
 refine (toSwitch_any S _ HS.out (HR.out.up (under HB.out))).mono ?_
 rintro e w2 ⟨S2, rfl, ha, ho, hb⟩
 replace HB : Hid (Below (w.heap.size + 1) (w.alloc (.cells S.cells 32)) w2) := next HB.out hb
 have H2 : Hid (AlikeG S S2 ∧ RdSg w2 S2) := ⟨ha, ho.rd⟩
 clear hb ha ho
 go_wp2_with fail
 refine (sTicked_any S2 _ (H2.out.1.small HS.out) H2.out.2 ok (HO.out.trans H2.out.1.ok.symm) b (tick_iff H2.out.1 HBB.out)).mono ?_
 rintro e w3 ⟨S0, rfl, ha, ho, hb⟩
 replace HB : Hid (Below (w.heap.size + 1) (w.alloc (.cells S.cells 32)) w3) := next HB.out hb
 have H0 : Hid (AlikeG (tickOf S b) S0) := (tickOf_alike H2.out.1 b).trans ha
 have HR0 : Hid (RdSg w3 S0) := ho.g.rd
 clear hb ha ho H2
 have HG : Hid ((w3.alloc (.cells #[.int .i64 0, .int .i64 0, .int .i64 0, .int .i64 0, .int .i64 0, .int .i64 0, .int .i64 0, .int .i64 0, .int .i64 0, .slice none 0 0, .slice none 0 0, .int .i64 0, .slice none 0 0, .slice none 0 0, .slice none 0 0, .int .i64 0, .int .i64 0] 41)).heap[w3.heap.size]? = some (.cells #[.int .i64 0, .int .i64 0, .int .i64 0, .int .i64 0, .int .i64 0, .int .i64 0, .int .i64 0, .int .i64 0, .int .i64 0, .slice none 0 0, .slice none 0 0, .int .i64 0, .slice none 0 0, .slice none 0 0, .slice none 0 0, .int .i64 0, .int .i64 0] 41 (0, 0))) := blk_new _ _
 go_wp2_with (refine wpList_stA rfl 41 (.tmp 4) (.tmp 23) rfl w3.heap.size 0 rfl (.agg S0.cells) rfl 17 rfl 41 _ HG.out infoSgI (Nat.le_of_ble_eq_true rfl) (Swg.oneC _) ?_)
 intro wq hP
 replace hP : Put _ wq w3.heap.size S0.cells 41 := hP.cast rfl
 have hb : Below w3.heap.size w3 wq := ((Below.refl _ _).alloc (Nat.le_refl _) _).trans (hP.to.below (by simp) (fun x hx => by simp at hx; omega))
 have KW : Hid (wq.heap[w3.heap.size]? = some (.cells S0.cells 41 (0, 0))) := hP.blk
 clear hP HG
 replace HB : Hid (Below (w.heap.size + 1) (w.alloc (.cells S.cells 32)) wq) := next HB.out hb
 replace HR0 : Hid (RdSg wq S0) := HR0.out.up hb
 clear hb
 obtain ⟨gW, egW⟩ : ∃ g, w3.heap.size = g := ⟨_, rfl⟩
 rw [egW] at KW ⊢
 clear egW
 have HB0 : Hid (Below wq.heap.size wq wq) := Below.refl _ _
 have HL : Hid (∀ j, j < 17 → wq.cell? ⟨w.heap.size, 0 + j, none⟩ = S.cells[j]?) := box17 HB.out
 go_wp2_with (refine wpList_ldT rfl 32 17 _ Tryz.underlying32 rfl infoSgL (.tmp 1) rfl w.heap.size 0 rfl S.cells rfl HL.out ?_)
 clear HL
 refine (toSwitch_any S _ HS.out (HR.out.up (under HB.out))).mono ?_
 rintro e w5 ⟨X, rfl, ha, ho, hb⟩
 replace HB0 : Hid (Below wq.heap.size wq w5) := hb
 have HX : Hid (AlikeG S X) := ha
 have HOX : Hid (OwnSg w5 wq.heap.size X) := ho
 have HXA : Hid (∀ x ∈ X.all, wq.heap.size ≤ x ∧ x < w5.heap.size) := ho.all
 clear hb ha ho
 have HG : Hid ((w5.alloc (.cells #[.int .i64 0, .int .i64 0, .int .i64 0, .int .i64 0, .int .i64 0, .int .i64 0, .int .i64 0, .int .i64 0, .int .i64 0, .slice none 0 0, .slice none 0 0, .int .i64 0, .slice none 0 0, .slice none 0 0, .slice none 0 0, .int .i64 0, .int .i64 0] 41)).heap[w5.heap.size]? = some (.cells #[.int .i64 0, .int .i64 0, .int .i64 0, .int .i64 0, .int .i64 0, .int .i64 0, .int .i64 0, .int .i64 0, .int .i64 0, .slice none 0 0, .slice none 0 0, .int .i64 0, .slice none 0 0, .slice none 0 0, .slice none 0 0, .int .i64 0, .int .i64 0] 41 (0, 0))) := blk_new _ _
 go_wp2_with (refine wpList_stA rfl 41 (.tmp 6) (.tmp 26) rfl w5.heap.size 0 rfl (.agg X.cells) rfl 17 rfl 41 _ HG.out infoSgI (Nat.le_of_ble_eq_true rfl) (Swg.oneC _) ?_)
 intro w6 hP
 replace hP : Put _ w6 w5.heap.size X.cells 41 := hP.cast rfl
 have hb : Below w5.heap.size w5 w6 := ((Below.refl _ _).alloc (Nat.le_refl _) _).trans (hP.to.below (by simp) (fun x hx => by simp at hx; omega))
 have KX : Hid (w6.heap[w5.heap.size]? = some (.cells X.cells 41 (0, 0))) := hP.blk
 clear hP HG
 replace HB0 : Hid (Below wq.heap.size wq w6) := HB0.out.trans (hb.mono HB0.out.size)
 replace HOX : Hid (OwnSg w6 wq.heap.size X) := HOX.out.up hb
 have hz6 := hb.size
 clear hb
 obtain ⟨gX, egX⟩ : ∃ g, w5.heap.size = g := ⟨_, rfl⟩
 rw [egX] at KX HXA hz6 ⊢
 clear egX
 have Hz6 : Hid (gX < w6.heap.size) := blk_lt KX.out
 clear hz6
 have HLX : Hid (∀ j, j < 17 → w6.cell? ⟨gX, 0 + j, none⟩ = X.cells[j]?) := blk17 KX.out
 go_wp2_with (refine wpList_ldT rfl 41 17 _ Tryz.underlying41 rfl infoSgI (.tmp 6) rfl gX 0 rfl X.cells rfl HLX.out ?_)
 clear HLX
 refine (iTicked_any X _ (HX.out.small HS.out) HOX.out.rd ok (HO.out.trans HX.out.ok.symm) b (tick_iff HX.out HBB.out)).mono ?_
 rintro e w7 ⟨G, rfl, ha, ho, hb⟩
 have Hq6 : Hid (wq.heap.size ≤ w6.heap.size) := HB0.out.size
 have Hz7 : Hid (w6.heap.size ≤ w7.heap.size) := hb.size
 have HGa : Hid (AlikeG (tickOf S b) G) := (tickOf_alike HX.out b).trans ha
 have HOG : Hid (OwnSg w7 w6.heap.size G) := ho.g
 have HGA : Hid (∀ x ∈ G.all, w6.heap.size ≤ x ∧ x < w7.heap.size) := ho.g.all
 replace HB0 : Hid (Below wq.heap.size wq w7) := HB0.out.trans (hb.mono HB0.out.size)
 replace HOX : Hid (OwnSg w7 wq.heap.size X) := HOX.out.up hb
 replace KX : Hid (w7.heap[gX]? = some (.cells X.cells 41 (0, 0))) := (hb.block _ (blk_lt KX.out)).trans KX.out
 clear hb ha ho
 have HG : Hid ((w7.alloc (.cells #[.int .i64 0, .int .i64 0, .int .i64 0, .int .i64 0, .int .i64 0, .int .i64 0, .int .i64 0, .int .i64 0, .int .i64 0, .slice none 0 0, .slice none 0 0, .int .i64 0, .slice none 0 0, .slice none 0 0, .slice none 0 0, .int .i64 0, .int .i64 0] 41)).heap[w7.heap.size]? = some (.cells #[.int .i64 0, .int .i64 0, .int .i64 0, .int .i64 0, .int .i64 0, .int .i64 0, .int .i64 0, .int .i64 0, .int .i64 0, .slice none 0 0, .slice none 0 0, .int .i64 0, .slice none 0 0, .slice none 0 0, .slice none 0 0, .int .i64 0, .int .i64 0] 41 (0, 0))) := blk_new _ _
 go_wp2_with (refine wpList_stA rfl 41 (.tmp 7) (.tmp 30) rfl w7.heap.size 0 rfl (.agg G.cells) rfl 17 rfl 41 _ HG.out infoSgI (Nat.le_of_ble_eq_true rfl) (Swg.oneC _) ?_)
 intro w8 hP
 replace hP : Put _ w8 w7.heap.size G.cells 41 := hP.cast rfl
 have hb : Below w7.heap.size w7 w8 := ((Below.refl _ _).alloc (Nat.le_refl _) _).trans (hP.to.below (by simp) (fun x hx => by simp at hx; omega))
 have KG : Hid (w8.heap[w7.heap.size]? = some (.cells G.cells 41 (0, 0))) := hP.blk
 clear hP HG
 replace HB0 : Hid (Below wq.heap.size wq w8) := HB0.out.trans (hb.mono HB0.out.size)
 replace HOX : Hid (OwnSg w8 wq.heap.size X) := HOX.out.up hb
 replace HOG : Hid (OwnSg w8 w6.heap.size G) := HOG.out.up hb
 replace KX : Hid (w8.heap[gX]? = some (.cells X.cells 41 (0, 0))) := (hb.block _ (blk_lt KX.out)).trans KX.out
 clear hb
 have HgG : Hid (w6.heap.size ≤ w7.heap.size) := Hz7.out
 obtain ⟨gG, egG⟩ : ∃ g, w7.heap.size = g := ⟨_, rfl⟩
 rw [egG] at KG HGA HgG ⊢
 clear egG
 obtain ⟨bG, ebG⟩ : ∃ g, w6.heap.size = g := ⟨_, rfl⟩
 rw [ebG] at HOG HGA Hz6 HgG Hq6
 clear ebG
 have HGs : Hid (G.Small ∧ G.tot ≤ 2000000) := ⟨HGa.out.small (tickOf_small HS.out b), by rw [HGa.out.tot]; have := tickOf_tot (S := S) b; have := HTo.out; omega⟩
 have HXs : Hid (X.Small ∧ X.tot ≤ 2000000) := ⟨HX.out.small HS.out, by rw [HX.out.tot]; have := HTo.out; omega⟩
 have HE0 : Hid (AlikeG G S0) := HGa.out.symm.trans H0.out
 have HqW : Hid (gW < wq.heap.size) := blk_lt KW.out
 have HLW : Hid (∀ j, j < 17 → w8.cell? ⟨gW, 0 + j, none⟩ = S0.cells[j]?) := blk17 ((HB0.out.block _ HqW.out).trans KW.out)
 have HLG : Hid (∀ j, j < 17 → w8.cell? ⟨gG, 0 + j, none⟩ = G.cells[j]?) := blk17 KG.out
 go_wp2_with (first | refine wpList_ldT rfl 41 17 _ Tryz.underlying41 rfl infoSgI (.tmp 7) rfl gG 0 rfl G.cells rfl HLG.out ?_ | refine wpList_ldT rfl 41 17 _ Tryz.underlying41 rfl infoSgI (.tmp 4) rfl gW 0 rfl S0.cells rfl HLW.out ?_)
 clear HLG HLW
 refine (eqSwitchG_any G S0 _ HGs.out.1 HOG.out.rd (HR0.out.up HB0.out) HE0.out).mono ?_
 rintro e w9 ⟨rfl, hb⟩
 replace HB0 : Hid (Below wq.heap.size wq w9) := HB0.out.trans (hb.mono HB0.out.size)
 replace HOX : Hid (OwnSg w9 wq.heap.size X) := HOX.out.up hb
 replace KX : Hid (w9.heap[gX]? = some (.cells X.cells 41 (0, 0))) := (hb.block _ (blk_lt KX.out)).trans KX.out
 replace HOG : Hid (OwnSg w9 bG G) := HOG.out.up hb
 replace KG : Hid (w9.heap[gG]? = some (.cells G.cells 41 (0, 0))) := (hb.block _ (blk_lt KG.out)).trans KG.out
 clear hb
 have hd : Below w9.heap.size w9 w9.drew := (Below.refl _ _).drew
 go_wp2_with fail
 have hb := hd
 replace HB0 : Hid (Below wq.heap.size wq w9.drew) := HB0.out.trans (hb.mono HB0.out.size)
 replace HOX : Hid (OwnSg w9.drew wq.heap.size X) := HOX.out.up hb
 replace KX : Hid (w9.drew.heap[gX]? = some (.cells X.cells 41 (0, 0))) := (hb.block _ (blk_lt KX.out)).trans KX.out
 replace HOG : Hid (OwnSg w9.drew bG G) := HOG.out.up hb
 replace KG : Hid (w9.drew.heap[gG]? = some (.cells G.cells 41 (0, 0))) := (hb.block _ (blk_lt KG.out)).trans KG.out
 clear hb
 clear hd
 refine wp_region_held_drew (S := fun w' => (∀ j, j < 17 → w'.cell? ⟨gX, 0 + j, none⟩ = X.cells[j]?) ∧ (∀ j, j < 17 → w'.cell? ⟨w.heap.size, 0 + j, none⟩ = S.cells[j]?)) (by kernel_rfl) ⟨blk17 KX.out, box17 (next HB.out HB0.out)⟩ (fun hHeld => ?_)
 refine tC 0 41 (v := .agg X.cells) ?_ ?_
 ·
  intro wx hSw
  exact run_ldT 41 17 _ Tryz.underlying41 rfl infoSgI (.tmp 6) rfl gX 0 rfl X.cells rfl hSw.1
 try simp only [Act.put, PZ]
 refine tC 1 42 (v := .agg S.cells) ?_ ?_
 ·
  intro wx hSw
  exact run_ldT 32 17 _ Tryz.underlying32 rfl infoSgL (.tmp 1) rfl w.heap.size 0 rfl S.cells rfl hSw.2
 try simp only [Act.put, PZ]
 refine wpAnyH_ready (rs := [2]) (by kernel_rfl) (by simp) ?_
 refine AllReadyH.cons rfl (fun K hK => ?_) AllReadyH.nil
 go_simp
 refine (toSwitch_any S _ HS.out (HR.out.up (under (next HB.out HB0.out)))).mono ?_
 rintro e wa ⟨S7, rfl, ha, ho, hb⟩
 have H7 : Hid (AlikeG X S7 ∧ RdSg wa S7) := ⟨HX.out.symm.trans ha, ho.rd⟩
 clear ha ho
 replace HB0 : Hid (Below wq.heap.size wq wa) := HB0.out.trans (hb.mono HB0.out.size)
 replace HOX : Hid (OwnSg wa wq.heap.size X) := HOX.out.up hb
 replace KX : Hid (wa.heap[gX]? = some (.cells X.cells 41 (0, 0))) := (hb.block _ (blk_lt KX.out)).trans KX.out
 replace HOG : Hid (OwnSg wa bG G) := HOG.out.up hb
 replace KG : Hid (wa.heap[gG]? = some (.cells G.cells 41 (0, 0))) := (hb.block _ (blk_lt KG.out)).trans KG.out
 clear hb
 go_wp2_with fail
 refine hK.out _ _ ⟨blk17 KX.out, box17 (next HB.out HB0.out)⟩ (fun hHeld => ?_)
 clear hK K
 try simp only [Act.put, PZ]
 refine wpAnyH_ready (rs := [3]) (by kernel_rfl) (by simp) ?_
 refine AllReadyH.cons rfl (fun K hK => ?_) AllReadyH.nil
 go_simp
 refine (eqSwitchG_any X S7 _ HXs.out.1 HOX.out.rd H7.out.2 H7.out.1).mono ?_
 rintro e wb ⟨rfl, hb⟩
 clear H7
 replace HB0 : Hid (Below wq.heap.size wq wb) := HB0.out.trans (hb.mono HB0.out.size)
 replace HOX : Hid (OwnSg wb wq.heap.size X) := HOX.out.up hb
 replace KX : Hid (wb.heap[gX]? = some (.cells X.cells 41 (0, 0))) := (hb.block _ (blk_lt KX.out)).trans KX.out
 replace HOG : Hid (OwnSg wb bG G) := HOG.out.up hb
 replace KG : Hid (wb.heap[gG]? = some (.cells G.cells 41 (0, 0))) := (hb.block _ (blk_lt KG.out)).trans KG.out
 clear hb
 go_wp2_with fail
 refine hK.out _ _ ⟨blk17 KX.out, box17 (next HB.out HB0.out)⟩ (fun hHeld => ?_)
 clear hK K
 try simp only [Act.put, PZ]
 refine tP 4 45 ?_
 try simp only [Act.put, PZ]
 refine wpAnyH_done (by kernel_rfl) ?_ _
 clear hHeld
 have HLX : Hid (∀ j, j < 17 → wb.cell? ⟨gX, 0 + j, none⟩ = X.cells[j]?) := blk17 KX.out
 go_wp2_with (refine wpList_ldT rfl 41 17 _ Tryz.underlying41 rfl infoSgI (.tmp 6) rfl gX 0 rfl X.cells rfl HLX.out ?_)
 clear HLX
 refine (markSw_any X wq.heap.size _ HOX.out HXs.out.1 HXs.out.2).mono ?_
 rintro e wc ⟨rfl, _, tX⟩
 replace HB0 : Hid (Below wq.heap.size wq wc) := HB0.out.trans (tX.below HB0.out.size (fun x hx => (HXA.out x hx).1))
 replace HOG : Hid (OwnSg wc bG G) := HOG.out.low tX (fun x hx => by have := (HXA.out x hx).2; have := Hz6.out; omega)
 replace KG : Hid (wc.heap[gG]? = some (.cells G.cells 41 (0, 0))) := (tX.block _ (blk_lt KG.out) (fun hx => by have := (HXA.out _ hx).2; have := Hz6.out; have := HgG.out; omega)).trans KG.out
 clear tX HOX KX HXA
 have hk0 : ¬ ((X.mEnd 1 : Nat) : Int) < 0 := by omega
 have HLW : Hid (∀ j, j < 17 → wc.cell? ⟨gW, 0 + j, none⟩ = S0.cells[j]?) := blk17 ((HB0.out.block _ HqW.out).trans KW.out)
 have HLG : Hid (∀ j, j < 17 → wc.cell? ⟨gG, 0 + j, none⟩ = G.cells[j]?) := blk17 KG.out
 go_wp2_with (first | refine wpList_ldTG (by kernel_rfl) 41 17 _ Tryz.underlying41 rfl infoSgI (.tmp 7) rfl gG 0 rfl G.cells rfl HLG.out ?_ | refine wpList_ldTG (by kernel_rfl) 41 17 _ Tryz.underlying41 rfl infoSgI (.tmp 4) rfl gW 0 rfl S0.cells rfl HLW.out ?_)
 clear HLG HLW
 refine (eqSwitchG_any G S0 _ HGs.out.1 HOG.out.rd (HR0.out.up HB0.out) HE0.out).mono ?_
 rintro e wd ⟨rfl, hb⟩
 replace HB0 : Hid (Below wq.heap.size wq wd) := HB0.out.trans (hb.mono HB0.out.size)
 replace HOG : Hid (OwnSg wd bG G) := HOG.out.up hb
 replace KG : Hid (wd.heap[gG]? = some (.cells G.cells 41 (0, 0))) := (hb.block _ (blk_lt KG.out)).trans KG.out
 clear hb
 have HLG : Hid (∀ j, j < 17 → wd.cell? ⟨gG, 0 + j, none⟩ = G.cells[j]?) := blk17 KG.out
 go_wp2_with (refine wpList_ldT rfl 41 17 _ Tryz.underlying41 rfl infoSgI (.tmp 7) rfl gG 0 rfl G.cells rfl HLG.out ?_)
 clear HLG
 refine (markSw_any G bG _ HOG.out HGs.out.1 HGs.out.2).mono ?_
 rintro e we ⟨rfl, hm, tG⟩
 have HM : Hid (MkdS we bG 1 G) := hm
 replace HB0 : Hid (Below wq.heap.size wq we) := HB0.out.trans (tG.below HB0.out.size (fun x hx => by have := (HGA.out x hx).1; have := Hq6.out; omega))
 replace KG : Hid (we.heap[gG]? = some (.cells G.cells 41 (0, 0))) := (tG.block _ (blk_lt KG.out) (fun hx => by have := (HGA.out _ hx).2; omega)).trans KG.out
 clear tG hm HOG HGA
 have HLG : Hid (∀ j, j < 17 → we.cell? ⟨gG, 0 + j, none⟩ = G.cells[j]?) := blk17 KG.out
 go_wp2_with (refine wpList_ldT rfl 41 17 _ Tryz.underlying41 rfl infoSgI (.tmp 7) rfl gG 0 rfl G.cells rfl HLG.out ?_)
 clear HLG
 refine (heldSw_any G bG _ HM.out HGs.out.1 HGs.out.2).mono ?_
 rintro e wf ⟨rfl, hb⟩
 replace HB0 : Hid (Below wq.heap.size wq wf) := HB0.out.trans (hb.mono HB0.out.size)
 replace HM : Hid (MkdS wf bG 1 G) := HM.out.up hb
 replace KG : Hid (wf.heap[gG]? = some (.cells G.cells 41 (0, 0))) := (hb.block _ (blk_lt KG.out)).trans KG.out
 clear hb
 have hq0 : ¬ ((G.mEnd 1 : Nat) : Int) < 0 := by omega
 have hqq : (((G.mEnd 1 : Nat) : Int) != ((G.mEnd 1 : Nat) : Int)) = false := by simp
 have HL : Hid (∀ j, j < 17 → wf.cell? ⟨w.heap.size, 0 + j, none⟩ = S.cells[j]?) := box17 (next HB.out HB0.out)
 go_wp2_with (refine wpList_ldT rfl 32 17 _ Tryz.underlying32 rfl infoSgL (.tmp 1) rfl w.heap.size 0 rfl S.cells rfl HL.out ?_)
 clear HL
 refine (toSwitch_any S _ HS.out (HR.out.up (under (next HB.out HB0.out)))).mono ?_
 rintro e wg ⟨Y, rfl, ha, ho, hb⟩
 have HY : Hid (AlikeG S Y ∧ RdSg wg Y) := ⟨ha, ho.rd⟩
 clear ha ho
 replace HB0 : Hid (Below wq.heap.size wq wg) := HB0.out.trans (hb.mono HB0.out.size)
 replace HM : Hid (MkdS wg bG 1 G) := HM.out.up hb
 replace KG : Hid (wg.heap[gG]? = some (.cells G.cells 41 (0, 0))) := (hb.block _ (blk_lt KG.out)).trans KG.out
 clear hb
 go_wp2_with fail
 refine (iTicked_any Y _ (HY.out.1.small HS.out) HY.out.2 ok (HO.out.trans HY.out.1.ok.symm) b (tick_iff HY.out.1 HBB.out)).mono ?_
 rintro e wh ⟨H, rfl, ha, ho, hb⟩
 have HH : Hid (AlikeG H S0) := ((tickOf_alike HY.out.1 b).trans ha).symm.trans H0.out
 have HHs : Hid H.Small := ((tickOf_alike HY.out.1 b).trans ha).small (tickOf_small HS.out b)
 have HRH : Hid (RdSg wh H) := ho.g.rd
 clear ha ho HY
 replace HB0 : Hid (Below wq.heap.size wq wh) := HB0.out.trans (hb.mono HB0.out.size)
 replace HM : Hid (MkdS wh bG 1 G) := HM.out.up hb
 replace KG : Hid (wh.heap[gG]? = some (.cells G.cells 41 (0, 0))) := (hb.block _ (blk_lt KG.out)).trans KG.out
 clear hb
 have HG : Hid ((wh.alloc (.cells #[.int .i64 0, .int .i64 0, .int .i64 0, .int .i64 0, .int .i64 0, .int .i64 0, .int .i64 0, .int .i64 0, .int .i64 0, .slice none 0 0, .slice none 0 0, .int .i64 0, .slice none 0 0, .slice none 0 0, .slice none 0 0, .int .i64 0, .int .i64 0] 41)).heap[wh.heap.size]? = some (.cells #[.int .i64 0, .int .i64 0, .int .i64 0, .int .i64 0, .int .i64 0, .int .i64 0, .int .i64 0, .int .i64 0, .int .i64 0, .slice none 0 0, .slice none 0 0, .int .i64 0, .slice none 0 0, .slice none 0 0, .slice none 0 0, .int .i64 0, .int .i64 0] 41 (0, 0))) := blk_new _ _
 go_wp2_with (refine wpList_stA rfl 41 (.tmp 12) (.tmp 77) rfl wh.heap.size 0 rfl (.agg H.cells) rfl 17 rfl 41 _ HG.out infoSgI (Nat.le_of_ble_eq_true rfl) (Swg.oneC _) ?_)
 intro wi hP
 replace hP : Put _ wi wh.heap.size H.cells 41 := hP.cast rfl
 have hb : Below wh.heap.size wh wi := ((Below.refl _ _).alloc (Nat.le_refl _) _).trans (hP.to.below (by simp) (fun x hx => by simp at hx; omega))
 have KH : Hid (wi.heap[wh.heap.size]? = some (.cells H.cells 41 (0, 0))) := hP.blk
 clear hP HG
 replace HRH : Hid (RdSg wi H) := HRH.out.up hb
 replace HB0 : Hid (Below wq.heap.size wq wi) := HB0.out.trans (hb.mono HB0.out.size)
 replace HM : Hid (MkdS wi bG 1 G) := HM.out.up hb
 replace KG : Hid (wi.heap[gG]? = some (.cells G.cells 41 (0, 0))) := (hb.block _ (blk_lt KG.out)).trans KG.out
 clear hb
 obtain ⟨gH, egH⟩ : ∃ g, wh.heap.size = g := ⟨_, rfl⟩
 rw [egH] at KH ⊢
 clear egH
 have HLW : Hid (∀ j, j < 17 → wi.cell? ⟨gW, 0 + j, none⟩ = S0.cells[j]?) := blk17 ((HB0.out.block _ HqW.out).trans KW.out)
 have HLH : Hid (∀ j, j < 17 → wi.cell? ⟨gH, 0 + j, none⟩ = H.cells[j]?) := blk17 KH.out
 go_wp2_with (first | refine wpList_ldT rfl 41 17 _ Tryz.underlying41 rfl infoSgI (.tmp 12) rfl gH 0 rfl H.cells rfl HLH.out ?_ | refine wpList_ldT rfl 41 17 _ Tryz.underlying41 rfl infoSgI (.tmp 4) rfl gW 0 rfl S0.cells rfl HLW.out ?_)
 clear HLH HLW KH
 refine (eqSwitchG_any H S0 _ HHs.out HRH.out (HR0.out.up HB0.out) HH.out).mono ?_
 rintro e wj ⟨rfl, hb⟩
 replace HB0 : Hid (Below wq.heap.size wq wj) := HB0.out.trans (hb.mono HB0.out.size)
 replace HM : Hid (MkdS wj bG 1 G) := HM.out.up hb
 replace KG : Hid (wj.heap[gG]? = some (.cells G.cells 41 (0, 0))) := (hb.block _ (blk_lt KG.out)).trans KG.out
 clear hb
 have HLG : Hid (∀ j, j < 17 → wj.cell? ⟨gG, 0 + j, none⟩ = G.cells[j]?) := blk17 KG.out
 go_wp2_with (refine wpList_ldT rfl 41 17 _ Tryz.underlying41 rfl infoSgI (.tmp 7) rfl gG 0 rfl G.cells rfl HLG.out ?_)
 clear HLG
 refine (heldSw_any G bG _ HM.out HGs.out.1 HGs.out.2).mono ?_
 rintro e wk ⟨rfl, hb⟩
 replace HB0 : Hid (Below wq.heap.size wq wk) := HB0.out.trans (hb.mono HB0.out.size)
 replace HM : Hid (MkdS wk bG 1 G) := HM.out.up hb
 replace KG : Hid (wk.heap[gG]? = some (.cells G.cells 41 (0, 0))) := (hb.block _ (blk_lt KG.out)).trans KG.out
 clear hb
 have B := under (next HB.out HB0.out)
 go_wp2_with fail
 go_ret
 exact ⟨rfl, B⟩
set_option maxRecDepth 100000 in
theorem ticked_lifted (os : Os) (started : os.Started) (H : Type) (enc : TypeId × Value → H) :
  ReturnsInHanded {} Tryz.checked os 4 .any (Rows.fnExactTickedSpec.pre6 enc Tryz.prog Tryz.f4 Rows.fnExactTickedRow.domain false) (Rows.fnExactTickedSpec.post enc Tryz.prog Tryz.f4 false true false false) := by
 refine returnsInHanded_of_change (C := Tryz.checked) ownOkC started (by kernel_rfl) Tryz.func4
  (ChangeSpec.witness6 (enc := enc) (C := Tryz.checked) false ⟨#[], #[.agg #[.int .i64 0, .int .i64 0, .int .i64 0, .int .i64 0, .int .i64 0, .int .i64 0, .int .i64 0, .int .i64 0, .int .i64 0, .slice none 0 0, .slice none 0 0, .int .i64 0, .slice none 0 0, .slice none 0 0, .slice none 0 0, .int .i64 0, .int .i64 0]], []⟩ 8 (by kernel_rfl) (by kernel_rfl) (by kernel_rfl) (by kernel_rfl)) ?_
 intro W base args ds gs before hval0 hW hcnd _
 have hval : ∀ (j : Nat) t v, Tryz.f4.params[j]? = some t → args[j]? = some v → Value.okWide Tryz.prog W .any base t v := hval0
 have hW' := hW
 obtain ⟨p, q, hA0, hV, rfl, hfz, hnd⟩ := hW
 have hA : DataW.TrodAll enc Tryz.prog W 0 (fun _ => true) true Tryz.f4.params.toList args.toList ds p := hA0
 rw [Tryz.params4] at hA hval
 obtain ⟨v0, vs0, d0, ds0, p0, q0, hargs, rfl, rfl, h0, r0⟩ := trodAll_cons hA
 obtain ⟨rfl, rfl, rfl⟩ := trodAll_nil r0
 obtain rfl : args = #[v0] := by cases args; simp_all
 obtain ⟨rfl, rfl⟩ := trodVars_none hV
 have k0 := h0
 have lt0 : ∀ x ∈ p0, x.block < W.heap.size := by obtain ⟨m, hm⟩ := k0; exact DataW.trod_lt m _ _ _ hm
 obtain ⟨S0, rfl, f0, r0⟩ := open_switch (hval 0 32 v0 rfl rfl) h0
 clear hA0 hval0
 refine (ticked_law S0 W f0 r0).mono fun e W' ⟨he, bel⟩ => ?_
 subst he
 exact ⟨_, rfl, _, _, _, [], _, [], hW', trodAll_mk1 (shut_bool Tryz.underlying4 _), (trodAll_cons_mk (Below.trod laidOutC (by kernel_rfl) (of_decide_eq_true (by kernel_rfl)) k0 bel lt0) trodAll_mk0), rfl, bel.frame _, fun h => by cases h⟩
theorem ticked_holds : Rows.FnExactTickedSaid :=
 OpenClaim.holds_of_wide 4 Tryz.f4 rfl rfl rfl rfl rfl rfl rfl ⟨rfl, rfl, rfl, rfl, rfl⟩ rfl rfl rfl rfl rfl (by kernel_rfl) Tryz.func4 (by kernel_rfl)
  (of_decide_eq_true (by kernel_rfl)) (by unfold Func.isWrapper; first | (rw [if_pos (by decide +kernel)]; kernel_rfl) | (rw [if_neg (by decide +kernel)]; exact ⟨rfl, rfl⟩))
  (fun os started H enc _ => ticked_lifted os started H enc)
#print axioms ticked_holds
end Go.Proofs.YtlipielghpoaoaaGreat
