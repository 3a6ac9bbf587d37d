/- At every switch and every port Sent answers as the specification does, writes into no argument, keeps nothing of one, and owns its answer's memory: the law FnExactSent returns true for every argument, under no condition. -/
import Derived.Test.YtfcfpkibceepgaaGreatRows
import Derived.Test.YtfcfpkibceepgaaGreatS33
import Derived.Test.YtfcfpkibceepgaaGreatS34
import Derived.Below
import Derived.ChangeOld
import Derived.OpenShut
import Derived.ProofKit
import Derived.ShutString
namespace Go.Proofs.YtfcfpkibceepgaaGreat
set_option maxRecDepth 100000
open Go.ChangeShapes Go.WideShapes Go.ChangeAt Go.RowKit
set_option linter.unusedVariables false
theorem pG:(Tryz.prog.info? 32).map (·.size)=some 17:=by kernel_rfl
theorem vZ {w wi:World} {S:Swg} {t:TypeId} (h:Below (w.heap.size+1) (w.alloc (.cells S.cells t)) wi):∀ j,j<17→wi.cell? ⟨w.heap.size,0+j,none⟩=S.cells[j]?:=fun j _=>by
 rw [Nat.zero_add]
 exact boxed h j
theorem ns {w:World} {g:Nat} {S:Swg} {t:TypeId} (h:w.heap[g]?=some (.cells S.cells t (0,0))):∀ j,j<17→w.cell? ⟨g,0+j,none⟩=S.cells[j]?:=fun j _=>by
 rw [Nat.zero_add]
 exact fG h j
set_option maxHeartbeats 8000000 in
theorem AG (S:Swg) (port:Int) (w:World) (hf:S.Fit) (h:j4 w S) :
  Calls Tryz.prog 3 #[.agg S.cells,.int .i64 port] w fun e w'=>e=.returned (.bool true)∧Below w.heap.size w w':=by
 obtain ⟨S',fs,b,hsb⟩:=AH S port
 have HSB:Hid (oO S S' port fs b):=hsb
 have HR:Hid (j4 w S):=h
 have HF:Hid S.Fit:=hf
 have hb0:(b != b)=false:=by cases b <;> rfl
 obtain ⟨W,eW⟩:∃ W,w.alloc (.cells S.cells 32)=W:=⟨_,rfl⟩
 have HB:Hid (Below (w.heap.size+1) (w.alloc (.cells S.cells 32)) W):=by rw [eW];exact Below.refl _ _
 have HL:Hid (∀ j,j<17→W.cell? ⟨w.heap.size,0+j,none⟩=S.cells[j]?):=vZ HB.out
 clear h hf hsb
 go_enter Tryz.func3,Tryz.ntmps3
 go_wp2_with (refine fP rfl 32 17 _ Tryz.underlying32 rfl pG (.tmp 2) rfl w.heap.size 0 rfl S.cells rfl HL.out ?_)
 clear eW HL
 refine (sG S _ HF.out (HR.out.up (under HB.out))).mono ?_
 rintro e w1 ⟨⟨r,rfl,hr⟩,hb⟩
 replace HB:Hid (Below (w.heap.size+1) (w.alloc (.cells S.cells 32)) w1):=next HB.out hb
 clear hb
 rcases hr with rfl | ⟨r0,hs,htt,_⟩
 ·
  have B:=under HB.out
  go_wp2_with fail
  go_ret
  exact ⟨rfl,B⟩
 have HS:Hid S.Small:=hs
 have HTo:Hid (S.tot≤1048576):=htt
 have HLe:Hid (S'.Small∧S'.tot≤S.tot∧fs.length≤1048576):=⟨(HSB.out.le hs).1,(HSB.out.le hs).2.1,by have:=(HSB.out.le hs).2.2;omega⟩
 have hr0:¬ r<0:=by omega
 clear hs htt
 have HL:Hid (∀ j,j<17→w1.cell? ⟨w.heap.size,0+j,none⟩=S.cells[j]?):=vZ HB.out
 go_wp2_with (refine fP rfl 32 17 _ Tryz.underlying32 rfl pG (.tmp 2) rfl w.heap.size 0 rfl S.cells rfl HL.out ?_)
 clear HL
 refine (kc S _ HS.out (HR.out.up (under HB.out))).mono ?_
 rintro e w2 ⟨S2,rfl,ha,ho,hb⟩
 replace HB:Hid (Below (w.heap.size+1) (w.alloc (.cells S.cells 32)) w2):=next HB.out hb
 have H2:Hid (ga S S2∧j4 w2 S2):=⟨ha,ho.rd⟩
 clear hb ha ho
 obtain ⟨P2,hm2,ha2⟩:=HSB.out.pQ H2.out.1
 go_wp2_with fail
 refine (yE S2 P2 port fs _ (H2.out.1.small HS.out) H2.out.2 b hm2).mono ?_
 rintro e w3 ⟨S0,a0,c0,rfl,ha,ho,hf0,hb⟩
 replace HB:Hid (Below (w.heap.size+1) (w.alloc (.cells S.cells 32)) w3):=next HB.out hb
 have H0:Hid (ga S' S0):=ha2.trans ha
 have HR0:Hid (j4 w3 S0∧RdF w3 a0 fs.length (fsF fs)):=⟨ho.rd,hf0.jA⟩
 clear hb ha ho hf0 hm2 ha2 H2
 have HG:Hid ((w3.alloc (.cells #[.int .i64 0,.int .i64 0,.int .i64 0,.int .i64 0,.int .i64 0,.int .i64 0,.int .i64 0,.int .i64 0,.int .i64 0,.slice none 0 0,.slice none 0 0,.int .i64 0,.slice none 0 0,.slice none 0 0,.slice none 0 0,.int .i64 0,.int .i64 0] 40)).heap[w3.heap.size]?=some (.cells #[.int .i64 0,.int .i64 0,.int .i64 0,.int .i64 0,.int .i64 0,.int .i64 0,.int .i64 0,.int .i64 0,.int .i64 0,.slice none 0 0,.slice none 0 0,.int .i64 0,.slice none 0 0,.slice none 0 0,.slice none 0 0,.int .i64 0,.int .i64 0] 40 (0,0))):=fL _ _
 go_wp2_with (refine fJ rfl 40 (.tmp 6) (.tmp 29) rfl w3.heap.size 0 rfl (.agg S0.cells) rfl 17 rfl 40 _ HG.out fZ (Nat.le_of_ble_eq_true rfl) (Swg.lL _) ?_)
 intro wq hP
 replace hP:Put _ wq w3.heap.size S0.cells 40:=hP.cast rfl
 have hb:Below w3.heap.size w3 wq:=((Below.refl _ _).alloc (Nat.le_refl _) _).trans (hP.to.below (by simp) (fun x hx=>by simp at hx;omega))
 have KW:Hid (wq.heap[w3.heap.size]?=some (.cells S0.cells 40 (0,0))):=hP.blk
 clear hP HG
 replace HB:Hid (Below (w.heap.size+1) (w.alloc (.cells S.cells 32)) wq):=next HB.out hb
 replace HR0:Hid (j4 wq S0∧RdF wq a0 fs.length (fsF fs)):=⟨HR0.out.1.up hb,HR0.out.2.up hb⟩
 clear hb
 obtain ⟨gW,egW⟩:∃ g,w3.heap.size=g:=⟨_,rfl⟩
 rw [egW] at KW ⊢
 clear egW
 have HB0:Hid (Below wq.heap.size wq wq):=Below.refl _ _
 have HL:Hid (∀ j,j<17→wq.cell? ⟨w.heap.size,0+j,none⟩=S.cells[j]?):=vZ HB.out
 go_wp2_with (refine fP rfl 32 17 _ Tryz.underlying32 rfl pG (.tmp 2) rfl w.heap.size 0 rfl S.cells rfl HL.out ?_)
 clear HL
 refine (kc S _ HS.out (HR.out.up (under HB.out))).mono ?_
 rintro e w5 ⟨X,rfl,ha,ho,hb⟩
 replace HB0:Hid (Below wq.heap.size wq w5):=hb
 have HX:Hid (ga S X):=ha
 have HOX:Hid (gI w5 wq.heap.size X):=ho
 have HXA:Hid (∀ x∈X.all,wq.heap.size≤x∧x<w5.heap.size):=ho.all
 clear hb ha ho
 have HG:Hid ((w5.alloc (.cells #[.int .i64 0,.int .i64 0,.int .i64 0,.int .i64 0,.int .i64 0,.int .i64 0,.int .i64 0,.int .i64 0,.int .i64 0,.slice none 0 0,.slice none 0 0,.int .i64 0,.slice none 0 0,.slice none 0 0,.slice none 0 0,.int .i64 0,.int .i64 0] 40)).heap[w5.heap.size]?=some (.cells #[.int .i64 0,.int .i64 0,.int .i64 0,.int .i64 0,.int .i64 0,.int .i64 0,.int .i64 0,.int .i64 0,.int .i64 0,.slice none 0 0,.slice none 0 0,.int .i64 0,.slice none 0 0,.slice none 0 0,.slice none 0 0,.int .i64 0,.int .i64 0] 40 (0,0))):=fL _ _
 go_wp2_with (refine fJ rfl 40 (.tmp 9) (.tmp 33) rfl w5.heap.size 0 rfl (.agg X.cells) rfl 17 rfl 40 _ HG.out fZ (Nat.le_of_ble_eq_true rfl) (Swg.lL _) ?_)
 intro w6 hP
 replace hP:Put _ w6 w5.heap.size X.cells 40:=hP.cast rfl
 have hb:Below w5.heap.size w5 w6:=((Below.refl _ _).alloc (Nat.le_refl _) _).trans (hP.to.below (by simp) (fun x hx=>by simp at hx;omega))
 have KX:Hid (w6.heap[w5.heap.size]?=some (.cells X.cells 40 (0,0))):=hP.blk
 clear hP HG
 replace HB0:Hid (Below wq.heap.size wq w6):=HB0.out.trans (hb.mono HB0.out.size)
 replace HOX:Hid (gI w6 wq.heap.size X):=HOX.out.up hb
 have hz6:=hb.size
 clear hb
 obtain ⟨gX,egX⟩:∃ g,w5.heap.size=g:=⟨_,rfl⟩
 rw [egX] at KX HXA hz6 ⊢
 clear egX
 have Hz6:Hid (gX<w6.heap.size):=fH KX.out
 clear hz6
 obtain ⟨PX,hmX,haX⟩:=HSB.out.pQ HX.out
 have HPX:Hid (oO X PX port fs b∧ga S' PX):=⟨hmX,haX⟩
 clear hmX haX
 have HLX:Hid (∀ j,j<17→w6.cell? ⟨gX,0+j,none⟩=X.cells[j]?):=ns KX.out
 go_wp2_with (refine fP rfl 40 17 _ Tryz.underlying40 rfl fZ (.tmp 9) rfl gX 0 rfl X.cells rfl HLX.out ?_)
 clear HLX
 refine (ue X PX port fs _ (HX.out.small HS.out) HOX.out.rd b HPX.out.1).mono ?_
 rintro e w7 ⟨G,a1,c1,rfl,ha,ho,hf1,hb⟩
 have Hq6:Hid (wq.heap.size≤w6.heap.size):=HB0.out.size
 have Hz7:Hid (w6.heap.size≤w7.heap.size):=hb.size
 have HGa:Hid (ga S' G):=HPX.out.2.trans ha
 have HOG:Hid (gI w7 w6.heap.size G):=ho
 have HFG:Hid (qj w7 w6.heap.size fs a1 c1):=⟨hf1⟩
 have HGA:Hid (∀ x∈G.all,w6.heap.size≤x∧x<w7.heap.size):=ho.all
 replace HB0:Hid (Below wq.heap.size wq w7):=HB0.out.trans (hb.mono HB0.out.size)
 replace HOX:Hid (gI w7 wq.heap.size X):=HOX.out.up hb
 replace KX:Hid (w7.heap[gX]?=some (.cells X.cells 40 (0,0))):=(hb.block _ (fH KX.out)).trans KX.out
 clear hb ha ho hf1 HPX
 have HG:Hid ((w7.alloc (.cells #[.int .i64 0,.int .i64 0,.int .i64 0,.int .i64 0,.int .i64 0,.int .i64 0,.int .i64 0,.int .i64 0,.int .i64 0,.slice none 0 0,.slice none 0 0,.int .i64 0,.slice none 0 0,.slice none 0 0,.slice none 0 0,.int .i64 0,.int .i64 0] 40)).heap[w7.heap.size]?=some (.cells #[.int .i64 0,.int .i64 0,.int .i64 0,.int .i64 0,.int .i64 0,.int .i64 0,.int .i64 0,.int .i64 0,.int .i64 0,.slice none 0 0,.slice none 0 0,.int .i64 0,.slice none 0 0,.slice none 0 0,.slice none 0 0,.int .i64 0,.int .i64 0] 40 (0,0))):=fL _ _
 go_wp2_with (refine fJ rfl 40 (.tmp 10) (.tmp 38) rfl w7.heap.size 0 rfl (.agg G.cells) rfl 17 rfl 40 _ HG.out fZ (Nat.le_of_ble_eq_true rfl) (Swg.lL _) ?_)
 intro w8 hP
 replace hP:Put _ w8 w7.heap.size G.cells 40:=hP.cast rfl
 have hb:Below w7.heap.size w7 w8:=((Below.refl _ _).alloc (Nat.le_refl _) _).trans (hP.to.below (by simp) (fun x hx=>by simp at hx;omega))
 have KG:Hid (w8.heap[w7.heap.size]?=some (.cells G.cells 40 (0,0))):=hP.blk
 clear hP HG
 replace HB0:Hid (Below wq.heap.size wq w8):=HB0.out.trans (hb.mono HB0.out.size)
 replace HOX:Hid (gI w8 wq.heap.size X):=HOX.out.up hb
 replace HOG:Hid (gI w8 w6.heap.size G):=HOG.out.up hb
 replace HFG:Hid (qj w8 w6.heap.size fs a1 c1):=HFG.out.up hb
 replace KX:Hid (w8.heap[gX]?=some (.cells X.cells 40 (0,0))):=(hb.block _ (fH KX.out)).trans KX.out
 clear hb
 have HgG:Hid (w6.heap.size≤w7.heap.size):=Hz7.out
 obtain ⟨gG,egG⟩:∃ g,w7.heap.size=g:=⟨_,rfl⟩
 rw [egG] at KG HGA HgG ⊢
 clear egG
 obtain ⟨bG,ebG⟩:∃ g,w6.heap.size=g:=⟨_,rfl⟩
 rw [ebG] at HOG HGA Hz6 HgG Hq6 HFG
 clear ebG
 have HGs:Hid (G.Small∧G.tot≤2000000):=⟨HGa.out.small HLe.out.1,by rw [HGa.out.tot];have:=HLe.out.2.1;have:=HTo.out;omega⟩
 have HXs:Hid (X.Small∧X.tot≤2000000):=⟨HX.out.small HS.out,by rw [HX.out.tot];have:=HTo.out;omega⟩
 have HE0:Hid (ga G S0):=HGa.out.symm.trans H0.out
 have HqW:Hid (gW<wq.heap.size):=fH KW.out
 have HLW:Hid (∀ j,j<17→w8.cell? ⟨gW,0+j,none⟩=S0.cells[j]?):=ns ((HB0.out.block _ HqW.out).trans KW.out)
 have HLG:Hid (∀ j,j<17→w8.cell? ⟨gG,0+j,none⟩=G.cells[j]?):=ns KG.out
 go_wp2_with (first | refine fP rfl 40 17 _ Tryz.underlying40 rfl fZ (.tmp 10) rfl gG 0 rfl G.cells rfl HLG.out ?_ | refine fP rfl 40 17 _ Tryz.underlying40 rfl fZ (.tmp 6) rfl gW 0 rfl S0.cells rfl HLW.out ?_)
 clear HLG HLW
 refine (jR G S0 _ HGs.out.1 HOG.out.rd (HR0.out.1.up HB0.out) HE0.out).mono ?_
 rintro e w9 ⟨rfl,hb⟩
 replace HB0:Hid (Below wq.heap.size wq w9):=HB0.out.trans (hb.mono HB0.out.size)
 replace HOX:Hid (gI w9 wq.heap.size X):=HOX.out.up hb
 replace KX:Hid (w9.heap[gX]?=some (.cells X.cells 40 (0,0))):=(hb.block _ (fH KX.out)).trans KX.out
 replace HOG:Hid (gI w9 bG G):=HOG.out.up hb
 replace HFG:Hid (qj w9 bG fs a1 c1):=HFG.out.up hb
 replace KG:Hid (w9.heap[gG]?=some (.cells G.cells 40 (0,0))):=(hb.block _ (fH KG.out)).trans KG.out
 clear hb
 go_wp2_with fail
 refine (mg a1 a0 fs.length c1 c0 (fsF fs) _ HLe.out.2.2 HFG.out.rd (HR0.out.2.up HB0.out)).mono ?_
 rintro e wr ⟨rfl,hb⟩
 replace HB0:Hid (Below wq.heap.size wq wr):=HB0.out.trans (hb.mono HB0.out.size)
 replace HOX:Hid (gI wr wq.heap.size X):=HOX.out.up hb
 replace KX:Hid (wr.heap[gX]?=some (.cells X.cells 40 (0,0))):=(hb.block _ (fH KX.out)).trans KX.out
 replace HOG:Hid (gI wr bG G):=HOG.out.up hb
 replace HFG:Hid (qj wr bG fs a1 c1):=HFG.out.up hb
 replace KG:Hid (wr.heap[gG]?=some (.cells G.cells 40 (0,0))):=(hb.block _ (fH KG.out)).trans KG.out
 clear hb
 have hd:Below wr.heap.size wr wr.drew:=(Below.refl _ _).drew
 go_wp2_with fail
 have hb:=hd
 replace HB0:Hid (Below wq.heap.size wq wr.drew):=HB0.out.trans (hb.mono HB0.out.size)
 replace HOX:Hid (gI wr.drew wq.heap.size X):=HOX.out.up hb
 replace KX:Hid (wr.drew.heap[gX]?=some (.cells X.cells 40 (0,0))):=(hb.block _ (fH KX.out)).trans KX.out
 replace HOG:Hid (gI wr.drew bG G):=HOG.out.up hb
 replace HFG:Hid (qj wr.drew bG fs a1 c1):=HFG.out.up hb
 replace KG:Hid (wr.drew.heap[gG]?=some (.cells G.cells 40 (0,0))):=(hb.block _ (fH KG.out)).trans KG.out
 clear hb
 clear hd
 refine wp_region_held_drew (S:=fun w'=>(∀ j,j<17→w'.cell? ⟨gX,0+j,none⟩=X.cells[j]?)∧(∀ j,j<17→w'.cell? ⟨w.heap.size,0+j,none⟩=S.cells[j]?)) (by kernel_rfl) ⟨ns KX.out,vZ (next HB.out HB0.out)⟩ (fun hHeld=>?_)
 refine tC 0 56 (v:=.agg X.cells) ?_ ?_
 ·
  intro wx hSw
  exact iV 40 17 _ Tryz.underlying40 rfl fZ (.tmp 9) rfl gX 0 rfl X.cells rfl hSw.1
 try simp only [Act.put,PZ]
 refine tC 1 57 (v:=.agg S.cells) ?_ ?_
 ·
  intro wx hSw
  exact iV 32 17 _ Tryz.underlying32 rfl pG (.tmp 2) rfl w.heap.size 0 rfl S.cells rfl hSw.2
 try simp only [Act.put,PZ]
 refine rq1 2 (fun K hK=>?_)
 go_simp
 refine (kc S _ HS.out (HR.out.up (under (next HB.out HB0.out)))).mono ?_
 rintro e wa ⟨S7,rfl,ha,ho,hb⟩
 have H7:Hid (ga X S7∧j4 wa S7):=⟨HX.out.symm.trans ha,ho.rd⟩
 clear ha ho
 replace HB0:Hid (Below wq.heap.size wq wa):=HB0.out.trans (hb.mono HB0.out.size)
 replace HOX:Hid (gI wa wq.heap.size X):=HOX.out.up hb
 replace KX:Hid (wa.heap[gX]?=some (.cells X.cells 40 (0,0))):=(hb.block _ (fH KX.out)).trans KX.out
 replace HOG:Hid (gI wa bG G):=HOG.out.up hb
 replace HFG:Hid (qj wa bG fs a1 c1):=HFG.out.up hb
 replace KG:Hid (wa.heap[gG]?=some (.cells G.cells 40 (0,0))):=(hb.block _ (fH KG.out)).trans KG.out
 clear hb
 go_wp2_with fail
 refine hK.out _ _ ⟨ns KX.out,vZ (next HB.out HB0.out)⟩ (fun hHeld=>?_)
 clear hK K
 try simp only [Act.put,PZ]
 refine rq1 3 (fun K hK=>?_)
 go_simp
 refine (jR X S7 _ HXs.out.1 HOX.out.rd H7.out.2 H7.out.1).mono ?_
 rintro e wb ⟨rfl,hb⟩
 clear H7
 replace HB0:Hid (Below wq.heap.size wq wb):=HB0.out.trans (hb.mono HB0.out.size)
 replace HOX:Hid (gI wb wq.heap.size X):=HOX.out.up hb
 replace KX:Hid (wb.heap[gX]?=some (.cells X.cells 40 (0,0))):=(hb.block _ (fH KX.out)).trans KX.out
 replace HOG:Hid (gI wb bG G):=HOG.out.up hb
 replace HFG:Hid (qj wb bG fs a1 c1):=HFG.out.up hb
 replace KG:Hid (wb.heap[gG]?=some (.cells G.cells 40 (0,0))):=(hb.block _ (fH KG.out)).trans KG.out
 clear hb
 go_wp2_with fail
 refine hK.out _ _ ⟨ns KX.out,vZ (next HB.out HB0.out)⟩ (fun hHeld=>?_)
 clear hK K
 try simp only [Act.put,PZ]
 refine tP 4 60 ?_
 refine dnq ?_
 clear hHeld
 have HLX:Hid (∀ j,j<17→wb.cell? ⟨gX,0+j,none⟩=X.cells[j]?):=ns KX.out
 go_wp2_with (refine fP rfl 40 17 _ Tryz.underlying40 rfl fZ (.tmp 9) rfl gX 0 rfl X.cells rfl HLX.out ?_)
 clear HLX
 refine (qB X wq.heap.size _ HOX.out HXs.out.1 HXs.out.2).mono ?_
 rintro e wc ⟨rfl,_,tX⟩
 replace HB0:Hid (Below wq.heap.size wq wc):=HB0.out.trans (tX.below HB0.out.size (fun x hx=>(HXA.out x hx).1))
 replace HOG:Hid (gI wc bG G):=HOG.out.low tX (fun x hx=>by have:=(HXA.out x hx).2;have:=Hz6.out;omega)
 replace HFG:Hid (qj wc bG fs a1 c1):=⟨HFG.out.og.low tX (fun x hx=>by have:=(HXA.out x hx).2;have:=Hz6.out;omega)⟩
 replace KG:Hid (wc.heap[gG]?=some (.cells G.cells 40 (0,0))):=(tX.block _ (fH KG.out) (fun hx=>by have:=(HXA.out _ hx).2;have:=Hz6.out;have:=HgG.out;omega)).trans KG.out
 clear tX HOX KX HXA
 have hk0:¬ ((X.py 1:Nat):Int)<0:=by omega
 have HLW:Hid (∀ j,j<17→wc.cell? ⟨gW,0+j,none⟩=S0.cells[j]?):=ns ((HB0.out.block _ HqW.out).trans KW.out)
 have HLG:Hid (∀ j,j<17→wc.cell? ⟨gG,0+j,none⟩=G.cells[j]?):=ns KG.out
 go_wp2_with (first | refine mN (by kernel_rfl) 40 17 _ Tryz.underlying40 rfl fZ (.tmp 10) rfl gG 0 rfl G.cells rfl HLG.out ?_ | refine mN (by kernel_rfl) 40 17 _ Tryz.underlying40 rfl fZ (.tmp 6) rfl gW 0 rfl S0.cells rfl HLW.out ?_)
 clear HLG HLW
 refine (jR G S0 _ HGs.out.1 HOG.out.rd (HR0.out.1.up HB0.out) HE0.out).mono ?_
 rintro e wd ⟨rfl,hb⟩
 replace HB0:Hid (Below wq.heap.size wq wd):=HB0.out.trans (hb.mono HB0.out.size)
 replace HOG:Hid (gI wd bG G):=HOG.out.up hb
 replace HFG:Hid (qj wd bG fs a1 c1):=HFG.out.up hb
 replace KG:Hid (wd.heap[gG]?=some (.cells G.cells 40 (0,0))):=(hb.block _ (fH KG.out)).trans KG.out
 clear hb
 go_wp2_with fail
 refine (mg a1 a0 fs.length c1 c0 (fsF fs) _ HLe.out.2.2 HFG.out.rd (HR0.out.2.up HB0.out)).mono ?_
 rintro e ws ⟨rfl,hb⟩
 replace HB0:Hid (Below wq.heap.size wq ws):=HB0.out.trans (hb.mono HB0.out.size)
 replace HOG:Hid (gI ws bG G):=HOG.out.up hb
 replace HFG:Hid (qj ws bG fs a1 c1):=HFG.out.up hb
 replace KG:Hid (ws.heap[gG]?=some (.cells G.cells 40 (0,0))):=(hb.block _ (fH KG.out)).trans KG.out
 clear hb
 have HLG:Hid (∀ j,j<17→ws.cell? ⟨gG,0+j,none⟩=G.cells[j]?):=ns KG.out
 go_wp2_with (refine fP rfl 40 17 _ Tryz.underlying40 rfl fZ (.tmp 10) rfl gG 0 rfl G.cells rfl HLG.out ?_)
 clear HLG
 refine (qB G bG _ HOG.out HGs.out.1 HGs.out.2).mono ?_
 rintro e we ⟨rfl,hm,tG⟩
 have HM:Hid (qi we bG 1 G):=hm
 replace HB0:Hid (Below wq.heap.size wq we):=HB0.out.trans (tG.below HB0.out.size (fun x hx=>by have:=(HGA.out x hx).1;have:=Hq6.out;omega))
 replace HFG:Hid (qj we bG fs a1 c1):=HFG.out.offS HOG.out tG
 replace KG:Hid (we.heap[gG]?=some (.cells G.cells 40 (0,0))):=(tG.block _ (fH KG.out) (fun hx=>by have:=(HGA.out _ hx).2;omega)).trans KG.out
 have HmE:Hid (G.py 1≤50000000):=by have:=A0 HGs.out.2;rw [Hid];omega
 clear tG hm HOG HGA
 go_wp2_with fail
 refine (vD a1 fs.length c1 (G.py 1) bG _ _ HFG.out.vt HLe.out.2.2 HmE.out).mono ?_
 rintro e wt ⟨rfl,hmf,tF⟩
 obtain ⟨mE,emE⟩:∃ m,G.py 1+fs.length*5=m:=⟨_,rfl⟩
 have HmEq:Hid (G.py 1+fs.length*5=mE):=emE
 rw [emE]
 clear emE
 have htF:=HFG.out.vt.CV
 have HMF:Hid (VT 74 wt bG a1 (fs.length*5) (jl (G.py 1))):=hmf
 replace HB0:Hid (Below wq.heap.size wq wt):=HB0.out.trans (tF.below HB0.out.size (fun x hx=>by have:=(HFG.out.vt.blk x hx).1;have:=Hq6.out;omega))
 replace HM:Hid (qi wt bG 1 G):=HM.out.lX tF htF Dp
 replace KG:Hid (wt.heap[gG]?=some (.cells G.cells 40 (0,0))):=(tF.block _ (fH KG.out) (fun hx=>by obtain ⟨cs,e⟩:=htF _ hx;exact iz KG.out e (by decide) rfl)).trans KG.out
 clear tF hmf htF HFG
 have HLG:Hid (∀ j,j<17→wt.cell? ⟨gG,0+j,none⟩=G.cells[j]?):=ns KG.out
 go_wp2_with (refine fP rfl 40 17 _ Tryz.underlying40 rfl fZ (.tmp 10) rfl gG 0 rfl G.cells rfl HLG.out ?_)
 clear HLG
 refine (qG G bG _ HM.out HGs.out.1 HGs.out.2).mono ?_
 rintro e wf ⟨rfl,hb⟩
 replace HB0:Hid (Below wq.heap.size wq wf):=HB0.out.trans (hb.mono HB0.out.size)
 replace HM:Hid (qi wf bG 1 G):=HM.out.up hb
 replace HMF:Hid (VT 74 wf bG a1 (fs.length*5) (jl (G.py 1))):=HMF.out.up hb
 replace KG:Hid (wf.heap[gG]?=some (.cells G.cells 40 (0,0))):=(hb.block _ (fH KG.out)).trans KG.out
 clear hb
 have hq0:¬ ((G.py 1:Nat):Int)<0:=by omega
 go_wp2_with fail
 refine (pI a1 fs.length c1 (G.py 1) bG _ HMF.out HLe.out.2.2 HmE.out).mono ?_
 rintro e wu ⟨rfl,hb⟩
 replace HB0:Hid (Below wq.heap.size wq wu):=HB0.out.trans (hb.mono HB0.out.size)
 replace HM:Hid (qi wu bG 1 G):=HM.out.up hb
 replace HMF:Hid (VT 74 wu bG a1 (fs.length*5) (jl (G.py 1))):=HMF.out.up hb
 replace KG:Hid (wu.heap[gG]?=some (.cells G.cells 40 (0,0))):=(hb.block _ (fH KG.out)).trans KG.out
 clear hb
 rw [HmEq.out]
 have hq1:¬ ((mE:Nat):Int)<0:=by omega
 have hqq:(((mE:Nat):Int) != ((mE:Nat):Int))=false:=by simp
 have HL:Hid (∀ j,j<17→wu.cell? ⟨w.heap.size,0+j,none⟩=S.cells[j]?):=vZ (next HB.out HB0.out)
 go_wp2_with (refine fP rfl 32 17 _ Tryz.underlying32 rfl pG (.tmp 2) rfl w.heap.size 0 rfl S.cells rfl HL.out ?_)
 clear HL
 refine (kc S _ HS.out (HR.out.up (under (next HB.out HB0.out)))).mono ?_
 rintro e wg ⟨Y,rfl,ha,ho,hb⟩
 have HY:Hid (ga S Y∧j4 wg Y):=⟨ha,ho.rd⟩
 clear ha ho
 replace HB0:Hid (Below wq.heap.size wq wg):=HB0.out.trans (hb.mono HB0.out.size)
 replace HM:Hid (qi wg bG 1 G):=HM.out.up hb
 replace HMF:Hid (VT 74 wg bG a1 (fs.length*5) (jl (G.py 1))):=HMF.out.up hb
 replace KG:Hid (wg.heap[gG]?=some (.cells G.cells 40 (0,0))):=(hb.block _ (fH KG.out)).trans KG.out
 clear hb
 obtain ⟨PY,hmY,haY⟩:=HSB.out.pQ HY.out.1
 go_wp2_with fail
 refine (ue Y PY port fs _ (HY.out.1.small HS.out) HY.out.2 b hmY).mono ?_
 rintro e wh ⟨H,a2,c2,rfl,ha,ho,hf2,hb⟩
 have HH:Hid (ga H S0):=(haY.trans ha).symm.trans H0.out
 have HHs:Hid H.Small:=(haY.trans ha).small HLe.out.1
 have HRH:Hid (j4 wh H∧RdF wh a2 fs.length (fsF fs)):=⟨ho.rd,hf2.jA⟩
 clear ha ho HY hf2 hmY haY
 replace HB0:Hid (Below wq.heap.size wq wh):=HB0.out.trans (hb.mono HB0.out.size)
 replace HM:Hid (qi wh bG 1 G):=HM.out.up hb
 replace HMF:Hid (VT 74 wh bG a1 (fs.length*5) (jl (G.py 1))):=HMF.out.up hb
 replace KG:Hid (wh.heap[gG]?=some (.cells G.cells 40 (0,0))):=(hb.block _ (fH KG.out)).trans KG.out
 clear hb
 have HG:Hid ((wh.alloc (.cells #[.int .i64 0,.int .i64 0,.int .i64 0,.int .i64 0,.int .i64 0,.int .i64 0,.int .i64 0,.int .i64 0,.int .i64 0,.slice none 0 0,.slice none 0 0,.int .i64 0,.slice none 0 0,.slice none 0 0,.slice none 0 0,.int .i64 0,.int .i64 0] 40)).heap[wh.heap.size]?=some (.cells #[.int .i64 0,.int .i64 0,.int .i64 0,.int .i64 0,.int .i64 0,.int .i64 0,.int .i64 0,.int .i64 0,.int .i64 0,.slice none 0 0,.slice none 0 0,.int .i64 0,.slice none 0 0,.slice none 0 0,.slice none 0 0,.int .i64 0,.int .i64 0] 40 (0,0))):=fL _ _
 go_wp2_with (refine fJ rfl 40 (.tmp 16) (.tmp 107) rfl wh.heap.size 0 rfl (.agg H.cells) rfl 17 rfl 40 _ HG.out fZ (Nat.le_of_ble_eq_true rfl) (Swg.lL _) ?_)
 intro wi hP
 replace hP:Put _ wi wh.heap.size H.cells 40:=hP.cast rfl
 have hb:Below wh.heap.size wh wi:=((Below.refl _ _).alloc (Nat.le_refl _) _).trans (hP.to.below (by simp) (fun x hx=>by simp at hx;omega))
 have KH:Hid (wi.heap[wh.heap.size]?=some (.cells H.cells 40 (0,0))):=hP.blk
 clear hP HG
 replace HRH:Hid (j4 wi H∧RdF wi a2 fs.length (fsF fs)):=⟨HRH.out.1.up hb,HRH.out.2.up hb⟩
 replace HB0:Hid (Below wq.heap.size wq wi):=HB0.out.trans (hb.mono HB0.out.size)
 replace HM:Hid (qi wi bG 1 G):=HM.out.up hb
 replace HMF:Hid (VT 74 wi bG a1 (fs.length*5) (jl (G.py 1))):=HMF.out.up hb
 replace KG:Hid (wi.heap[gG]?=some (.cells G.cells 40 (0,0))):=(hb.block _ (fH KG.out)).trans KG.out
 clear hb
 obtain ⟨gH,egH⟩:∃ g,wh.heap.size=g:=⟨_,rfl⟩
 rw [egH] at KH ⊢
 clear egH
 have HLW:Hid (∀ j,j<17→wi.cell? ⟨gW,0+j,none⟩=S0.cells[j]?):=ns ((HB0.out.block _ HqW.out).trans KW.out)
 have HLH:Hid (∀ j,j<17→wi.cell? ⟨gH,0+j,none⟩=H.cells[j]?):=ns KH.out
 go_wp2_with (first | refine fP rfl 40 17 _ Tryz.underlying40 rfl fZ (.tmp 16) rfl gH 0 rfl H.cells rfl HLH.out ?_ | refine fP rfl 40 17 _ Tryz.underlying40 rfl fZ (.tmp 6) rfl gW 0 rfl S0.cells rfl HLW.out ?_)
 clear HLH HLW KH
 refine (jR H S0 _ HHs.out HRH.out.1 (HR0.out.1.up HB0.out) HH.out).mono ?_
 rintro e wj ⟨rfl,hb⟩
 replace HRH:Hid (j4 wj H∧RdF wj a2 fs.length (fsF fs)):=⟨HRH.out.1.up hb,HRH.out.2.up hb⟩
 replace HB0:Hid (Below wq.heap.size wq wj):=HB0.out.trans (hb.mono HB0.out.size)
 replace HM:Hid (qi wj bG 1 G):=HM.out.up hb
 replace HMF:Hid (VT 74 wj bG a1 (fs.length*5) (jl (G.py 1))):=HMF.out.up hb
 replace KG:Hid (wj.heap[gG]?=some (.cells G.cells 40 (0,0))):=(hb.block _ (fH KG.out)).trans KG.out
 clear hb
 go_wp2_with fail
 refine (mg a2 a0 fs.length c2 c0 (fsF fs) _ HLe.out.2.2 HRH.out.2 (HR0.out.2.up HB0.out)).mono ?_
 rintro e wv ⟨rfl,hb⟩
 replace HB0:Hid (Below wq.heap.size wq wv):=HB0.out.trans (hb.mono HB0.out.size)
 replace HM:Hid (qi wv bG 1 G):=HM.out.up hb
 replace HMF:Hid (VT 74 wv bG a1 (fs.length*5) (jl (G.py 1))):=HMF.out.up hb
 replace KG:Hid (wv.heap[gG]?=some (.cells G.cells 40 (0,0))):=(hb.block _ (fH KG.out)).trans KG.out
 clear hb
 have HLG:Hid (∀ j,j<17→wv.cell? ⟨gG,0+j,none⟩=G.cells[j]?):=ns KG.out
 go_wp2_with (refine fP rfl 40 17 _ Tryz.underlying40 rfl fZ (.tmp 10) rfl gG 0 rfl G.cells rfl HLG.out ?_)
 clear HLG
 refine (qG G bG _ HM.out HGs.out.1 HGs.out.2).mono ?_
 rintro e wk ⟨rfl,hb⟩
 replace HB0:Hid (Below wq.heap.size wq wk):=HB0.out.trans (hb.mono HB0.out.size)
 replace HM:Hid (qi wk bG 1 G):=HM.out.up hb
 replace HMF:Hid (VT 74 wk bG a1 (fs.length*5) (jl (G.py 1))):=HMF.out.up hb
 replace KG:Hid (wk.heap[gG]?=some (.cells G.cells 40 (0,0))):=(hb.block _ (fH KG.out)).trans KG.out
 clear hb
 go_wp2_with fail
 refine (pI a1 fs.length c1 (G.py 1) bG _ HMF.out HLe.out.2.2 HmE.out).mono ?_
 rintro e wl ⟨rfl,hb⟩
 replace HB0:Hid (Below wq.heap.size wq wl):=HB0.out.trans (hb.mono HB0.out.size)
 replace HM:Hid (qi wl bG 1 G):=HM.out.up hb
 replace HMF:Hid (VT 74 wl bG a1 (fs.length*5) (jl (G.py 1))):=HMF.out.up hb
 replace KG:Hid (wl.heap[gG]?=some (.cells G.cells 40 (0,0))):=(hb.block _ (fH KG.out)).trans KG.out
 clear hb
 rw [HmEq.out]
 have B:=under (next HB.out HB0.out)
 go_wp2_with fail
 go_ret
 exact ⟨rfl,B⟩
theorem u7 (os:Os) (started:os.Started) (H:Type) (enc:TypeId × Value→H) :
  ReturnsInHanded {} Tryz.checked os 3 .any (Rows.fnExactSentSpec.pre6 enc Tryz.prog Tryz.f3 Rows.fnExactSentRow.domain false) (Rows.fnExactSentSpec.post enc Tryz.prog Tryz.f3 false true false false):=by
 refine returnsInHanded_of_change (C:=Tryz.checked) CI started (by kernel_rfl) Tryz.func3
  (ChangeSpec.witness6 (enc:=enc) (C:=Tryz.checked) false ⟨#[],#[.agg #[.int .i64 0,.int .i64 0,.int .i64 0,.int .i64 0,.int .i64 0,.int .i64 0,.int .i64 0,.int .i64 0,.int .i64 0,.slice none 0 0,.slice none 0 0,.int .i64 0,.slice none 0 0,.slice none 0 0,.slice none 0 0,.int .i64 0,.int .i64 0],.int .i64 0],[]⟩ 8 (by kernel_rfl) (by kernel_rfl) (by kernel_rfl) (by kernel_rfl)) ?_
 intro W base args ds gs before hval0 hW hcnd _
 have hval:∀ (j:Nat) t v,Tryz.f3.params[j]?=some t→args[j]?=some v→Value.okWide Tryz.prog W .any base t v:=hval0
 have hW':=hW
 obtain ⟨p,q,hA0,hV,rfl,hfz,hnd⟩:=hW
 have hA:DataW.TrodAll enc Tryz.prog W 0 (fun _=>true) true Tryz.f3.params.toList args.toList ds p:=hA0
 rw [Tryz.params3] at hA hval
 obtain ⟨v0,vs0,d0,ds0,p0,q0,hargs,rfl,rfl,h0,r0⟩:=trodAll_cons hA
 obtain ⟨v1,vs1,d1,ds1,p1,q1,rfl,rfl,rfl,h1,r1⟩:=trodAll_cons r0
 obtain ⟨rfl,rfl,rfl⟩:=trodAll_nil r1
 obtain rfl:args=#[v0,v1]:=by cases args;simp_all
 obtain ⟨rfl,rfl⟩:=trodVars_none hV
 have k0:=h0
 have lt0:∀ x∈p0,x.block<W.heap.size:=by obtain ⟨m,hm⟩:=k0;exact DataW.trod_lt m _ _ _ hm
 obtain ⟨S0,rfl,f0,rr0⟩:=vk (hval 0 32 v0 rfl rfl) h0
 obtain ⟨a1,rfl,rfl,rfl,w1⟩:=open_int Tryz.underlying2 (hval 1 2 v1 rfl rfl) h1
 clear hA0 hval0
 refine (AG S0 a1 W f0 rr0).mono fun e W' ⟨he,bel⟩=>?_
 subst he
 exact ⟨_,rfl,_,_,_,[],_,[],hW',trodAll_mk1 (shut_bool Tryz.underlying4 _),(trodAll_cons_mk (Below.trod A8 (by kernel_rfl) (of_decide_eq_true (by kernel_rfl)) k0 bel lt0) (trodAll_cons_mk (shut_int Tryz.underlying2 w1) trodAll_mk0)),rfl,bel.frame _,fun h=>by cases h⟩
theorem sent_holds:Rows.FnExactSentSaid :=
 OpenClaim.holds_of_wide 3 Tryz.f3 rfl rfl rfl rfl rfl rfl rfl ⟨rfl,rfl,rfl,rfl,rfl⟩ rfl rfl rfl rfl rfl (by kernel_rfl) Tryz.func3 (by kernel_rfl)
  (of_decide_eq_true (by kernel_rfl)) (by unfold Func.isWrapper;first | (rw [if_pos (by decide +kernel)];kernel_rfl) | (rw [if_neg (by decide +kernel)];exact ⟨rfl,rfl⟩))
  (fun os started H enc _=>u7 os started H enc)
#print axioms sent_holds
end Go.Proofs.YtfcfpkibceepgaaGreat
