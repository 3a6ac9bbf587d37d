import Derived.Test.YtjaobmbcmjgjgaaGreatDoorA17
import Derived.Test.YtjaobmbcmjgjgaaGreatDoorA32
namespace Go.Proofs.YtjaobmbcmjgjgaaGreatDoor
set_option maxRecDepth 100000
set_option maxHeartbeats 16000000
open Go.RowKit
set_option linter.unusedVariables false
set_option linter.unusedSimpArgs false
theorem fh {p:Prop} (h:p:=by
 refine rq1 5 (fun K hK=>?_)
 go_simp
 have eF:(#[.int .i64 x.k,.int .i64 x.d,.int .i64 x.s,.int .i64 x.p,.string x.b]:Array Value)=x.frc:=rfl
 rw [eF]
 clear eF
 obtain ⟨P2,hm2,ha2⟩:=HM.out.AE H2.out.1
 refine (ko S2 P2 port x code aF aD aL _ (H2.out.1.small HS.out) H2.out.2 HXb.out (qt HV.out (HB.out.bel.trans (HB0.out.mono HB.out.bel.size))) hm2).mono ?_
 have HVz:Hid (wg.heap.size≤V.heap.size):=HB0.out.size
 obtain ⟨bG,ebG⟩:∃ b,V.heap.size=b:=⟨_,rfl⟩
 rw [ebG] at HVz
 rw [ebG]
 rintro e V ⟨S0,rfl,ha,ho,hb⟩
 rw [←ebG] at hb
 replace HB0:Hid (Below wg.heap.size wg V):=HB0.out.trans (hb.mono HB0.out.size)
 replace HG:Hid (V.heap[g8]?=some (.cells #[.int .i64 0,.int .i64 0,.int .i64 0,.int .i64 0,.int .i64 0,.int .i64 0,.int .i64 0,.int .i64 0,.int .i64 0,.slice none 0 0,.slice none 0 0,.int .i64 0,.slice none 0 0,.slice none 0 0,.slice none 0 0,.int .i64 0,.int .i64 0] 43 (0,0))∧wg.heap.size≤g8):=⟨(hb.block _ (fG HG.out.1)).trans HG.out.1,HG.out.2⟩
 have H0:Hid (fP S' S0∧gy V bG S0):=⟨ha2.trans ha,ho⟩
 clear ha ho hb hm2 ha2 ebG
 have hSn:=And.intro ((HB0.out.block _ (fG HB.out.a)).trans HB.out.a) ((HB0.out.block _ (fG HB.out.f)).trans HB.out.f)
 go_wp2_with fail
 refine hK.out _ _ hSn (fun hHeld=>?_)
 clear hK K
 try simp only [Act.put,PZ]
 clear hSn
 refine tQ 6 88 ?_
 refine tQ 7 95 ?_
 refine tQ 8 96 ?_
 exact fA):p:=h
theorem fi {p:Prop} (h:p:=by
 refine rq1 5 (fun K hK=>?_)
 go_simp
 have eF:(#[.int .i64 x.k,.int .i64 x.d,.int .i64 x.s,.int .i64 x.p,.string x.b]:Array Value)=x.frc:=rfl
 rw [eF]
 clear eF
 obtain ⟨P2,hm2,ha2⟩:=HM.out.AE H2.out.1
 refine (nJ S2 P2 port x code _ (H2.out.1.small HS.out) H2.out.2 HXb.out hm2).mono ?_
 have HVz:Hid (w2.heap.size≤V.heap.size):=HB0.out.size
 obtain ⟨bG,ebG⟩:∃ b,V.heap.size=b:=⟨_,rfl⟩
 rw [ebG] at HVz
 rw [ebG]
 rintro e V ⟨S0,rfl,ha,ho,hb⟩
 rw [←ebG] at hb
 replace HB0:Hid (Below w2.heap.size w2 V):=HB0.out.trans (hb.mono HB0.out.size)
 replace HG:Hid (V.heap[g8]?=some (.cells #[.int .i64 0,.int .i64 0,.int .i64 0,.int .i64 0,.int .i64 0,.int .i64 0,.int .i64 0,.int .i64 0,.int .i64 0,.slice none 0 0,.slice none 0 0,.int .i64 0,.slice none 0 0,.slice none 0 0,.slice none 0 0,.int .i64 0,.int .i64 0] 43 (0,0))∧w2.heap.size≤g8):=⟨(hb.block _ (fG HG.out.1)).trans HG.out.1,HG.out.2⟩
 have H0:Hid (fP S' S0∧gy V bG S0):=⟨ha2.trans ha,ho⟩
 clear ha ho hb hm2 ha2 ebG
 have hSn:=And.intro ((HB0.out.block _ (fG HB.out.a)).trans HB.out.a) ((HB0.out.block _ (fG HB.out.f)).trans HB.out.f)
 go_wp2_with fail
 refine hK.out _ _ hSn (fun hHeld=>?_)
 clear hK K
 try simp only [Act.put,PZ]
 clear hSn
 refine tQ 6 28 ?_
 refine tQ 7 35 ?_
 refine tQ 8 36 ?_
 exact fD):p:=h
theorem fj {p:Prop} (h:p:=by
 refine rq1 4 (fun K hK=>?_)
 go_simp
 have eF:(#[.int .i64 x.k,.int .i64 x.d,.int .i64 x.s,.int .i64 x.p,.string x.b]:Array Value)=x.frc:=rfl
 rw [eF]
 clear eF
 obtain ⟨P2,hm2,ha2⟩:=HM.out.AE HX.out
 refine (ko X P2 port x code aF aD aL _ (HX.out.small HS.out) (HOX.out.rd.up HB0.out) HXb.out (qt HV.out (HB.out.bel.trans (HB0.out.mono HB.out.bel.size))) hm2).mono ?_
 have HVz:Hid (w6.heap.size≤V.heap.size):=HB0.out.size
 obtain ⟨bG,ebG⟩:∃ b,V.heap.size=b:=⟨_,rfl⟩
 rw [ebG] at HVz
 rw [ebG]
 rintro e V ⟨S0,rfl,ha,ho,hb⟩
 rw [←ebG] at hb
 replace HB0:Hid (Below w6.heap.size w6 V):=HB0.out.trans (hb.mono HB0.out.size)
 replace HG:Hid (V.heap[g8]?=some (.cells #[.int .i64 0,.int .i64 0,.int .i64 0,.int .i64 0,.int .i64 0,.int .i64 0,.int .i64 0,.int .i64 0,.int .i64 0,.slice none 0 0,.slice none 0 0,.int .i64 0,.slice none 0 0,.slice none 0 0,.slice none 0 0,.int .i64 0,.int .i64 0] 43 (0,0))∧w6.heap.size≤g8):=⟨(hb.block _ (fG HG.out.1)).trans HG.out.1,HG.out.2⟩
 have H0:Hid (fP S' S0∧gy V bG S0):=⟨ha2.trans ha,ho⟩
 clear ha ho hb hm2 ha2 ebG
 have hSn:=And.intro ((HB0.out.block _ (fG HB.out.a)).trans HB.out.a) (And.intro ((HB0.out.block _ (fG HB.out.f)).trans HB.out.f) ((HB0.out.block _ (fG KX.out)).trans KX.out))
 go_wp2_with fail
 refine hK.out _ _ hSn (fun hHeld=>?_)
 clear hK K
 try simp only [Act.put,PZ]
 clear hSn
 refine tQ 5 39 ?_
 refine tQ 6 45 ?_
 refine tQ 7 46 ?_
 exact fE):p:=h
theorem fm {p:Prop} (h:p:=by
 refine rq1 4 (fun K hK=>?_)
 go_simp
 unfold Pkt.frc
 refine (jf x.k x.d x.s x.p x.b _).mono ?_
 rintro e V ⟨rfl,hb⟩
 replace HB0:Hid (Below w2.heap.size w2 V):=HB0.out.trans (hb.mono HB0.out.size)
 replace HG:Hid (V.heap[g8]?=some (.cells #[.int .i64 0,.int .i64 0,.int .i64 0,.int .i64 0,.int .i64 0,.int .i64 0,.int .i64 0,.int .i64 0,.int .i64 0,.slice none 0 0,.slice none 0 0,.int .i64 0,.slice none 0 0,.slice none 0 0,.slice none 0 0,.int .i64 0,.int .i64 0] 43 (0,0))∧w2.heap.size≤g8):=⟨(hb.block _ (fG HG.out.1)).trans HG.out.1,HG.out.2⟩
 replace H2:Hid (fP S S2∧jL V S2):=⟨H2.out.1,H2.out.2.up hb⟩
 clear hb
 have hSn:=And.intro ((HB0.out.block _ (fG HB.out.a)).trans HB.out.a) ((HB0.out.block _ (fG HB.out.f)).trans HB.out.f)
 go_wp2_with fail
 refine hK.out _ _ hSn (fun hHeld=>?_)
 clear hK K
 try simp only [Act.put,PZ]
 clear hSn
 exact fi):p:=h
theorem fv {p:Prop} (h:p:=by
 refine rq1 4 (fun K hK=>?_)
 go_simp
 unfold Pkt.frc
 refine (jf x.k x.d x.s x.p x.b _).mono ?_
 rintro e V ⟨rfl,hb⟩
 replace HB0:Hid (Below wg.heap.size wg V):=HB0.out.trans (hb.mono HB0.out.size)
 replace HG:Hid (V.heap[g8]?=some (.cells #[.int .i64 0,.int .i64 0,.int .i64 0,.int .i64 0,.int .i64 0,.int .i64 0,.int .i64 0,.int .i64 0,.int .i64 0,.slice none 0 0,.slice none 0 0,.int .i64 0,.slice none 0 0,.slice none 0 0,.slice none 0 0,.int .i64 0,.int .i64 0] 43 (0,0))∧wg.heap.size≤g8):=⟨(hb.block _ (fG HG.out.1)).trans HG.out.1,HG.out.2⟩
 replace H2:Hid (fP S S2∧jL V S2):=⟨H2.out.1,H2.out.2.up hb⟩
 clear hb
 have hSn:=And.intro ((HB0.out.block _ (fG HB.out.a)).trans HB.out.a) ((HB0.out.block _ (fG HB.out.f)).trans HB.out.f)
 go_wp2_with fail
 refine hK.out _ _ hSn (fun hHeld=>?_)
 clear hK K
 try simp only [Act.put,PZ]
 clear hSn
 exact fh):p:=h
theorem fw {p:Prop} (h:p:=by
 exact ⟨cs,_,e,by decide⟩):p:=h
theorem fy {p:Prop} (h:p:=by
 go_wp2_with fail
 go_ret
 exact ⟨rfl,B⟩):p:=h
theorem fA {p:Prop} (h:p:=by
 refine rq1 10 (fun K hK=>?_)
 refine iz (by kernel_rfl) none rfl 43 (.tmp 16) (.tmp 95) rfl g8 0 rfl (.agg S0.cells) rfl 17 rfl 43 _ HG.out.1 fV (Nat.le_of_ble_eq_true rfl) (Swg.mi _) ?_
 intro Y hP
 exact arL2):p:=h
theorem fD {p:Prop} (h:p:=by
 refine rq1 10 (fun K hK=>?_)
 refine iz (by kernel_rfl) none rfl 43 (.tmp 8) (.tmp 35) rfl g8 0 rfl (.agg S0.cells) rfl 17 rfl 43 _ HG.out.1 fV (Nat.le_of_ble_eq_true rfl) (Swg.mi _) ?_
 intro Y hP
 exact arL0):p:=h
theorem fE {p:Prop} (h:p:=by
 refine rq1 9 (fun K hK=>?_)
 refine iz (by kernel_rfl) none rfl 43 (.tmp 11) (.tmp 45) rfl g8 0 rfl (.agg S0.cells) rfl 17 rfl 43 _ HG.out.1 fV (Nat.le_of_ble_eq_true rfl) (Swg.mi _) ?_
 intro Y hP
 exact arL1):p:=h
theorem nJ (S S':Swg) (port:Int) (x:Pkt) (code:Int) (w:World) (hs:S.Small) (hr:jL w S) (hxb:x.b.size≤1048576) (hm:pQ S S' port x code) :
  Calls Tryz.prog 6 #[.agg S.cells,.int .i64 port,.agg x.frc] w fun e w'=>∃ S2,e=.returned (.tuple #[.agg S2.cells,.int .i64 code])∧fP S' S2∧gy w' w.heap.size S2∧Below w.heap.size w w':=by
 obtain ⟨ok,hok⟩:=iw S.Ok
 have HO:Hid (ok=true↔S.Ok):=hok
 have HM:Hid (pQ S S' port x code):=hm
 have HR:Hid (jL w S):=hr
 have HS:Hid S.Small:=hs
 obtain ⟨W,eW⟩:∃ W,((w.alloc (.cells S.cells 43)).alloc (.cells x.frc 47)).alloc (.cells #[.int .i64 0,.int .i64 0,.int .i64 0,.int .i64 0,.int .i64 0,.int .i64 0,.int .i64 0,.int .i64 0,.int .i64 0,.slice none 0 0,.slice none 0 0,.int .i64 0,.slice none 0 0,.slice none 0 0,.slice none 0 0,.int .i64 0,.int .i64 0] 43)=W:=⟨_,rfl⟩
 have HX:Hid (Thr w W S x):=by rw [←eW];exact Thr.start _ _ _
 have HL:Hid (∀ j,j<17→W.cell? ⟨w.heap.size,0+j,none⟩=S.cells[j]?):=fun j _=>by rw [Nat.zero_add];exact fF HX.out.a j
 clear hs hr hok hm
 go_enter Tryz.func6,Tryz.ntmps6
 go_wp2_with (refine fM rfl 43 17 _ Tryz.underlying43 rfl fV (.tmp 3) rfl (w.heap.size) 0 rfl S.cells rfl HL.out ?_)
 clear eW HL
 refine (qF S _ HS.out (HR.out.up HX.out.bel) ok HO.out).mono ?_
 rintro e w1 ⟨rfl,hbl⟩
 replace HX:Hid (Thr w w1 S x):=HX.out.up hbl
 clear hbl
 have HD:Hid (w1.heap[w.heap.size+1+1]?=some (.cells zSw 43 (0,0))):=HX.out.z
 cases ok
 ·
  have HF:Hid (S'=mH∧code=1):=by
   rcases HM.out with ⟨_,h1,h2⟩ | ⟨h,_⟩ | ⟨h,_⟩
   ·
    exact ⟨h1,h2⟩
   ·
    exact absurd (HO.out.2 h) (by simp)
   exact absurd (HO.out.2 h) (by simp)
  go_wp2_with (refine fJ rfl 43 (.tmp 6) (.tmp 11) rfl (w.heap.size+1+1) 0 rfl (.agg #[.int .i64 0,.int .i64 0,.int .i64 0,.int .i64 0,.int .i64 0,.int .i64 0,.int .i64 0,.int .i64 0,.int .i64 0,.slice none 0 0,.slice none 0 0,.int .i64 0,.slice none 0 0,.slice none 0 0,.slice none 0 0,.int .i64 0,.int .i64 0]) rfl 17 rfl 43 _ HD.out fV (Nat.le_of_ble_eq_true rfl) (by simp [Value.cells,Value.oneCell']) ?_)
  intro X hP
  replace hP:Put w1 X (w.heap.size+1+1) mH.cells 43:=hP.cast rfl
  have HK:Hid (X.heap[w.heap.size+1+1]?=some (.cells mH.cells 43 (0,0))):=hP.blk
  have HB2:Hid (Below w.heap.size w X):=HX.out.bel.trans (hP.to.below HX.out.bel.size (fun y hy=>by simp at hy;omega))
  clear hP
  go_wp2_with fail
  rw [HF.out.1,HF.out.2]
  exact bodyPost_ret (kW Tryz.results6 17 _ Tryz.underlying43 rfl fV _ _ (w.heap.size+1+1) mH.cells rfl 43 HK.out rfl (.int .i64 1) rfl) rfl ⟨mH,rfl,fP.refl _,vH _ _,HB2.out⟩
 have HOk:Hid S.Ok:=HO.out.1 rfl
 have HL:Hid (∀ j,j<17→w1.cell? ⟨w.heap.size,0+j,none⟩=S.cells[j]?):=fun j _=>by rw [Nat.zero_add];exact fF HX.out.a j
 have HLf:Hid (∀ j,j<5→w1.cell? ⟨w.heap.size+1,0+j,none⟩=x.frc[j]?):=lM HX.out.f
 go_wp2_with (first | refine fM rfl 43 17 _ Tryz.underlying43 rfl fV (.tmp 3) rfl (w.heap.size) 0 rfl S.cells rfl HL.out ?_ | refine fM rfl 47 5 _ Tryz.underlying47 rfl ix (.tmp 5) rfl (w.heap.size+1) 0 rfl x.frc rfl HLf.out ?_)
 clear HL HD HLf
 have HW1:Hid (w.heap.size≤w1.heap.size):=HX.out.bel.size
 refine (qY S S' port x code _ HS.out (HR.out.up HX.out.bel) HOk.out hxb HM.out).mono ?_
 rintro e w2 ⟨Q,rfl,aQ,oQ,hbl⟩
 replace HX:Hid (Thr w w2 S x):=HX.out.up hbl
 have HN:Hid (fP S' Q∧gy w2 w.heap.size Q):=⟨aQ,oQ.mono HW1.out⟩
 have HD:Hid (w2.heap[w.heap.size+1+1]?=some (.cells zSw 43 (0,0))):=HX.out.z
 clear aQ oQ hbl
 go_wp2_with (refine fJ rfl 43 (.tmp 6) (.tmp 16) rfl (w.heap.size+1+1) 0 rfl (.agg Q.cells) rfl 17 rfl 43 _ HD.out fV (Nat.le_of_ble_eq_true rfl) (Swg.mi _) ?_)
 intro X hP
 replace hP:Put w2 X (w.heap.size+1+1) Q.cells 43:=hP.cast rfl
 have HK:Hid (X.heap[w.heap.size+1+1]?=some (.cells Q.cells 43 (0,0))):=hP.blk
 have HFF:Hid (gy X w.heap.size Q∧Below w.heap.size w X):=⟨HN.out.2.off HD.out hP.to,HX.out.bel.trans (hP.to.below HX.out.bel.size (fun y hy=>by simp at hy;omega))⟩
 clear hP HD
 go_wp2_with fail
 exact bodyPost_ret (kW Tryz.results6 17 _ Tryz.underlying43 rfl fV _ _ (w.heap.size+1+1) Q.cells rfl 43 HK.out rfl (.int .i64 code) rfl) rfl ⟨Q,rfl,HN.out.1,HFF.out.1,HFF.out.2⟩
theorem pj:(Tryz.prog.info? 32).map (·.size)=some 17:=by kernel_rfl
theorem ra:(Tryz.prog.info? 34).map (·.size)=some 5:=by kernel_rfl
theorem kI {w:World} {g:Nat} {S:Swg} {t:TypeId} (h:w.heap[g]?=some (.cells S.cells t (0,0))):∀ j,j<17→w.cell? ⟨g,0+j,none⟩=S.cells[j]?:=fun j _=>by
 rw [Nat.zero_add]
 exact fF h j
theorem C4 {w:World} {g:Nat} {x:Pkt} {t:TypeId} (h:w.heap[g]?=some (.cells x.frc t (0,0))):∀ j,j<5→w.cell? ⟨g,0+j,none⟩=x.frc[j]?:=by
 intro j hj
 rw [Nat.zero_add,fF h]
structure Fst (w W:World) (S:Swg) (x:Pkt):Prop where
 a:W.heap[w.heap.size]?=some (.cells S.cells 32 (0,0))
 f:W.heap[w.heap.size+1]?=some (.cells x.frc 34 (0,0))
 bel:Below w.heap.size w W
theorem Fst.mE {w W W':World} {S:Swg} {x:Pkt} (h:Fst w W S x) (hb:Below W.heap.size W W'):Fst w W' S x :=
 ⟨(hb.block _ (fG h.a)).trans h.a,(hb.block _ (fG h.f)).trans h.f,h.bel.trans (hb.mono h.bel.size)⟩
theorem Fst.start (w:World) (S:Swg) (x:Pkt):Fst w ((w.alloc (.cells S.cells 32)).alloc (.cells x.frc 34)) S x:=by
 have e1:(w.alloc (.cells S.cells 32)).heap.size=w.heap.size+1:=by simp
 refine ⟨?_,?_,((Below.refl _ _).alloc (Nat.le_refl _) _).alloc (by omega) _⟩
 ·
  rw [fY _ (by omega)];exact fK _ _
 rw [←e1];exact fK _ _
theorem qt {w W:World} {aF aD aL:Addr} (h:om w w.heap.size aF aD aL) (hb:Below w.heap.size w W):om W W.heap.size aF aD aL:=(h.up hb).mono hb.size
theorem sG (x:Pkt) (left:Int) (w:World) (h0:0≤left) (h1:left≤1048576) (hf:x.b.size≤maxLen) :
  Calls Tryz.prog 5 #[.agg #[.int .i64 x.k,.int .i64 x.d,.int .i64 x.s,.int .i64 x.p,.string x.b],.int .i64 left] w fun e w'=>(∃ r:Int,e=.returned (.int .i64 r)∧(r=-1∨0≤r∧x.b.size≤1048576))∧Below w.heap.size w w':=by
 refine (oX x.k x.d x.s x.p left x.b _ hf h0 h1).mono ?_
 rintro e w1 ⟨rfl,hb1⟩
 refine ⟨⟨_,rfl,?_⟩,hb1⟩
 by_cases hl:left<x.b.size
 ·
  rw [if_pos hl];exact .inl rfl
 rw [if_neg hl];exact .inr ⟨by omega,by omega⟩
structure CY (w0 w W:World) (S':Swg) (g bG:Nat) (G:Swg):Prop where
 k:W.heap[g]?=some (.cells G.cells 43 (0,0))
 al:fP S' G
 own:iD W bG G
 ng:g∉G.all
 ge:w.heap.size≤g∧w.heap.size≤bG
 bel:Below w.heap.size w W
structure DC (w0 w W:World) (S':Swg) (g bG gX:Nat) (X G:Swg):Prop where
 s:CY w0 w W S' g bG G
 kx:W.heap[gX]?=some (.cells X.cells 43 (0,0))
theorem iD.Dq {w:World} {base:Nat} {S:Swg} (h:iD w base S):∀ x∈S.all,∃ cs t,w.heap[x]?=some (.cells cs t (0,0))∧t≠43:=by
 intro x hx
 unfold Swg.all Br at hx
 simp only [List.mem_append,List.mem_flatMap,List.mem_range] at hx
 have two:∀ {a:Option Addr} {n:Nat} {f:Nat→Value},VG 2 w base a n f→x∈ib a n→∃ cs t,w.heap[x]?=some (.cells cs t (0,0))∧t≠43:=fun hv hx=>by
  obtain ⟨cs,e⟩:=hv.type x hx
  exact ⟨cs,_,e,by decide⟩
 rcases hx with hx | hx | hx | hx | hx | ⟨i,hi,hx⟩
 ·
  obtain ⟨cs,e⟩:=h.e.type x hx
  exact fw
 ·
  obtain ⟨cs,e⟩:=h.u.type x hx
  exact fw
 ·
  obtain ⟨cs,e⟩:=h.p.type x hx
  exact fw
 ·
  obtain ⟨cs,e⟩:=h.k.type x hx
  exact fw
 ·
  obtain ⟨cs,e⟩:=h.l.type x hx
  exact fw
 have hl:=h.ls i hi
 unfold Lng.kH at hx
 simp only [List.mem_append,ig] at hx
 rcases hx with hx | ⟨j,hj,hx⟩ | hx | hx | ⟨j,hj,hx⟩
 ·
  exact two hl.t hx
 ·
  exact two (hl.z j hj) hx
 ·
  exact two hl.q hx
 ·
  exact two hl.d hx
 exact two (hl.y j hj) hx
theorem arL0 {p:Prop} (h:p:=by
  replace hP:Put V Y g8 S0.cells 43:=hP.cast rfl
  have hb9:Below w2.heap.size w2 Y:=HB0.out.trans (hP.to.below HB0.out.size (fun y hy=>by simp at hy;rw [hy];exact HG.out.2))
  have HB9:Hid (Fst w Y S x):=HB.out.mE hb9
  have HNg:Hid (g8∉S0.all):=fun hy=>by obtain ⟨cs,t,e,hne⟩:=H0.out.2.g.Dq g8 hy;exact gj e HG.out.1 hne rfl
  have HN:Hid (CY w w2 Y S' g8 bG S0):=⟨hP.blk,H0.out.1,(H0.out.2.off HG.out.1 hP.to).g,HNg.out,⟨HG.out.2,HVz.out⟩,hb9⟩
  have hS9:=And.intro HB9.out.a HB9.out.f
  refine hK.out _ _ hS9 (fun hHeld=>?_)
  clear hK K
  try simp only [Act.put,PZ]
  refine tQ 11 9 ?_
  refine dnq ?_
  clear hP hS9 hHeld HB9 hb9 HG HB0 HNg H0 HVz
  go_wp2_with fail
  go_meet
  case rel=>exact ⟨g8,S0,bG,rfl,rfl,HN⟩):p:=h
theorem arL1 {p:Prop} (h:p:=by
  replace hP:Put V Y g8 S0.cells 43:=hP.cast rfl
  have hb9:Below w6.heap.size w6 Y:=HB0.out.trans (hP.to.below HB0.out.size (fun y hy=>by simp at hy;rw [hy];exact HG.out.2))
  have HB9:Hid (Fst w Y S x):=HB.out.mE hb9
  have HNg:Hid (g8∉S0.all):=fun hy=>by obtain ⟨cs,t,e,hne⟩:=H0.out.2.g.Dq g8 hy;exact gj e HG.out.1 hne rfl
  have HN:Hid (DC w w6 Y S' g8 bG gX X S0):=⟨⟨hP.blk,H0.out.1,(H0.out.2.off HG.out.1 hP.to).g,HNg.out,⟨HG.out.2,HVz.out⟩,hb9⟩,(hb9.block _ (fG KX.out)).trans KX.out⟩
  have hS9:=And.intro HB9.out.a (And.intro HB9.out.f HN.out.kx)
  refine hK.out _ _ hS9 (fun hHeld=>?_)
  clear hK K
  try simp only [Act.put,PZ]
  refine tQ 10 12 ?_
  refine dnq ?_
  clear hP hS9 hHeld HB9 hb9 HG HB0 HNg H0 HVz
  go_wp2_with fail
  go_meet
  case rel=>exact ⟨g8,S0,bG,rfl,rfl,HN⟩):p:=h
theorem arL2 {p:Prop} (h:p:=by
  replace hP:Put V Y g8 S0.cells 43:=hP.cast rfl
  have hb9:Below wg.heap.size wg Y:=HB0.out.trans (hP.to.below HB0.out.size (fun y hy=>by simp at hy;rw [hy];exact HG.out.2))
  have HB9:Hid (Fst w Y S x):=HB.out.mE hb9
  have HNg:Hid (g8∉S0.all):=fun hy=>by obtain ⟨cs,t,e,hne⟩:=H0.out.2.g.Dq g8 hy;exact gj e HG.out.1 hne rfl
  have HN:Hid (CY w wg Y S' g8 bG S0):=⟨hP.blk,H0.out.1,(H0.out.2.off HG.out.1 hP.to).g,HNg.out,⟨HG.out.2,HVz.out⟩,hb9⟩
  have hS9:=And.intro HB9.out.a HB9.out.f
  refine hK.out _ _ hS9 (fun hHeld=>?_)
  clear hK K
  try simp only [Act.put,PZ]
  refine tQ 11 17 ?_
  refine dnq ?_
  clear hP hS9 hHeld HB9 hb9 HG HB0 HNg H0 HVz
  go_wp2_with fail
  go_meet
  case rel=>exact ⟨g8,S0,bG,rfl,rfl,HN⟩):p:=h
theorem Ci (S:Swg) (port:Int) (x:Pkt) (aF aD aL:Addr) (w:World) (hf:S.Fit) (hxf:x.b.size≤maxLen) (h:jL w S) (hv:om w w.heap.size aF aD aL) :
  Calls Tryz.prog 3 #[.agg S.cells,.int .i64 port,.agg x.frc] w fun e w'=>e=.returned (.bool true)∧Below w.heap.size w w':=by
 obtain ⟨S',code,hm⟩:=Cj S port x
 have HM:Hid (pQ S S' port x code):=hm
 have HR:Hid (jL w S):=h
 have HF:Hid S.Fit:=hf
 have HV:Hid (om w w.heap.size aF aD aL):=hv
 have hcc:(code != code)=false:=by simp
 obtain ⟨W,eW⟩:∃ W,(w.alloc (.cells S.cells 32)).alloc (.cells x.frc 34)=W:=⟨_,rfl⟩
 have HB:Hid (Fst w W S x):=by rw [←eW];exact Fst.start _ _ _
 have HL:Hid (∀ j,j<17→W.cell? ⟨w.heap.size,0+j,none⟩=S.cells[j]?):=kI HB.out.a
 clear h hf hm hv
 go_enter Tryz.func3,Tryz.ntmps3
 go_wp2_with (refine fM rfl 32 17 _ Tryz.underlying32 rfl pj (.tmp 3) rfl w.heap.size 0 rfl S.cells rfl HL.out ?_)
 clear eW HL
 refine (sC S _ HF.out (HR.out.up HB.out.bel)).mono ?_
 rintro e w1 ⟨⟨r,rfl,hr⟩,hb⟩
 replace HB:Hid (Fst w w1 S x):=HB.out.mE hb
 clear hb
 rcases hr with rfl | ⟨r0,hs,htt,hr1⟩
 ·
  have B:=HB.out.bel
  exact fy
 have HS:Hid S.Small:=hs
 have HTo:Hid (S.tot≤1048576):=htt
 have hr0:¬ r<0:=by omega
 clear hs htt
 have HLf:Hid (∀ j,j<5→w1.cell? ⟨w.heap.size+1,0+j,none⟩=(#[.int .i64 x.k,.int .i64 x.d,.int .i64 x.s,.int .i64 x.p,.string x.b]:Array Value)[j]?):=C4 HB.out.f
 go_wp2_with (refine fM rfl 34 5 _ Tryz.underlying34 rfl ra (.tmp 5) rfl (w.heap.size+1) 0 rfl #[.int .i64 x.k,.int .i64 x.d,.int .i64 x.s,.int .i64 x.p,.string x.b] rfl HLf.out ?_)
 clear HLf
 refine (sG x r _ r0 hr1 hxf).mono ?_
 rintro e w2 ⟨⟨r2,rfl,hr2⟩,hb⟩
 replace HB:Hid (Fst w w2 S x):=HB.out.mE hb
 clear hb hr0 hr1 r0
 rcases hr2 with rfl | ⟨r0,hxs⟩
 ·
  have B:=HB.out.bel
  exact fy
 have HXb:Hid (x.b.size≤1048576):=hxs
 have hr0:¬ r2<0:=by omega
 have HLe:Hid (S'.Small∧S'.tot≤S.tot+100):=HM.out.le HS.out hxs
 clear hxs
 go_wp2_with fail
 clear hr0 r0
 go_cut [8,9] (fun sa sc wc=>∃ g8 S0 bG,sa=.pointer (some ⟨g8,0,none⟩)∧sc=.int .i64 code∧Hid (CY w w2 wc S' g8 bG S0))
 case first =>
  have hd:Below w2.heap.size w2 w2.drew:=(Below.refl _ _).drew
  refine wp_region_held_drew (S:=fun w'=>w'.heap[w.heap.size]?=some (.cells S.cells 32 (0,0))∧w'.heap[w.heap.size+1]?=some (.cells x.frc 34 (0,0))) (by kernel_rfl) ⟨hd.block _ (fG HB.out.a) |>.trans HB.out.a,hd.block _ (fG HB.out.f) |>.trans HB.out.f⟩ (fun hHeld=>?_)
  have HB0:Hid (Below w2.heap.size w2 w2.drew):=hd
  clear hd
  generalize w2.drew=V at *
  refine tC 0 29 (v:=.agg S.cells) (fun wx hSw=>gO 32 17 _ Tryz.underlying32 rfl pj (.tmp 3) rfl w.heap.size 0 rfl S.cells rfl (kI hSw.1)) ?_
  try simp only [Act.put,PZ]
  refine tQ 2 31 ?_
  refine tC 3 32 (v:=.agg x.frc) (fun wx hSw=>gO 34 5 _ Tryz.underlying34 rfl ra (.tmp 5) rfl (w.heap.size+1) 0 rfl x.frc rfl (C4 hSw.2)) ?_
  try simp only [Act.put,PZ]
  refine rq2 1 9 (fun K hK=>?_) (fun K hK=>?_)
  ·
   go_simp
   refine (jh S _ HS.out (HR.out.up (HB.out.bel.trans (HB0.out.mono HB.out.bel.size)))).mono ?_
   rintro e V ⟨S2,rfl,ha,ho,hb⟩
   replace HB0:Hid (Below w2.heap.size w2 V):=HB0.out.trans (hb.mono HB0.out.size)
   have H2:Hid (fP S S2∧jL V S2):=⟨ha,ho.rd⟩
   clear ha ho hb
   have hSn:=And.intro ((HB0.out.block _ (fG HB.out.a)).trans HB.out.a) ((HB0.out.block _ (fG HB.out.f)).trans HB.out.f)
   go_wp2_with fail
   refine hK.out _ _ hSn (fun hHeld=>?_)
   clear hK K
   try simp only [Act.put,PZ]
   clear hSn
   refine rq2 4 9 (fun K hK=>?_) (fun K hK=>?_)
   ·
    go_simp
    unfold Pkt.frc
    refine (jf x.k x.d x.s x.p x.b _).mono ?_
    rintro e V ⟨rfl,hb⟩
    replace HB0:Hid (Below w2.heap.size w2 V):=HB0.out.trans (hb.mono HB0.out.size)
    replace H2:Hid (fP S S2∧jL V S2):=⟨H2.out.1,H2.out.2.up hb⟩
    clear hb
    have hSn:=And.intro ((HB0.out.block _ (fG HB.out.a)).trans HB.out.a) ((HB0.out.block _ (fG HB.out.f)).trans HB.out.f)
    go_wp2_with fail
    refine hK.out _ _ hSn (fun hHeld=>?_)
    clear hK K
    try simp only [Act.put,PZ]
    clear hSn
    refine rq2 5 9 (fun K hK=>?_) (fun K hK=>?_)
    ·
     go_simp
     have eF:(#[.int .i64 x.k,.int .i64 x.d,.int .i64 x.s,.int .i64 x.p,.string x.b]:Array Value)=x.frc:=rfl
     rw [eF]
     clear eF
     obtain ⟨P2,hm2,ha2⟩:=HM.out.AE H2.out.1
     refine (nJ S2 P2 port x code _ (H2.out.1.small HS.out) H2.out.2 HXb.out hm2).mono ?_
     have HVz:Hid (w2.heap.size≤V.heap.size):=HB0.out.size
     obtain ⟨bG,ebG⟩:∃ b,V.heap.size=b:=⟨_,rfl⟩
     rw [ebG] at HVz
     rw [ebG]
     rintro e V ⟨S0,rfl,ha,ho,hb⟩
     rw [←ebG] at hb
     replace HB0:Hid (Below w2.heap.size w2 V):=HB0.out.trans (hb.mono HB0.out.size)
     have H0:Hid (fP S' S0∧gy V bG S0):=⟨ha2.trans ha,ho⟩
     clear ha ho hb hm2 ha2 ebG
     have hSn:=And.intro ((HB0.out.block _ (fG HB.out.a)).trans HB.out.a) ((HB0.out.block _ (fG HB.out.f)).trans HB.out.f)
     go_wp2_with fail
     refine hK.out _ _ hSn (fun hHeld=>?_)
     clear hK K
     try simp only [Act.put,PZ]
     clear hSn
     refine tQ 6 28 ?_
     refine tQ 7 35 ?_
     refine tQ 8 36 ?_
     refine rq1 9 (fun K hK=>?_)
     go_simp
     have hb:=(Below.refl V.heap.size V).alloc (Nat.le_refl _) (.cells #[.int .i64 0,.int .i64 0,.int .i64 0,.int .i64 0,.int .i64 0,.int .i64 0,.int .i64 0,.int .i64 0,.int .i64 0,.slice none 0 0,.slice none 0 0,.int .i64 0,.slice none 0 0,.slice none 0 0,.slice none 0 0,.int .i64 0,.int .i64 0] 43)
     obtain ⟨XA,eXA⟩:∃ XA,V.alloc (.cells #[.int .i64 0,.int .i64 0,.int .i64 0,.int .i64 0,.int .i64 0,.int .i64 0,.int .i64 0,.int .i64 0,.int .i64 0,.slice none 0 0,.slice none 0 0,.int .i64 0,.slice none 0 0,.slice none 0 0,.slice none 0 0,.int .i64 0,.int .i64 0] 43)=XA:=⟨_,rfl⟩
     obtain ⟨g8,eg8⟩:∃ g8,V.heap.size=g8:=⟨_,rfl⟩
     have HG:Hid (XA.heap[g8]?=some (.cells #[.int .i64 0,.int .i64 0,.int .i64 0,.int .i64 0,.int .i64 0,.int .i64 0,.int .i64 0,.int .i64 0,.int .i64 0,.slice none 0 0,.slice none 0 0,.int .i64 0,.slice none 0 0,.slice none 0 0,.slice none 0 0,.int .i64 0,.int .i64 0] 43 (0,0))∧w2.heap.size≤g8):=by rw [←eXA,←eg8];exact ⟨fK _ _,HB0.out.size⟩
     rw [eXA] at hb ⊢
     replace HB0:Hid (Below w2.heap.size w2 XA):=HB0.out.trans (hb.mono HB0.out.size)
     replace H0:Hid (fP S' S0∧gy XA bG S0):=⟨H0.out.1,H0.out.2.up hb⟩
     clear hb eXA
     rw [eg8]
     clear eg8
     have hSn:=And.intro ((HB0.out.block _ (fG HB.out.a)).trans HB.out.a) ((HB0.out.block _ (fG HB.out.f)).trans HB.out.f)
     refine hK.out _ _ hSn (fun hHeld=>?_)
     clear hK K
     try simp only [Act.put,PZ]
     clear hSn
     obtain ⟨V,eV⟩:∃ V,XA=V:=⟨_,rfl⟩
     rw [eV] at HB0 HG ⊢
     rw [eV] at H0
     clear eV
     exact fD
    go_simp
    have hb:=(Below.refl V.heap.size V).alloc (Nat.le_refl _) (.cells #[.int .i64 0,.int .i64 0,.int .i64 0,.int .i64 0,.int .i64 0,.int .i64 0,.int .i64 0,.int .i64 0,.int .i64 0,.slice none 0 0,.slice none 0 0,.int .i64 0,.slice none 0 0,.slice none 0 0,.slice none 0 0,.int .i64 0,.int .i64 0] 43)
    obtain ⟨XA,eXA⟩:∃ XA,V.alloc (.cells #[.int .i64 0,.int .i64 0,.int .i64 0,.int .i64 0,.int .i64 0,.int .i64 0,.int .i64 0,.int .i64 0,.int .i64 0,.slice none 0 0,.slice none 0 0,.int .i64 0,.slice none 0 0,.slice none 0 0,.slice none 0 0,.int .i64 0,.int .i64 0] 43)=XA:=⟨_,rfl⟩
    obtain ⟨g8,eg8⟩:∃ g8,V.heap.size=g8:=⟨_,rfl⟩
    have HG:Hid (XA.heap[g8]?=some (.cells #[.int .i64 0,.int .i64 0,.int .i64 0,.int .i64 0,.int .i64 0,.int .i64 0,.int .i64 0,.int .i64 0,.int .i64 0,.slice none 0 0,.slice none 0 0,.int .i64 0,.slice none 0 0,.slice none 0 0,.slice none 0 0,.int .i64 0,.int .i64 0] 43 (0,0))∧w2.heap.size≤g8):=by rw [←eXA,←eg8];exact ⟨fK _ _,HB0.out.size⟩
    rw [eXA] at hb ⊢
    replace HB0:Hid (Below w2.heap.size w2 XA):=HB0.out.trans (hb.mono HB0.out.size)
    replace H2:Hid (fP S S2∧jL XA S2):=⟨H2.out.1,H2.out.2.up hb⟩
    clear hb eXA
    rw [eg8]
    clear eg8
    have hSn:=And.intro ((HB0.out.block _ (fG HB.out.a)).trans HB.out.a) ((HB0.out.block _ (fG HB.out.f)).trans HB.out.f)
    refine hK.out _ _ hSn (fun hHeld=>?_)
    clear hK K
    try simp only [Act.put,PZ]
    clear hSn
    obtain ⟨V,eV⟩:∃ V,XA=V:=⟨_,rfl⟩
    rw [eV] at HB0 HG ⊢
    rw [eV] at H2
    clear eV
    exact fi
   go_simp
   have hb:=(Below.refl V.heap.size V).alloc (Nat.le_refl _) (.cells #[.int .i64 0,.int .i64 0,.int .i64 0,.int .i64 0,.int .i64 0,.int .i64 0,.int .i64 0,.int .i64 0,.int .i64 0,.slice none 0 0,.slice none 0 0,.int .i64 0,.slice none 0 0,.slice none 0 0,.slice none 0 0,.int .i64 0,.int .i64 0] 43)
   obtain ⟨XA,eXA⟩:∃ XA,V.alloc (.cells #[.int .i64 0,.int .i64 0,.int .i64 0,.int .i64 0,.int .i64 0,.int .i64 0,.int .i64 0,.int .i64 0,.int .i64 0,.slice none 0 0,.slice none 0 0,.int .i64 0,.slice none 0 0,.slice none 0 0,.slice none 0 0,.int .i64 0,.int .i64 0] 43)=XA:=⟨_,rfl⟩
   obtain ⟨g8,eg8⟩:∃ g8,V.heap.size=g8:=⟨_,rfl⟩
   have HG:Hid (XA.heap[g8]?=some (.cells #[.int .i64 0,.int .i64 0,.int .i64 0,.int .i64 0,.int .i64 0,.int .i64 0,.int .i64 0,.int .i64 0,.int .i64 0,.slice none 0 0,.slice none 0 0,.int .i64 0,.slice none 0 0,.slice none 0 0,.slice none 0 0,.int .i64 0,.int .i64 0] 43 (0,0))∧w2.heap.size≤g8):=by rw [←eXA,←eg8];exact ⟨fK _ _,HB0.out.size⟩
   rw [eXA] at hb ⊢
   replace HB0:Hid (Below w2.heap.size w2 XA):=HB0.out.trans (hb.mono HB0.out.size)
   replace H2:Hid (fP S S2∧jL XA S2):=⟨H2.out.1,H2.out.2.up hb⟩
   clear hb eXA
   rw [eg8]
   clear eg8
   have hSn:=And.intro ((HB0.out.block _ (fG HB.out.a)).trans HB.out.a) ((HB0.out.block _ (fG HB.out.f)).trans HB.out.f)
   refine hK.out _ _ hSn (fun hHeld=>?_)
   clear hK K
   try simp only [Act.put,PZ]
   clear hSn
   obtain ⟨V,eV⟩:∃ V,XA=V:=⟨_,rfl⟩
   rw [eV] at HB0 HG ⊢
   rw [eV] at H2
   clear eV
   exact fm
  go_simp
  have hb:=(Below.refl V.heap.size V).alloc (Nat.le_refl _) (.cells #[.int .i64 0,.int .i64 0,.int .i64 0,.int .i64 0,.int .i64 0,.int .i64 0,.int .i64 0,.int .i64 0,.int .i64 0,.slice none 0 0,.slice none 0 0,.int .i64 0,.slice none 0 0,.slice none 0 0,.slice none 0 0,.int .i64 0,.int .i64 0] 43)
  obtain ⟨XA,eXA⟩:∃ XA,V.alloc (.cells #[.int .i64 0,.int .i64 0,.int .i64 0,.int .i64 0,.int .i64 0,.int .i64 0,.int .i64 0,.int .i64 0,.int .i64 0,.slice none 0 0,.slice none 0 0,.int .i64 0,.slice none 0 0,.slice none 0 0,.slice none 0 0,.int .i64 0,.int .i64 0] 43)=XA:=⟨_,rfl⟩
  obtain ⟨g8,eg8⟩:∃ g8,V.heap.size=g8:=⟨_,rfl⟩
  have HG:Hid (XA.heap[g8]?=some (.cells #[.int .i64 0,.int .i64 0,.int .i64 0,.int .i64 0,.int .i64 0,.int .i64 0,.int .i64 0,.int .i64 0,.int .i64 0,.slice none 0 0,.slice none 0 0,.int .i64 0,.slice none 0 0,.slice none 0 0,.slice none 0 0,.int .i64 0,.int .i64 0] 43 (0,0))∧w2.heap.size≤g8):=by rw [←eXA,←eg8];exact ⟨fK _ _,HB0.out.size⟩
  rw [eXA] at hb ⊢
  replace HB0:Hid (Below w2.heap.size w2 XA):=HB0.out.trans (hb.mono HB0.out.size)
  clear hb eXA
  rw [eg8]
  clear eg8
  have hSn:=And.intro ((HB0.out.block _ (fG HB.out.a)).trans HB.out.a) ((HB0.out.block _ (fG HB.out.f)).trans HB.out.f)
  refine hK.out _ _ hSn (fun hHeld=>?_)
  clear hK K
  try simp only [Act.put,PZ]
  clear hSn
  obtain ⟨V,eV⟩:∃ V,XA=V:=⟨_,rfl⟩
  rw [eV] at HB0 HG ⊢
  clear eV
  refine rq1 1 (fun K hK=>?_)
  go_simp
  refine (jh S _ HS.out (HR.out.up (HB.out.bel.trans (HB0.out.mono HB.out.bel.size)))).mono ?_
  rintro e V ⟨S2,rfl,ha,ho,hb⟩
  replace HB0:Hid (Below w2.heap.size w2 V):=HB0.out.trans (hb.mono HB0.out.size)
  replace HG:Hid (V.heap[g8]?=some (.cells #[.int .i64 0,.int .i64 0,.int .i64 0,.int .i64 0,.int .i64 0,.int .i64 0,.int .i64 0,.int .i64 0,.int .i64 0,.slice none 0 0,.slice none 0 0,.int .i64 0,.slice none 0 0,.slice none 0 0,.slice none 0 0,.int .i64 0,.int .i64 0] 43 (0,0))∧w2.heap.size≤g8):=⟨(hb.block _ (fG HG.out.1)).trans HG.out.1,HG.out.2⟩
  have H2:Hid (fP S S2∧jL V S2):=⟨ha,ho.rd⟩
  clear ha ho hb
  have hSn:=And.intro ((HB0.out.block _ (fG HB.out.a)).trans HB.out.a) ((HB0.out.block _ (fG HB.out.f)).trans HB.out.f)
  go_wp2_with fail
  refine hK.out _ _ hSn (fun hHeld=>?_)
  clear hK K
  try simp only [Act.put,PZ]
  clear hSn
  exact fm
 obtain ⟨gW,S0,bW,rfl,rfl,HA0⟩:=hcut
 have H0:Hid (fP S' S0):=HA0.out.al
 replace HB:Hid (Fst w wc S x):=HB.out.mE HA0.out.bel
 have KW:Hid (wc.heap[gW]?=some (.cells S0.cells 43 (0,0))):=HA0.out.k
 have HR0:Hid (jL wc S0):=HA0.out.own.rd
 clear HA0
 obtain ⟨wq,ewq⟩:∃ wq,wc=wq:=⟨_,rfl⟩
 rw [ewq] at HB KW HR0 ⊢
 clear ewq
 have HL:Hid (∀ j,j<17→wq.cell? ⟨w.heap.size,0+j,none⟩=S.cells[j]?):=kI HB.out.a
 go_wp2_with (refine fM rfl 32 17 _ Tryz.underlying32 rfl pj (.tmp 3) rfl w.heap.size 0 rfl S.cells rfl HL.out ?_)
 clear HL
 refine (jh S _ HS.out (HR.out.up HB.out.bel)).mono ?_
 rintro e w5 ⟨X,rfl,ha,ho,hb⟩
 have HX:Hid (fP S X):=ha
 have HOX:Hid (iD w5 wq.heap.size X):=ho
 have HXA:Hid (∀ y∈X.all,wq.heap.size≤y∧y<w5.heap.size):=ho.all
 have hb5:=hb
 clear ha ho hb
 have HG:Hid ((w5.alloc (.cells #[.int .i64 0,.int .i64 0,.int .i64 0,.int .i64 0,.int .i64 0,.int .i64 0,.int .i64 0,.int .i64 0,.int .i64 0,.slice none 0 0,.slice none 0 0,.int .i64 0,.slice none 0 0,.slice none 0 0,.slice none 0 0,.int .i64 0,.int .i64 0] 43)).heap[w5.heap.size]?=some (.cells #[.int .i64 0,.int .i64 0,.int .i64 0,.int .i64 0,.int .i64 0,.int .i64 0,.int .i64 0,.int .i64 0,.int .i64 0,.slice none 0 0,.slice none 0 0,.int .i64 0,.slice none 0 0,.slice none 0 0,.slice none 0 0,.int .i64 0,.int .i64 0] 43 (0,0))):=fK _ _
 go_wp2_with (refine fJ rfl 43 (.tmp 10) (.tmp 38) rfl w5.heap.size 0 rfl (.agg X.cells) rfl 17 rfl 43 _ HG.out fV (Nat.le_of_ble_eq_true rfl) (Swg.mi _) ?_)
 intro w6 hP
 replace hP:Put _ w6 w5.heap.size X.cells 43:=hP.cast rfl
 have hb:Below w5.heap.size w5 w6:=((Below.refl _ _).alloc (Nat.le_refl _) _).trans (hP.to.below (by simp) (fun y hy=>by simp at hy;omega))
 have KX:Hid (w6.heap[w5.heap.size]?=some (.cells X.cells 43 (0,0))):=hP.blk
 have HQ:Hid (Below wq.heap.size wq w6):=hb5.trans (hb.mono hb5.size)
 have HBq:Hid (Fst w wq S x):=HB
 replace HB:Hid (Fst w w6 S x):=HB.out.mE HQ.out
 replace HOX:Hid (iD w6 wq.heap.size X):=HOX.out.up hb
 clear hP HG hb hb5
 obtain ⟨gX,egX⟩:∃ g,w5.heap.size=g:=⟨_,rfl⟩
 rw [egX] at KX HXA ⊢
 clear egX
 have Hz6:Hid (gX<w6.heap.size):=fG KX.out
 go_wp2_with fail
 go_cut [11,12] (fun sa sc wc=>∃ g8 S0 bG,sa=.pointer (some ⟨g8,0,none⟩)∧sc=.int .i64 code∧Hid (DC w w6 wc S' g8 bG gX X S0))
 case first =>
  have hd:Below w6.heap.size w6 w6.drew:=(Below.refl _ _).drew
  refine wp_region_held_drew (S:=fun w'=>w'.heap[w.heap.size]?=some (.cells S.cells 32 (0,0))∧w'.heap[w.heap.size+1]?=some (.cells x.frc 34 (0,0))∧w'.heap[gX]?=some (.cells X.cells 43 (0,0))) (by kernel_rfl) ⟨hd.block _ (fG HB.out.a) |>.trans HB.out.a,hd.block _ (fG HB.out.f) |>.trans HB.out.f,hd.block _ (fG KX.out) |>.trans KX.out⟩ (fun hHeld=>?_)
  have HB0:Hid (Below w6.heap.size w6 w6.drew):=hd
  clear hd
  generalize w6.drew=V at *
  refine tC 0 40 (v:=.agg X.cells) (fun wx hSw=>gO 43 17 _ Tryz.underlying43 rfl fV (.tmp 10) rfl gX 0 rfl X.cells rfl (kI hSw.2.2)) ?_
  try simp only [Act.put,PZ]
  refine tQ 1 41 ?_
  refine tC 2 42 (v:=.agg x.frc) (fun wx hSw=>gO 34 5 _ Tryz.underlying34 rfl ra (.tmp 5) rfl (w.heap.size+1) 0 rfl x.frc rfl (C4 hSw.2.1)) ?_
  try simp only [Act.put,PZ]
  refine rq2 3 8 (fun K hK=>?_) (fun K hK=>?_)
  ·
   go_simp
   unfold Pkt.frc
   refine (jf x.k x.d x.s x.p x.b _).mono ?_
   rintro e V ⟨rfl,hb⟩
   replace HB0:Hid (Below w6.heap.size w6 V):=HB0.out.trans (hb.mono HB0.out.size)
   clear hb
   have hSn:=And.intro ((HB0.out.block _ (fG HB.out.a)).trans HB.out.a) (And.intro ((HB0.out.block _ (fG HB.out.f)).trans HB.out.f) ((HB0.out.block _ (fG KX.out)).trans KX.out))
   go_wp2_with fail
   refine hK.out _ _ hSn (fun hHeld=>?_)
   clear hK K
   try simp only [Act.put,PZ]
   clear hSn
   refine rq2 4 8 (fun K hK=>?_) (fun K hK=>?_)
   ·
    go_simp
    have eF:(#[.int .i64 x.k,.int .i64 x.d,.int .i64 x.s,.int .i64 x.p,.string x.b]:Array Value)=x.frc:=rfl
    rw [eF]
    clear eF
    obtain ⟨P2,hm2,ha2⟩:=HM.out.AE HX.out
    refine (ko X P2 port x code aF aD aL _ (HX.out.small HS.out) (HOX.out.rd.up HB0.out) HXb.out (qt HV.out (HB.out.bel.trans (HB0.out.mono HB.out.bel.size))) hm2).mono ?_
    have HVz:Hid (w6.heap.size≤V.heap.size):=HB0.out.size
    obtain ⟨bG,ebG⟩:∃ b,V.heap.size=b:=⟨_,rfl⟩
    rw [ebG] at HVz
    rw [ebG]
    rintro e V ⟨S0,rfl,ha,ho,hb⟩
    rw [←ebG] at hb
    replace HB0:Hid (Below w6.heap.size w6 V):=HB0.out.trans (hb.mono HB0.out.size)
    have H0:Hid (fP S' S0∧gy V bG S0):=⟨ha2.trans ha,ho⟩
    clear ha ho hb hm2 ha2 ebG
    have hSn:=And.intro ((HB0.out.block _ (fG HB.out.a)).trans HB.out.a) (And.intro ((HB0.out.block _ (fG HB.out.f)).trans HB.out.f) ((HB0.out.block _ (fG KX.out)).trans KX.out))
    go_wp2_with fail
    refine hK.out _ _ hSn (fun hHeld=>?_)
    clear hK K
    try simp only [Act.put,PZ]
    clear hSn
    refine tQ 5 39 ?_
    refine tQ 6 45 ?_
    refine tQ 7 46 ?_
    refine rq1 8 (fun K hK=>?_)
    go_simp
    have hb:=(Below.refl V.heap.size V).alloc (Nat.le_refl _) (.cells #[.int .i64 0,.int .i64 0,.int .i64 0,.int .i64 0,.int .i64 0,.int .i64 0,.int .i64 0,.int .i64 0,.int .i64 0,.slice none 0 0,.slice none 0 0,.int .i64 0,.slice none 0 0,.slice none 0 0,.slice none 0 0,.int .i64 0,.int .i64 0] 43)
    obtain ⟨XA,eXA⟩:∃ XA,V.alloc (.cells #[.int .i64 0,.int .i64 0,.int .i64 0,.int .i64 0,.int .i64 0,.int .i64 0,.int .i64 0,.int .i64 0,.int .i64 0,.slice none 0 0,.slice none 0 0,.int .i64 0,.slice none 0 0,.slice none 0 0,.slice none 0 0,.int .i64 0,.int .i64 0] 43)=XA:=⟨_,rfl⟩
    obtain ⟨g8,eg8⟩:∃ g8,V.heap.size=g8:=⟨_,rfl⟩
    have HG:Hid (XA.heap[g8]?=some (.cells #[.int .i64 0,.int .i64 0,.int .i64 0,.int .i64 0,.int .i64 0,.int .i64 0,.int .i64 0,.int .i64 0,.int .i64 0,.slice none 0 0,.slice none 0 0,.int .i64 0,.slice none 0 0,.slice none 0 0,.slice none 0 0,.int .i64 0,.int .i64 0] 43 (0,0))∧w6.heap.size≤g8):=by rw [←eXA,←eg8];exact ⟨fK _ _,HB0.out.size⟩
    rw [eXA] at hb ⊢
    replace HB0:Hid (Below w6.heap.size w6 XA):=HB0.out.trans (hb.mono HB0.out.size)
    replace H0:Hid (fP S' S0∧gy XA bG S0):=⟨H0.out.1,H0.out.2.up hb⟩
    clear hb eXA
    rw [eg8]
    clear eg8
    have hSn:=And.intro ((HB0.out.block _ (fG HB.out.a)).trans HB.out.a) (And.intro ((HB0.out.block _ (fG HB.out.f)).trans HB.out.f) ((HB0.out.block _ (fG KX.out)).trans KX.out))
    refine hK.out _ _ hSn (fun hHeld=>?_)
    clear hK K
    try simp only [Act.put,PZ]
    clear hSn
    obtain ⟨V,eV⟩:∃ V,XA=V:=⟨_,rfl⟩
    rw [eV] at HB0 HG ⊢
    rw [eV] at H0
    clear eV
    exact fE
   go_simp
   have hb:=(Below.refl V.heap.size V).alloc (Nat.le_refl _) (.cells #[.int .i64 0,.int .i64 0,.int .i64 0,.int .i64 0,.int .i64 0,.int .i64 0,.int .i64 0,.int .i64 0,.int .i64 0,.slice none 0 0,.slice none 0 0,.int .i64 0,.slice none 0 0,.slice none 0 0,.slice none 0 0,.int .i64 0,.int .i64 0] 43)
   obtain ⟨XA,eXA⟩:∃ XA,V.alloc (.cells #[.int .i64 0,.int .i64 0,.int .i64 0,.int .i64 0,.int .i64 0,.int .i64 0,.int .i64 0,.int .i64 0,.int .i64 0,.slice none 0 0,.slice none 0 0,.int .i64 0,.slice none 0 0,.slice none 0 0,.slice none 0 0,.int .i64 0,.int .i64 0] 43)=XA:=⟨_,rfl⟩
   obtain ⟨g8,eg8⟩:∃ g8,V.heap.size=g8:=⟨_,rfl⟩
   have HG:Hid (XA.heap[g8]?=some (.cells #[.int .i64 0,.int .i64 0,.int .i64 0,.int .i64 0,.int .i64 0,.int .i64 0,.int .i64 0,.int .i64 0,.int .i64 0,.slice none 0 0,.slice none 0 0,.int .i64 0,.slice none 0 0,.slice none 0 0,.slice none 0 0,.int .i64 0,.int .i64 0] 43 (0,0))∧w6.heap.size≤g8):=by rw [←eXA,←eg8];exact ⟨fK _ _,HB0.out.size⟩
   rw [eXA] at hb ⊢
   replace HB0:Hid (Below w6.heap.size w6 XA):=HB0.out.trans (hb.mono HB0.out.size)
   clear hb eXA
   rw [eg8]
   clear eg8
   have hSn:=And.intro ((HB0.out.block _ (fG HB.out.a)).trans HB.out.a) (And.intro ((HB0.out.block _ (fG HB.out.f)).trans HB.out.f) ((HB0.out.block _ (fG KX.out)).trans KX.out))
   refine hK.out _ _ hSn (fun hHeld=>?_)
   clear hK K
   try simp only [Act.put,PZ]
   clear hSn
   obtain ⟨V,eV⟩:∃ V,XA=V:=⟨_,rfl⟩
   rw [eV] at HB0 HG ⊢
   clear eV
   exact fj
  go_simp
  have hb:=(Below.refl V.heap.size V).alloc (Nat.le_refl _) (.cells #[.int .i64 0,.int .i64 0,.int .i64 0,.int .i64 0,.int .i64 0,.int .i64 0,.int .i64 0,.int .i64 0,.int .i64 0,.slice none 0 0,.slice none 0 0,.int .i64 0,.slice none 0 0,.slice none 0 0,.slice none 0 0,.int .i64 0,.int .i64 0] 43)
  obtain ⟨XA,eXA⟩:∃ XA,V.alloc (.cells #[.int .i64 0,.int .i64 0,.int .i64 0,.int .i64 0,.int .i64 0,.int .i64 0,.int .i64 0,.int .i64 0,.int .i64 0,.slice none 0 0,.slice none 0 0,.int .i64 0,.slice none 0 0,.slice none 0 0,.slice none 0 0,.int .i64 0,.int .i64 0] 43)=XA:=⟨_,rfl⟩
  obtain ⟨g8,eg8⟩:∃ g8,V.heap.size=g8:=⟨_,rfl⟩
  have HG:Hid (XA.heap[g8]?=some (.cells #[.int .i64 0,.int .i64 0,.int .i64 0,.int .i64 0,.int .i64 0,.int .i64 0,.int .i64 0,.int .i64 0,.int .i64 0,.slice none 0 0,.slice none 0 0,.int .i64 0,.slice none 0 0,.slice none 0 0,.slice none 0 0,.int .i64 0,.int .i64 0] 43 (0,0))∧w6.heap.size≤g8):=by rw [←eXA,←eg8];exact ⟨fK _ _,HB0.out.size⟩
  rw [eXA] at hb ⊢
  replace HB0:Hid (Below w6.heap.size w6 XA):=HB0.out.trans (hb.mono HB0.out.size)
  clear hb eXA
  rw [eg8]
  clear eg8
  have hSn:=And.intro ((HB0.out.block _ (fG HB.out.a)).trans HB.out.a) (And.intro ((HB0.out.block _ (fG HB.out.f)).trans HB.out.f) ((HB0.out.block _ (fG KX.out)).trans KX.out))
  refine hK.out _ _ hSn (fun hHeld=>?_)
  clear hK K
  try simp only [Act.put,PZ]
  clear hSn
  obtain ⟨V,eV⟩:∃ V,XA=V:=⟨_,rfl⟩
  rw [eV] at HB0 HG ⊢
  clear eV
  refine rq1 3 (fun K hK=>?_)
  go_simp
  unfold Pkt.frc
  refine (jf x.k x.d x.s x.p x.b _).mono ?_
  rintro e V ⟨rfl,hb⟩
  replace HB0:Hid (Below w6.heap.size w6 V):=HB0.out.trans (hb.mono HB0.out.size)
  replace HG:Hid (V.heap[g8]?=some (.cells #[.int .i64 0,.int .i64 0,.int .i64 0,.int .i64 0,.int .i64 0,.int .i64 0,.int .i64 0,.int .i64 0,.int .i64 0,.slice none 0 0,.slice none 0 0,.int .i64 0,.slice none 0 0,.slice none 0 0,.slice none 0 0,.int .i64 0,.int .i64 0] 43 (0,0))∧w6.heap.size≤g8):=⟨(hb.block _ (fG HG.out.1)).trans HG.out.1,HG.out.2⟩
  clear hb
  have hSn:=And.intro ((HB0.out.block _ (fG HB.out.a)).trans HB.out.a) (And.intro ((HB0.out.block _ (fG HB.out.f)).trans HB.out.f) ((HB0.out.block _ (fG KX.out)).trans KX.out))
  go_wp2_with fail
  refine hK.out _ _ hSn (fun hHeld=>?_)
  clear hK K
  try simp only [Act.put,PZ]
  clear hSn
  exact fj
 obtain ⟨gG,G,bG,rfl,rfl,HA1⟩:=hcut
 have HGa:Hid (fP S' G):=HA1.out.s.al
 have HOG:Hid (iD wc bG G):=HA1.out.s.own
 have HNG:Hid (gG∉G.all):=HA1.out.s.ng
 have HgG:Hid (gX<gG∧gX<bG):=⟨Nat.lt_of_lt_of_le Hz6.out HA1.out.s.ge.1,Nat.lt_of_lt_of_le Hz6.out HA1.out.s.ge.2⟩
 have HGA:Hid (∀ y∈G.all,bG≤y):=fun y hy=>(HA1.out.s.own.all y hy).1
 have KG:Hid (wc.heap[gG]?=some (.cells G.cells 43 (0,0))):=HA1.out.s.k
 replace KX:Hid (wc.heap[gX]?=some (.cells X.cells 43 (0,0))):=HA1.out.kx
 replace HOX:Hid (iD wc wq.heap.size X):=HOX.out.up HA1.out.s.bel
 have HB0:Hid (Below wq.heap.size wq wc):=HQ.out.trans (HA1.out.s.bel.mono HQ.out.size)
 have Hq6:Hid (wq.heap.size≤bG):=Nat.le_trans HQ.out.size HA1.out.s.ge.2
 replace HB:Hid (Fst w wq S x):=HBq
 clear HA1 HQ HBq Hz6
 have HGs:Hid (G.Small∧G.tot≤2000000):=⟨HGa.out.small HLe.out.1,by rw [HGa.out.tot];have:=HLe.out.2;have:=HTo.out;omega⟩
 have HXs:Hid (X.Small∧X.tot≤2000000):=⟨HX.out.small HS.out,by rw [HX.out.tot];have:=HTo.out;omega⟩
 have HE0:Hid (fP G S0):=HGa.out.symm.trans H0.out
 have HqW:Hid (gW<wq.heap.size):=fG KW.out
 obtain ⟨w8,ew8⟩:∃ w8,wc=w8:=⟨_,rfl⟩
 rw [ew8] at HOG KG KX HOX HB0 ⊢
 clear ew8
 have HLW:Hid (∀ j,j<17→w8.cell? ⟨gW,0+j,none⟩=S0.cells[j]?):=kI ((HB0.out.block _ HqW.out).trans KW.out)
 have HLG:Hid (∀ j,j<17→w8.cell? ⟨gG,0+j,none⟩=G.cells[j]?):=kI KG.out
 go_wp2_with (first | refine fM rfl 43 17 _ Tryz.underlying43 rfl fV (.tmp 11) rfl gG 0 rfl G.cells rfl HLG.out ?_ | refine fM rfl 43 17 _ Tryz.underlying43 rfl fV (.tmp 8) rfl gW 0 rfl S0.cells rfl HLW.out ?_)
 clear HLG HLW
 refine (jV G S0 _ HGs.out.1 HOG.out.rd (HR0.out.up HB0.out) HE0.out).mono ?_
 rintro e w9 ⟨rfl,hb⟩
 replace HB0:Hid (Below wq.heap.size wq w9):=HB0.out.trans (hb.mono HB0.out.size)
 replace HOX:Hid (iD w9 wq.heap.size X):=HOX.out.up hb
 replace KX:Hid (w9.heap[gX]?=some (.cells X.cells 43 (0,0))):=(hb.block _ (fG KX.out)).trans KX.out
 replace HOG:Hid (iD w9 bG G):=HOG.out.up hb
 replace KG:Hid (w9.heap[gG]?=some (.cells G.cells 43 (0,0))):=(hb.block _ (fG KG.out)).trans KG.out
 clear hb
 go_wp2_with fail
 have hb:Below w9.heap.size w9 w9.drew:=(Below.refl _ _).drew
 replace HB0:Hid (Below wq.heap.size wq w9.drew):=HB0.out.trans (hb.mono HB0.out.size)
 replace HOX:Hid (iD w9.drew wq.heap.size X):=HOX.out.up hb
 replace KX:Hid (w9.drew.heap[gX]?=some (.cells X.cells 43 (0,0))):=(hb.block _ (fG KX.out)).trans KX.out
 replace HOG:Hid (iD w9.drew bG G):=HOG.out.up hb
 replace KG:Hid (w9.drew.heap[gG]?=some (.cells G.cells 43 (0,0))):=(hb.block _ (fG KG.out)).trans KG.out
 clear hb
 refine wp_region_held_drew (S:=fun w'=>(∀ j,j<17→w'.cell? ⟨gX,0+j,none⟩=X.cells[j]?)∧(∀ j,j<17→w'.cell? ⟨w.heap.size,0+j,none⟩=S.cells[j]?)) (by kernel_rfl) ⟨kI KX.out,kI (HB.out.mE HB0.out).a⟩ (fun hHeld=>?_)
 refine tC 0 56 (v:=.agg X.cells) (fun wx hSw=>gO 43 17 _ Tryz.underlying43 rfl fV (.tmp 10) rfl gX 0 rfl X.cells rfl hSw.1) ?_
 try simp only [Act.put,PZ]
 refine tC 1 57 (v:=.agg S.cells) (fun wx hSw=>gO 32 17 _ Tryz.underlying32 rfl pj (.tmp 3) rfl w.heap.size 0 rfl S.cells rfl hSw.2) ?_
 try simp only [Act.put,PZ]
 refine rq1 2 (fun K hK=>?_)
 go_simp
 refine (jh S _ HS.out (HR.out.up (HB.out.mE HB0.out).bel)).mono ?_
 rintro e wa ⟨S7,rfl,ha,ho,hb⟩
 have H7:Hid (fP X S7∧jL wa S7):=⟨HX.out.symm.trans ha,ho.rd⟩
 clear ha ho
 replace HB0:Hid (Below wq.heap.size wq wa):=HB0.out.trans (hb.mono HB0.out.size)
 replace HOX:Hid (iD wa wq.heap.size X):=HOX.out.up hb
 replace KX:Hid (wa.heap[gX]?=some (.cells X.cells 43 (0,0))):=(hb.block _ (fG KX.out)).trans KX.out
 replace HOG:Hid (iD wa bG G):=HOG.out.up hb
 replace KG:Hid (wa.heap[gG]?=some (.cells G.cells 43 (0,0))):=(hb.block _ (fG KG.out)).trans KG.out
 clear hb
 go_wp2_with fail
 refine hK.out _ _ ⟨kI KX.out,kI (HB.out.mE HB0.out).a⟩ (fun hHeld=>?_)
 clear hK K
 try simp only [Act.put,PZ]
 refine rq1 3 (fun K hK=>?_)
 go_simp
 refine (jV X S7 _ HXs.out.1 HOX.out.rd H7.out.2 H7.out.1).mono ?_
 rintro e wb ⟨rfl,hb⟩
 clear H7
 replace HB0:Hid (Below wq.heap.size wq wb):=HB0.out.trans (hb.mono HB0.out.size)
 replace HOX:Hid (iD wb wq.heap.size X):=HOX.out.up hb
 replace KX:Hid (wb.heap[gX]?=some (.cells X.cells 43 (0,0))):=(hb.block _ (fG KX.out)).trans KX.out
 replace HOG:Hid (iD wb bG G):=HOG.out.up hb
 replace KG:Hid (wb.heap[gG]?=some (.cells G.cells 43 (0,0))):=(hb.block _ (fG KG.out)).trans KG.out
 clear hb
 go_wp2_with fail
 refine hK.out _ _ ⟨kI KX.out,kI (HB.out.mE HB0.out).a⟩ (fun hHeld=>?_)
 clear hK K
 try simp only [Act.put,PZ]
 refine tQ 4 60 ?_
 refine dnq ?_
 clear hHeld
 have HLX:Hid (∀ j,j<17→wb.cell? ⟨gX,0+j,none⟩=X.cells[j]?):=kI KX.out
 go_wp2_with (refine fM rfl 43 17 _ Tryz.underlying43 rfl fV (.tmp 10) rfl gX 0 rfl X.cells rfl HLX.out ?_)
 clear HLX
 refine (p9 X wq.heap.size _ HOX.out HXs.out.1 HXs.out.2).mono ?_
 rintro e wd ⟨rfl,_,tX⟩
 replace HB0:Hid (Below wq.heap.size wq wd):=HB0.out.trans (tX.below HB0.out.size (fun y hy=>(HXA.out y hy).1))
 replace HOG:Hid (iD wd bG G):=HOG.out.low tX (fun y hy=>by have:=(HXA.out y hy).2;have:=HgG.out.2;omega)
 replace KG:Hid (wd.heap[gG]?=some (.cells G.cells 43 (0,0))):=(tX.block _ (fG KG.out) (fun hx=>by have:=(HXA.out _ hx).2;have:=HgG.out.1;omega)).trans KG.out
 clear tX HOX KX HXA
 have hk0:¬ ((X.Bb 1:Nat):Int)<0:=by omega
 have HLW:Hid (∀ j,j<17→wd.cell? ⟨gW,0+j,none⟩=S0.cells[j]?):=kI ((HB0.out.block _ HqW.out).trans KW.out)
 have HLG:Hid (∀ j,j<17→wd.cell? ⟨gG,0+j,none⟩=G.cells[j]?):=kI KG.out
 go_wp2_with (first | refine lu (by kernel_rfl) 43 17 _ Tryz.underlying43 rfl fV (.tmp 11) rfl gG 0 rfl G.cells rfl HLG.out ?_ | refine lu (by kernel_rfl) 43 17 _ Tryz.underlying43 rfl fV (.tmp 8) rfl gW 0 rfl S0.cells rfl HLW.out ?_)
 clear HLG HLW
 refine (jV G S0 _ HGs.out.1 HOG.out.rd (HR0.out.up HB0.out) HE0.out).mono ?_
 rintro e we ⟨rfl,hb⟩
 replace HB0:Hid (Below wq.heap.size wq we):=HB0.out.trans (hb.mono HB0.out.size)
 replace HOG:Hid (iD we bG G):=HOG.out.up hb
 replace KG:Hid (we.heap[gG]?=some (.cells G.cells 43 (0,0))):=(hb.block _ (fG KG.out)).trans KG.out
 clear hb
 have HLG:Hid (∀ j,j<17→we.cell? ⟨gG,0+j,none⟩=G.cells[j]?):=kI KG.out
 go_wp2_with (refine fM rfl 43 17 _ Tryz.underlying43 rfl fV (.tmp 11) rfl gG 0 rfl G.cells rfl HLG.out ?_)
 clear HLG
 refine (p9 G bG _ HOG.out HGs.out.1 HGs.out.2).mono ?_
 rintro e wf ⟨rfl,hm,tG⟩
 have HM1:Hid (xW wf bG 1 G):=hm
 replace HB0:Hid (Below wq.heap.size wq wf):=HB0.out.trans (tG.below HB0.out.size (fun y hy=>by have:=HGA.out y hy;have:=Hq6.out;omega))
 replace KG:Hid (wf.heap[gG]?=some (.cells G.cells 43 (0,0))):=(tG.block _ (fG KG.out) HNG.out).trans KG.out
 clear tG hm HOG HGA
 have HLG:Hid (∀ j,j<17→wf.cell? ⟨gG,0+j,none⟩=G.cells[j]?):=kI KG.out
 go_wp2_with (refine fM rfl 43 17 _ Tryz.underlying43 rfl fV (.tmp 11) rfl gG 0 rfl G.cells rfl HLG.out ?_)
 clear HLG
 refine (qj G bG _ HM1.out HGs.out.1 HGs.out.2).mono ?_
 rintro e wg ⟨rfl,hb⟩
 replace HB0:Hid (Below wq.heap.size wq wg):=HB0.out.trans (hb.mono HB0.out.size)
 replace HM1:Hid (xW wg bG 1 G):=HM1.out.up hb
 replace KG:Hid (wg.heap[gG]?=some (.cells G.cells 43 (0,0))):=(hb.block _ (fG KG.out)).trans KG.out
 clear hb
 have hq0:¬ ((G.Bb 1:Nat):Int)<0:=by omega
 have hqq:(((G.Bb 1:Nat):Int) != ((G.Bb 1:Nat):Int))=false:=by simp
 go_wp2_with fail
 have HBh:Hid (Fst w wg S x):=(HB.out.mE HB0.out)
 go_cut [16,17] (fun sa sc wc=>∃ g8 S0 bG,sa=.pointer (some ⟨g8,0,none⟩)∧sc=.int .i64 code∧Hid (CY w wg wc S' g8 bG S0))
 case first =>
  have HBo:=HB
  have HBo0:=HB0
  have HB:=HBh
  clear HB0 HBo HBo0 HBh
  have hd:Below wg.heap.size wg wg.drew:=(Below.refl _ _).drew
  refine wp_region_held_drew (S:=fun w'=>w'.heap[w.heap.size]?=some (.cells S.cells 32 (0,0))∧w'.heap[w.heap.size+1]?=some (.cells x.frc 34 (0,0))) (by kernel_rfl) ⟨hd.block _ (fG HB.out.a) |>.trans HB.out.a,hd.block _ (fG HB.out.f) |>.trans HB.out.f⟩ (fun hHeld=>?_)
  have HB0:Hid (Below wg.heap.size wg wg.drew):=hd
  clear hd
  generalize wg.drew=V at *
  refine tC 0 89 (v:=.agg S.cells) (fun wx hSw=>gO 32 17 _ Tryz.underlying32 rfl pj (.tmp 3) rfl w.heap.size 0 rfl S.cells rfl (kI hSw.1)) ?_
  try simp only [Act.put,PZ]
  refine tQ 2 91 ?_
  refine tC 3 92 (v:=.agg x.frc) (fun wx hSw=>gO 34 5 _ Tryz.underlying34 rfl ra (.tmp 5) rfl (w.heap.size+1) 0 rfl x.frc rfl (C4 hSw.2)) ?_
  try simp only [Act.put,PZ]
  refine rq2 1 9 (fun K hK=>?_) (fun K hK=>?_)
  ·
   go_simp
   refine (jh S _ HS.out (HR.out.up (HB.out.bel.trans (HB0.out.mono HB.out.bel.size)))).mono ?_
   rintro e V ⟨S2,rfl,ha,ho,hb⟩
   replace HB0:Hid (Below wg.heap.size wg V):=HB0.out.trans (hb.mono HB0.out.size)
   have H2:Hid (fP S S2∧jL V S2):=⟨ha,ho.rd⟩
   clear ha ho hb
   have hSn:=And.intro ((HB0.out.block _ (fG HB.out.a)).trans HB.out.a) ((HB0.out.block _ (fG HB.out.f)).trans HB.out.f)
   go_wp2_with fail
   refine hK.out _ _ hSn (fun hHeld=>?_)
   clear hK K
   try simp only [Act.put,PZ]
   clear hSn
   refine rq2 4 9 (fun K hK=>?_) (fun K hK=>?_)
   ·
    go_simp
    unfold Pkt.frc
    refine (jf x.k x.d x.s x.p x.b _).mono ?_
    rintro e V ⟨rfl,hb⟩
    replace HB0:Hid (Below wg.heap.size wg V):=HB0.out.trans (hb.mono HB0.out.size)
    replace H2:Hid (fP S S2∧jL V S2):=⟨H2.out.1,H2.out.2.up hb⟩
    clear hb
    have hSn:=And.intro ((HB0.out.block _ (fG HB.out.a)).trans HB.out.a) ((HB0.out.block _ (fG HB.out.f)).trans HB.out.f)
    go_wp2_with fail
    refine hK.out _ _ hSn (fun hHeld=>?_)
    clear hK K
    try simp only [Act.put,PZ]
    clear hSn
    refine rq2 5 9 (fun K hK=>?_) (fun K hK=>?_)
    ·
     go_simp
     have eF:(#[.int .i64 x.k,.int .i64 x.d,.int .i64 x.s,.int .i64 x.p,.string x.b]:Array Value)=x.frc:=rfl
     rw [eF]
     clear eF
     obtain ⟨P2,hm2,ha2⟩:=HM.out.AE H2.out.1
     refine (ko S2 P2 port x code aF aD aL _ (H2.out.1.small HS.out) H2.out.2 HXb.out (qt HV.out (HB.out.bel.trans (HB0.out.mono HB.out.bel.size))) hm2).mono ?_
     have HVz:Hid (wg.heap.size≤V.heap.size):=HB0.out.size
     obtain ⟨bG,ebG⟩:∃ b,V.heap.size=b:=⟨_,rfl⟩
     rw [ebG] at HVz
     rw [ebG]
     rintro e V ⟨S0,rfl,ha,ho,hb⟩
     rw [←ebG] at hb
     replace HB0:Hid (Below wg.heap.size wg V):=HB0.out.trans (hb.mono HB0.out.size)
     have H0:Hid (fP S' S0∧gy V bG S0):=⟨ha2.trans ha,ho⟩
     clear ha ho hb hm2 ha2 ebG
     have hSn:=And.intro ((HB0.out.block _ (fG HB.out.a)).trans HB.out.a) ((HB0.out.block _ (fG HB.out.f)).trans HB.out.f)
     go_wp2_with fail
     refine hK.out _ _ hSn (fun hHeld=>?_)
     clear hK K
     try simp only [Act.put,PZ]
     clear hSn
     refine tQ 6 88 ?_
     refine tQ 7 95 ?_
     refine tQ 8 96 ?_
     refine rq1 9 (fun K hK=>?_)
     go_simp
     have hb:=(Below.refl V.heap.size V).alloc (Nat.le_refl _) (.cells #[.int .i64 0,.int .i64 0,.int .i64 0,.int .i64 0,.int .i64 0,.int .i64 0,.int .i64 0,.int .i64 0,.int .i64 0,.slice none 0 0,.slice none 0 0,.int .i64 0,.slice none 0 0,.slice none 0 0,.slice none 0 0,.int .i64 0,.int .i64 0] 43)
     obtain ⟨XA,eXA⟩:∃ XA,V.alloc (.cells #[.int .i64 0,.int .i64 0,.int .i64 0,.int .i64 0,.int .i64 0,.int .i64 0,.int .i64 0,.int .i64 0,.int .i64 0,.slice none 0 0,.slice none 0 0,.int .i64 0,.slice none 0 0,.slice none 0 0,.slice none 0 0,.int .i64 0,.int .i64 0] 43)=XA:=⟨_,rfl⟩
     obtain ⟨g8,eg8⟩:∃ g8,V.heap.size=g8:=⟨_,rfl⟩
     have HG:Hid (XA.heap[g8]?=some (.cells #[.int .i64 0,.int .i64 0,.int .i64 0,.int .i64 0,.int .i64 0,.int .i64 0,.int .i64 0,.int .i64 0,.int .i64 0,.slice none 0 0,.slice none 0 0,.int .i64 0,.slice none 0 0,.slice none 0 0,.slice none 0 0,.int .i64 0,.int .i64 0] 43 (0,0))∧wg.heap.size≤g8):=by rw [←eXA,←eg8];exact ⟨fK _ _,HB0.out.size⟩
     rw [eXA] at hb ⊢
     replace HB0:Hid (Below wg.heap.size wg XA):=HB0.out.trans (hb.mono HB0.out.size)
     replace H0:Hid (fP S' S0∧gy XA bG S0):=⟨H0.out.1,H0.out.2.up hb⟩
     clear hb eXA
     rw [eg8]
     clear eg8
     have hSn:=And.intro ((HB0.out.block _ (fG HB.out.a)).trans HB.out.a) ((HB0.out.block _ (fG HB.out.f)).trans HB.out.f)
     refine hK.out _ _ hSn (fun hHeld=>?_)
     clear hK K
     try simp only [Act.put,PZ]
     clear hSn
     obtain ⟨V,eV⟩:∃ V,XA=V:=⟨_,rfl⟩
     rw [eV] at HB0 HG ⊢
     rw [eV] at H0
     clear eV
     exact fA
    go_simp
    have hb:=(Below.refl V.heap.size V).alloc (Nat.le_refl _) (.cells #[.int .i64 0,.int .i64 0,.int .i64 0,.int .i64 0,.int .i64 0,.int .i64 0,.int .i64 0,.int .i64 0,.int .i64 0,.slice none 0 0,.slice none 0 0,.int .i64 0,.slice none 0 0,.slice none 0 0,.slice none 0 0,.int .i64 0,.int .i64 0] 43)
    obtain ⟨XA,eXA⟩:∃ XA,V.alloc (.cells #[.int .i64 0,.int .i64 0,.int .i64 0,.int .i64 0,.int .i64 0,.int .i64 0,.int .i64 0,.int .i64 0,.int .i64 0,.slice none 0 0,.slice none 0 0,.int .i64 0,.slice none 0 0,.slice none 0 0,.slice none 0 0,.int .i64 0,.int .i64 0] 43)=XA:=⟨_,rfl⟩
    obtain ⟨g8,eg8⟩:∃ g8,V.heap.size=g8:=⟨_,rfl⟩
    have HG:Hid (XA.heap[g8]?=some (.cells #[.int .i64 0,.int .i64 0,.int .i64 0,.int .i64 0,.int .i64 0,.int .i64 0,.int .i64 0,.int .i64 0,.int .i64 0,.slice none 0 0,.slice none 0 0,.int .i64 0,.slice none 0 0,.slice none 0 0,.slice none 0 0,.int .i64 0,.int .i64 0] 43 (0,0))∧wg.heap.size≤g8):=by rw [←eXA,←eg8];exact ⟨fK _ _,HB0.out.size⟩
    rw [eXA] at hb ⊢
    replace HB0:Hid (Below wg.heap.size wg XA):=HB0.out.trans (hb.mono HB0.out.size)
    replace H2:Hid (fP S S2∧jL XA S2):=⟨H2.out.1,H2.out.2.up hb⟩
    clear hb eXA
    rw [eg8]
    clear eg8
    have hSn:=And.intro ((HB0.out.block _ (fG HB.out.a)).trans HB.out.a) ((HB0.out.block _ (fG HB.out.f)).trans HB.out.f)
    refine hK.out _ _ hSn (fun hHeld=>?_)
    clear hK K
    try simp only [Act.put,PZ]
    clear hSn
    obtain ⟨V,eV⟩:∃ V,XA=V:=⟨_,rfl⟩
    rw [eV] at HB0 HG ⊢
    rw [eV] at H2
    clear eV
    exact fh
   go_simp
   have hb:=(Below.refl V.heap.size V).alloc (Nat.le_refl _) (.cells #[.int .i64 0,.int .i64 0,.int .i64 0,.int .i64 0,.int .i64 0,.int .i64 0,.int .i64 0,.int .i64 0,.int .i64 0,.slice none 0 0,.slice none 0 0,.int .i64 0,.slice none 0 0,.slice none 0 0,.slice none 0 0,.int .i64 0,.int .i64 0] 43)
   obtain ⟨XA,eXA⟩:∃ XA,V.alloc (.cells #[.int .i64 0,.int .i64 0,.int .i64 0,.int .i64 0,.int .i64 0,.int .i64 0,.int .i64 0,.int .i64 0,.int .i64 0,.slice none 0 0,.slice none 0 0,.int .i64 0,.slice none 0 0,.slice none 0 0,.slice none 0 0,.int .i64 0,.int .i64 0] 43)=XA:=⟨_,rfl⟩
   obtain ⟨g8,eg8⟩:∃ g8,V.heap.size=g8:=⟨_,rfl⟩
   have HG:Hid (XA.heap[g8]?=some (.cells #[.int .i64 0,.int .i64 0,.int .i64 0,.int .i64 0,.int .i64 0,.int .i64 0,.int .i64 0,.int .i64 0,.int .i64 0,.slice none 0 0,.slice none 0 0,.int .i64 0,.slice none 0 0,.slice none 0 0,.slice none 0 0,.int .i64 0,.int .i64 0] 43 (0,0))∧wg.heap.size≤g8):=by rw [←eXA,←eg8];exact ⟨fK _ _,HB0.out.size⟩
   rw [eXA] at hb ⊢
   replace HB0:Hid (Below wg.heap.size wg XA):=HB0.out.trans (hb.mono HB0.out.size)
   replace H2:Hid (fP S S2∧jL XA S2):=⟨H2.out.1,H2.out.2.up hb⟩
   clear hb eXA
   rw [eg8]
   clear eg8
   have hSn:=And.intro ((HB0.out.block _ (fG HB.out.a)).trans HB.out.a) ((HB0.out.block _ (fG HB.out.f)).trans HB.out.f)
   refine hK.out _ _ hSn (fun hHeld=>?_)
   clear hK K
   try simp only [Act.put,PZ]
   clear hSn
   obtain ⟨V,eV⟩:∃ V,XA=V:=⟨_,rfl⟩
   rw [eV] at HB0 HG ⊢
   rw [eV] at H2
   clear eV
   exact fv
  go_simp
  have hb:=(Below.refl V.heap.size V).alloc (Nat.le_refl _) (.cells #[.int .i64 0,.int .i64 0,.int .i64 0,.int .i64 0,.int .i64 0,.int .i64 0,.int .i64 0,.int .i64 0,.int .i64 0,.slice none 0 0,.slice none 0 0,.int .i64 0,.slice none 0 0,.slice none 0 0,.slice none 0 0,.int .i64 0,.int .i64 0] 43)
  obtain ⟨XA,eXA⟩:∃ XA,V.alloc (.cells #[.int .i64 0,.int .i64 0,.int .i64 0,.int .i64 0,.int .i64 0,.int .i64 0,.int .i64 0,.int .i64 0,.int .i64 0,.slice none 0 0,.slice none 0 0,.int .i64 0,.slice none 0 0,.slice none 0 0,.slice none 0 0,.int .i64 0,.int .i64 0] 43)=XA:=⟨_,rfl⟩
  obtain ⟨g8,eg8⟩:∃ g8,V.heap.size=g8:=⟨_,rfl⟩
  have HG:Hid (XA.heap[g8]?=some (.cells #[.int .i64 0,.int .i64 0,.int .i64 0,.int .i64 0,.int .i64 0,.int .i64 0,.int .i64 0,.int .i64 0,.int .i64 0,.slice none 0 0,.slice none 0 0,.int .i64 0,.slice none 0 0,.slice none 0 0,.slice none 0 0,.int .i64 0,.int .i64 0] 43 (0,0))∧wg.heap.size≤g8):=by rw [←eXA,←eg8];exact ⟨fK _ _,HB0.out.size⟩
  rw [eXA] at hb ⊢
  replace HB0:Hid (Below wg.heap.size wg XA):=HB0.out.trans (hb.mono HB0.out.size)
  clear hb eXA
  rw [eg8]
  clear eg8
  have hSn:=And.intro ((HB0.out.block _ (fG HB.out.a)).trans HB.out.a) ((HB0.out.block _ (fG HB.out.f)).trans HB.out.f)
  refine hK.out _ _ hSn (fun hHeld=>?_)
  clear hK K
  try simp only [Act.put,PZ]
  clear hSn
  obtain ⟨V,eV⟩:∃ V,XA=V:=⟨_,rfl⟩
  rw [eV] at HB0 HG ⊢
  clear eV
  refine rq1 1 (fun K hK=>?_)
  go_simp
  refine (jh S _ HS.out (HR.out.up (HB.out.bel.trans (HB0.out.mono HB.out.bel.size)))).mono ?_
  rintro e V ⟨S2,rfl,ha,ho,hb⟩
  replace HB0:Hid (Below wg.heap.size wg V):=HB0.out.trans (hb.mono HB0.out.size)
  replace HG:Hid (V.heap[g8]?=some (.cells #[.int .i64 0,.int .i64 0,.int .i64 0,.int .i64 0,.int .i64 0,.int .i64 0,.int .i64 0,.int .i64 0,.int .i64 0,.slice none 0 0,.slice none 0 0,.int .i64 0,.slice none 0 0,.slice none 0 0,.slice none 0 0,.int .i64 0,.int .i64 0] 43 (0,0))∧wg.heap.size≤g8):=⟨(hb.block _ (fG HG.out.1)).trans HG.out.1,HG.out.2⟩
  have H2:Hid (fP S S2∧jL V S2):=⟨ha,ho.rd⟩
  clear ha ho hb
  have hSn:=And.intro ((HB0.out.block _ (fG HB.out.a)).trans HB.out.a) ((HB0.out.block _ (fG HB.out.f)).trans HB.out.f)
  go_wp2_with fail
  refine hK.out _ _ hSn (fun hHeld=>?_)
  clear hK K
  try simp only [Act.put,PZ]
  clear hSn
  exact fv
 obtain ⟨gH,H,bH,rfl,rfl,HA2⟩:=hcut
 have HH:Hid (fP H S0∧H.Small):=⟨HA2.out.al.symm.trans H0.out,HA2.out.al.small HLe.out.1⟩
 have HRH:Hid (jL wc H):=HA2.out.own.rd
 have KH:Hid (wc.heap[gH]?=some (.cells H.cells 43 (0,0))):=HA2.out.k
 have hb:=HA2.out.bel
 clear HA2 HBh
 replace HB0:Hid (Below wq.heap.size wq wc):=HB0.out.trans (hb.mono HB0.out.size)
 replace HM1:Hid (xW wc bG 1 G):=HM1.out.up hb
 replace KG:Hid (wc.heap[gG]?=some (.cells G.cells 43 (0,0))):=(hb.block _ (fG KG.out)).trans KG.out
 clear hb
 have HLW:Hid (∀ j,j<17→wc.cell? ⟨gW,0+j,none⟩=S0.cells[j]?):=kI ((HB0.out.block _ HqW.out).trans KW.out)
 have HLG:Hid (∀ j,j<17→wc.cell? ⟨gH,0+j,none⟩=H.cells[j]?):=kI KH.out
 go_wp2_with (first | refine fM rfl 43 17 _ Tryz.underlying43 rfl fV (.tmp 16) rfl gH 0 rfl H.cells rfl HLG.out ?_ | refine fM rfl 43 17 _ Tryz.underlying43 rfl fV (.tmp 8) rfl gW 0 rfl S0.cells rfl HLW.out ?_)
 clear HLG HLW
 refine (jV H S0 _ HH.out.2 HRH.out (HR0.out.up HB0.out) HH.out.1).mono ?_
 rintro e wj ⟨rfl,hb⟩
 replace HB0:Hid (Below wq.heap.size wq wj):=HB0.out.trans (hb.mono HB0.out.size)
 replace HM1:Hid (xW wj bG 1 G):=HM1.out.up hb
 replace KG:Hid (wj.heap[gG]?=some (.cells G.cells 43 (0,0))):=(hb.block _ (fG KG.out)).trans KG.out
 clear hb
 have HLG:Hid (∀ j,j<17→wj.cell? ⟨gG,0+j,none⟩=G.cells[j]?):=kI KG.out
 go_wp2_with (refine fM rfl 43 17 _ Tryz.underlying43 rfl fV (.tmp 11) rfl gG 0 rfl G.cells rfl HLG.out ?_)
 clear HLG
 refine (qj G bG _ HM1.out HGs.out.1 HGs.out.2).mono ?_
 rintro e wk ⟨rfl,hb⟩
 replace HB0:Hid (Below wq.heap.size wq wk):=HB0.out.trans (hb.mono HB0.out.size)
 replace HM1:Hid (xW wk bG 1 G):=HM1.out.up hb
 replace KG:Hid (wk.heap[gG]?=some (.cells G.cells 43 (0,0))):=(hb.block _ (fG KG.out)).trans KG.out
 clear hb
 have B:=(HB.out.mE HB0.out).bel
 exact fy
end Go.Proofs.YtjaobmbcmjgjgaaGreatDoor
