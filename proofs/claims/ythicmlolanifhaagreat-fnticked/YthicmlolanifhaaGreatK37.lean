import Derived.Test.YthicmlolanifhaaGreatK18
import Derived.Test.YthicmlolanifhaaGreatK35
namespace Go.Proofs.YthicmlolanifhaaGreat
set_option maxRecDepth 100000
set_option maxHeartbeats 9000000
open Go.RowKit
set_option linter.unusedVariables false
set_option linter.unusedSimpArgs false
theorem gy {p:Prop} (h:p:=by
 clear hP eS9 HX HK
 have HL:Hid (∀ j,j<17→X9.cell? ⟨gb,0+j,none⟩=S9.cells[j]?):=fun j _=>by rw [Nat.zero_add];exact gM HM.out.1 j
 have HZ:Hid (X9.heap[w.heap.size]?=some (.cells zSw 34 (0,0))):=HM.out.2.1
 go_wp2_with (first | refine gY rfl 34 17 _ Tryz.underlying34 rfl iW (.tmp 5) rfl gb 0 rfl S9.cells rfl HL.out ?_ | refine gW rfl 34 (.tmp 4) (.tmp 76) rfl w.heap.size 0 rfl (.agg S9.cells) rfl 17 rfl 34 _ HZ.out iW (Nat.le_of_ble_eq_true rfl) (Swg.lx _) ?_)
 intro Y hP
 replace hP:Put X9 Y w.heap.size S9.cells 34:=hP.cast rfl
 have HR:Hid (Y.heap[w.heap.size]?=some (.cells S9.cells 34 (0,0))):=hP.blk
 have HE:Hid (MaE w Y g cv S9):=⟨HM.out.2.2.1.put hP hg,fun T W hT ht=>HM.out.2.2.2.1 (w.heap.size :: T) W (fun x hx=>by rcases List.mem_cons.1 hx with rfl | hx;exact .inl (Nat.le_refl _);exact .inl (hT x hx)) (lM hP.to ht),HM.out.2.2.2.2.1,HM.out.2.2.2.2.2.vE hP (Nat.le_refl _)⟩
 clear hP HL HZ HM
 go_wp2_with fail
 exact bodyPost_ret (kI Tryz.results19 17 _ Tryz.underlying34 rfl iW _ _ w.heap.size S9.cells rfl 34 HR.out rfl) rfl ⟨S9,rfl,HE.out⟩):p:=h
theorem gF {p:Prop} (h:p:=by
 go_wp2_with (refine gW rfl 34 (.tmp 2) (.tmp 12) rfl (w.heap.size+1) 0 rfl (.agg #[.int .i64 0,.int .i64 0,.int .i64 0,.int .i64 0,.int .i64 0,.int .i64 0,.int .i64 0,.int .i64 0,.int .i64 0,.slice none 0 0,.slice none 0 0,.int .i64 0,.slice none 0 0,.slice none 0 0,.slice none 0 0,.int .i64 0,.int .i64 0]) rfl 17 rfl 34 _ HD.out ij (Nat.le_of_ble_eq_true rfl) (by simp [Value.cells,Value.oneCell']) ?_)
 intro X hP
 replace hP:Put w1 X (w.heap.size+1) kQ.cells 34:=hP.cast rfl
 have HK:Hid (X.heap[w.heap.size+1]?=some (.cells kQ.cells 34 (0,0))):=hP.blk
 have HB2:Hid (Below w.heap.size w X):=HX.out.bel.trans (hP.to.below HX.out.bel.size (fun x hx=>by simp at hx;omega))
 clear hP c7
 go_wp2_with fail
 rw [HF.out]
 exact bodyPost_ret (jI Tryz.results14 17 _ Tryz.underlying34 rfl ij _ _ (w.heap.size+1) kQ.cells rfl 34 HK.out rfl (.bool false) rfl) rfl ⟨kQ,rfl,hG.refl _,qL _ _,HB2.out⟩):p:=h
theorem gG {p:Prop} (h:p:=by
 have HK:Hid (X.heap[w.heap.size+1]?=some (.cells kQ.cells 34 (0,0))):=hP.blk
 have HB2:Hid (Below w.heap.size w X):=HX.out.bel.trans (hP.to.below HX.out.bel.size (fun x hx=>by simp at hx;omega))
 clear hP
 go_wp2_with fail
 rw [HF.out.1,HF.out.2.1,HF.out.2.2]
 exact bodyPost_ret (s9 Tryz.results8 17 _ Tryz.underlying34 rfl ij _ _ (w.heap.size+1) kQ.cells rfl 34 HK.out rfl (.slice none 0 0) rfl (.bool false) rfl) rfl ⟨kQ,none,0,rfl,hG.refl _,(qL _ _).half _,OG.nil _ _ _ _,HB2.out⟩):p:=h
theorem gH {p:Prop} (h:p:=by
 refine hK.out _ _ ?_
 clear hK K
 try simp only [Act.put,PZ]
 refine qY (by kernel_rfl) ?_ _
 replace hP:Put v4 Y gb S2.cells 34:=hP.cast rfl
 have HN:Hid (MaS w Y g w.heap.size gb cv S2):=HX.out.put hP HH.out.1 HH.out.2
 clear hP HH HX
 exact gJ):p:=h
theorem gI {p:Prop} (h:p:=by
 have HN:Hid (MaS w Y g w.heap.size gb cv S2):=HX.out.put hP HH.out.1 HH.out.2
 clear hP HH HK HX
 exact gJ):p:=h
theorem gJ {p:Prop} (h:p:=by
 go_wp2_with fail
 go_roundw
 case rel=>exact ⟨k-1,S2,by omega,by omega,by go_num,HN⟩
 case measure=>simp [intOf];omega):p:=h
theorem vB (S S':Swg) (port:Int) (x:Pkt) (code:Int) (w:World) (hs:S.Small) (hr:jK w S) (hxb:x.b.size≤1048576) (hm:zu S S' port x code) :
  Calls Tryz.prog 48 #[.agg S.cells,.int .i64 port,.agg x.frc] w fun e w'=>∃ S2,e=.returned (.tuple #[.agg S2.cells,.int .i64 code])∧hG S' S2∧ir w' w.heap.size S2∧Below w.heap.size w w':=by
 obtain ⟨ok,hok⟩:=je S.Ok
 have HO:Hid (ok=true↔S.Ok):=hok
 have HM:Hid (zu S S' port x code):=hm
 have HR:Hid (jK w S):=hr
 have HS:Hid S.Small:=hs
 obtain ⟨W,eW⟩:∃ W,((w.alloc (.cells S.cells 34)).alloc (.cells x.frc 43)).alloc (.cells #[.int .i64 0,.int .i64 0,.int .i64 0,.int .i64 0,.int .i64 0,.int .i64 0,.int .i64 0,.int .i64 0,.int .i64 0,.slice none 0 0,.slice none 0 0,.int .i64 0,.slice none 0 0,.slice none 0 0,.slice none 0 0,.int .i64 0,.int .i64 0] 34)=W:=⟨_,rfl⟩
 have HX:Hid (Thr w W S x):=by rw [←eW];exact Thr.start _ _ _
 have HL:Hid (∀ j,j<17→W.cell? ⟨w.heap.size,0+j,none⟩=S.cells[j]?):=fun j _=>by rw [Nat.zero_add];exact gM HX.out.a j
 clear hs hr hok hm
 go_enter Tryz.func48,Tryz.ntmps48
 go_wp2_with (refine gY rfl 34 17 _ Tryz.underlying34 rfl ij (.tmp 3) rfl (w.heap.size) 0 rfl S.cells rfl HL.out ?_)
 clear eW HL
 refine (mJ S _ HS.out (HR.out.up HX.out.bel) ok HO.out).mono ?_
 rintro e w1 ⟨rfl,hbl⟩
 replace HX:Hid (Thr w w1 S x):=HX.out.up hbl
 clear hbl
 have HD:Hid (w1.heap[w.heap.size+1+1]?=some (.cells zSw 34 (0,0))):=HX.out.z
 cases ok
 ·
  have HF:Hid (S'=kQ∧code=1):=by
   rcases HM.out with ⟨_,h1,h2⟩ | ⟨h,_⟩ | ⟨h,_⟩
   ·
    exact ⟨h1,h2⟩
   ·
    exact absurd (HO.out.2 h) (by simp)
   exact absurd (HO.out.2 h) (by simp)
  go_wp2_with (refine gW rfl 34 (.tmp 6) (.tmp 11) rfl (w.heap.size+1+1) 0 rfl (.agg #[.int .i64 0,.int .i64 0,.int .i64 0,.int .i64 0,.int .i64 0,.int .i64 0,.int .i64 0,.int .i64 0,.int .i64 0,.slice none 0 0,.slice none 0 0,.int .i64 0,.slice none 0 0,.slice none 0 0,.slice none 0 0,.int .i64 0,.int .i64 0]) rfl 17 rfl 34 _ HD.out ij (Nat.le_of_ble_eq_true rfl) (by simp [Value.cells,Value.oneCell']) ?_)
  intro X hP
  replace hP:Put w1 X (w.heap.size+1+1) kQ.cells 34:=hP.cast rfl
  have HK:Hid (X.heap[w.heap.size+1+1]?=some (.cells kQ.cells 34 (0,0))):=hP.blk
  have HB2:Hid (Below w.heap.size w X):=HX.out.bel.trans (hP.to.below HX.out.bel.size (fun y hy=>by simp at hy;omega))
  clear hP
  go_wp2_with fail
  rw [HF.out.1,HF.out.2]
  exact bodyPost_ret (jI Tryz.results48 17 _ Tryz.underlying34 rfl ij _ _ (w.heap.size+1+1) kQ.cells rfl 34 HK.out rfl (.int .i64 1) rfl) rfl ⟨kQ,rfl,hG.refl _,qL _ _,HB2.out⟩
 have HOk:Hid S.Ok:=HO.out.1 rfl
 have HL:Hid (∀ j,j<17→w1.cell? ⟨w.heap.size,0+j,none⟩=S.cells[j]?):=fun j _=>by rw [Nat.zero_add];exact gM HX.out.a j
 have HLf:Hid (∀ j,j<5→w1.cell? ⟨w.heap.size+1,0+j,none⟩=x.frc[j]?):=wu HX.out.f
 go_wp2_with (first | refine gY rfl 34 17 _ Tryz.underlying34 rfl ij (.tmp 3) rfl (w.heap.size) 0 rfl S.cells rfl HL.out ?_ | refine gY rfl 43 5 _ Tryz.underlying43 rfl mm (.tmp 5) rfl (w.heap.size+1) 0 rfl x.frc rfl HLf.out ?_)
 clear HL HD HLf
 have HW1:Hid (w.heap.size≤w1.heap.size):=HX.out.bel.size
 refine (uG S S' port x code _ HS.out (HR.out.up HX.out.bel) HOk.out hxb HM.out).mono ?_
 rintro e w2 ⟨Q,rfl,aQ,oQ,hbl⟩
 replace HX:Hid (Thr w w2 S x):=HX.out.up hbl
 have HN:Hid (hG S' Q∧ir w2 w.heap.size Q):=⟨aQ,oQ.mono HW1.out⟩
 have HD:Hid (w2.heap[w.heap.size+1+1]?=some (.cells zSw 34 (0,0))):=HX.out.z
 clear aQ oQ hbl
 go_wp2_with (refine gW rfl 34 (.tmp 6) (.tmp 16) rfl (w.heap.size+1+1) 0 rfl (.agg Q.cells) rfl 17 rfl 34 _ HD.out ij (Nat.le_of_ble_eq_true rfl) (Swg.lx _) ?_)
 intro X hP
 replace hP:Put w2 X (w.heap.size+1+1) Q.cells 34:=hP.cast rfl
 have HK:Hid (X.heap[w.heap.size+1+1]?=some (.cells Q.cells 34 (0,0))):=hP.blk
 have HFF:Hid (ir X w.heap.size Q∧Below w.heap.size w X):=⟨HN.out.2.off HD.out hP.to,HX.out.bel.trans (hP.to.below HX.out.bel.size (fun y hy=>by simp at hy;omega))⟩
 clear hP HD
 go_wp2_with fail
 exact bodyPost_ret (jI Tryz.results48 17 _ Tryz.underlying34 rfl ij _ _ (w.heap.size+1+1) Q.cells rfl 34 HK.out rfl (.int .i64 code) rfl) rfl ⟨Q,rfl,HN.out.1,HFF.out.1,HFF.out.2⟩
theorem zQ (S S':Swg) (port:Int) (fs:List Pkt) (w:World) (hs:S.Small) (hr:jK w S) (b:Bool) (hm:wN S S' port fs b) :
  Calls Tryz.prog 8 #[.agg S.cells,.int .i64 port] w fun e w'=>∃ S2 a c,e=.returned (.tuple #[.agg S2.cells,.slice a fs.length c,.bool b])∧hG S' S2∧jU w' w.heap.size S2 S2.nL∧OG 43 5 w' w.heap.size a fs.length c (tV fs.length fun i=>(fsF fs i).frame)∧Below w.heap.size w w':=by
 obtain ⟨ok,hok⟩:=je S.Ok
 have HO:Hid (ok=true↔S.Ok):=hok
 have HM:Hid (wN S S' port fs b):=hm
 have HR:Hid (jK w S):=hr
 have HS:Hid S.Small:=hs
 obtain ⟨W,eW⟩:∃ W,(w.alloc (.cells S.cells 34)).alloc (.cells #[.int .i64 0,.int .i64 0,.int .i64 0,.int .i64 0,.int .i64 0,.int .i64 0,.int .i64 0,.int .i64 0,.int .i64 0,.slice none 0 0,.slice none 0 0,.int .i64 0,.slice none 0 0,.slice none 0 0,.slice none 0 0,.int .i64 0,.int .i64 0] 34)=W:=⟨_,rfl⟩
 have HX:Hid (Two w S.cells zSw 34 W):=by rw [←eW];exact Two.start _ _ _ _
 have HL:Hid (∀ j,j<17→W.cell? ⟨w.heap.size,0+j,none⟩=S.cells[j]?):=fun j _=>by rw [Nat.zero_add];exact gM HX.out.a j
 clear hs hr hok hm
 go_enter Tryz.func8,Tryz.ntmps8
 go_wp2_with (refine gY rfl 34 17 _ Tryz.underlying34 rfl ij (.tmp 2) rfl (w.heap.size) 0 rfl S.cells rfl HL.out ?_)
 clear eW HL
 refine (mJ S _ HS.out (HR.out.up HX.out.bel) ok HO.out).mono ?_
 rintro e w1 ⟨rfl,hbl⟩
 replace HX:Hid (Two w S.cells zSw 34 w1):=HX.out.up hbl
 clear hbl
 have HD:Hid (w1.heap[w.heap.size+1]?=some (.cells zSw 34 (0,0))):=HX.out.b
 cases ok
 ·
  have HF:Hid (b=false∧S'=kQ∧fs=[]):=by
   rcases HM.out with ⟨_,h,_⟩ | ⟨h1,_,h2,h3⟩
   ·
    exact absurd (HO.out.2 h) (by simp)
   exact ⟨h1,h2,h3⟩
  go_wp2_with (refine gW rfl 34 (.tmp 4) (.tmp 21) rfl (w.heap.size+1) 0 rfl (.agg #[.int .i64 0,.int .i64 0,.int .i64 0,.int .i64 0,.int .i64 0,.int .i64 0,.int .i64 0,.int .i64 0,.int .i64 0,.slice none 0 0,.slice none 0 0,.int .i64 0,.slice none 0 0,.slice none 0 0,.slice none 0 0,.int .i64 0,.int .i64 0]) rfl 17 rfl 34 _ HD.out ij (Nat.le_of_ble_eq_true rfl) (by simp [Value.cells,Value.oneCell']) ?_)
  intro X hP
  replace hP:Put w1 X (w.heap.size+1) kQ.cells 34:=hP.cast rfl
  exact gG
 have HOk:Hid S.Ok:=HO.out.1 rfl
 have hp4:=HOk.out.n.c.num.p
 have c0:w1.cell? ⟨w.heap.size,0,none⟩=some (.int .i64 S.C.p):=gM HX.out.a 0
 have hw0:IntKind.i64.wrap (S.C.p-1)=S.C.p-1:=kY _ (by omega) (by omega)
 go_wp2_with fail
 refine (il port 0 (S.C.p-1) _).mono ?_
 rintro e w2 ⟨rfl,hw2⟩
 subst hw2
 clear c0 hw0
 by_cases hport:0≤port∧port≤S.C.p-1
 rotate_left
 ·
  have hdec:decide (0≤port∧port≤S.C.p-1)=false:=by simp only [decide_eq_false_iff_not];exact hport
  have HF:Hid (b=false∧S'=kQ∧fs=[]):=by
   rcases HM.out with ⟨_,h,i,rfl,hi,_⟩ | ⟨h1,_,h2,h3⟩
   ·
    have:=h.nl
    exact absurd (by omega) hport
   exact ⟨h1,h2,h3⟩
  rw [hdec]
  clear hport hdec
  go_wp2_with (refine gW rfl 34 (.tmp 4) (.tmp 21) rfl (w.heap.size+1) 0 rfl (.agg #[.int .i64 0,.int .i64 0,.int .i64 0,.int .i64 0,.int .i64 0,.int .i64 0,.int .i64 0,.int .i64 0,.int .i64 0,.slice none 0 0,.slice none 0 0,.int .i64 0,.slice none 0 0,.slice none 0 0,.slice none 0 0,.int .i64 0,.int .i64 0]) rfl 17 rfl 34 _ HD.out ij (Nat.le_of_ble_eq_true rfl) (by simp [Value.cells,Value.oneCell']) ?_)
  intro X hP
  replace hP:Put w2 X (w.heap.size+1) kQ.cells 34:=hP.cast rfl
  exact gG
 have hdec:decide (0≤port∧port≤S.C.p-1)=true:=by simp only [decide_eq_true_eq];exact hport
 have HF:Hid (b=true∧∃ i:Nat,port=(i:Int)∧i<S.nL∧o6 S S' i fs):=by
  rcases HM.out with ⟨h1,h,h2⟩ | ⟨h1,h2,_⟩
  ·
   exact ⟨h1,h2⟩
  exact absurd ⟨HOk.out,hport⟩ h2
 obtain ⟨hb1,i,rfl,hi,hsm⟩:=HF.out
 have HSM:Hid (o6 S S' i fs∧i<S.nL∧b=true):=⟨hsm,hi,hb1⟩
 have HL:Hid (∀ j,j<17→w2.cell? ⟨w.heap.size,0+j,none⟩=S.cells[j]?):=fun j _=>by rw [Nat.zero_add];exact gM HX.out.a j
 rw [hdec]
 clear hport hdec HM HF hb1 hi hsm
 go_wp2_with (refine gY rfl 34 17 _ Tryz.underlying34 rfl ij (.tmp 2) rfl (w.heap.size) 0 rfl S.cells rfl HL.out ?_)
 clear HL
 have HW1:Hid (w.heap.size+1<w2.heap.size):=gO HX.out.b
 refine (yT S S' fs i _ HS.out (HR.out.up HX.out.bel) HOk.out HSM.out.2.1 HSM.out.1).mono ?_
 rintro e w3 ⟨P,a,c,rfl,aP,hP0,oF,hbl⟩
 replace HX:Hid (Two w S.cells zSw 34 w3):=HX.out.up hbl
 have HP:Hid (hG S' P∧jU w3 w2.heap.size P P.nL∧OG 43 5 w3 w2.heap.size a fs.length c (tV fs.length fun i=>(fsF fs i).frame)∧w2.heap.size≤w3.heap.size):=⟨aP,hP0,oF,hbl.size⟩
 clear aP hP0 oF hbl HD
 have HG:Hid ((w3.alloc (.cells #[.int .i64 0,.int .i64 0,.int .i64 0,.int .i64 0,.int .i64 0,.int .i64 0,.int .i64 0,.int .i64 0,.int .i64 0,.slice none 0 0,.slice none 0 0,.int .i64 0,.slice none 0 0,.slice none 0 0,.slice none 0 0,.int .i64 0,.int .i64 0] 34)).heap[w3.heap.size]?=some (.cells #[.int .i64 0,.int .i64 0,.int .i64 0,.int .i64 0,.int .i64 0,.int .i64 0,.int .i64 0,.int .i64 0,.int .i64 0,.slice none 0 0,.slice none 0 0,.int .i64 0,.slice none 0 0,.slice none 0 0,.slice none 0 0,.int .i64 0,.int .i64 0] 34 (0,0))):=gV _ _
 go_wp2_with (refine gW rfl 34 (.tmp 7) (.tmp 26) rfl (w3.heap.size) 0 rfl (.agg P.cells) rfl 17 rfl 34 _ HG.out ij (Nat.le_of_ble_eq_true rfl) (Swg.lx _) ?_)
 intro X0 hP
 replace hP:Put _ X0 w3.heap.size P.cells 34:=hP.cast rfl
 have hbl:Below w3.heap.size w3 X0:=((Below.refl _ _).alloc (Nat.le_refl _) _).trans (hP.to.below (by simp) (fun x hx=>by simp at hx;omega))
 replace HX:Hid (Two w S.cells zSw 34 X0):=HX.out.up hbl
 replace HP:Hid (hG S' P∧jU X0 w2.heap.size P P.nL∧OG 43 5 X0 w2.heap.size a fs.length c (tV fs.length fun i=>(fsF fs i).frame)):=⟨HP.out.1,HP.out.2.1.up hbl,HP.out.2.2.1.up hbl⟩
 have HL:Hid (∀ j,j<17→X0.cell? ⟨w3.heap.size,0+j,none⟩=P.cells[j]?):=fun j _=>by rw [Nat.zero_add];exact gM hP.blk j
 have HD:Hid (X0.heap[w.heap.size+1]?=some (.cells zSw 34 (0,0))):=HX.out.b
 clear hP HG hbl
 go_wp2_with (first | refine gY rfl 34 17 _ Tryz.underlying34 rfl ij (.tmp 7) rfl (w3.heap.size) 0 rfl P.cells rfl HL.out ?_ | refine gW rfl 34 (.tmp 4) (.tmp 28) rfl (w.heap.size+1) 0 rfl (.agg P.cells) rfl 17 rfl 34 _ HD.out ij (Nat.le_of_ble_eq_true rfl) (Swg.lx _) ?_)
 intro X hP
 replace hP:Put X0 X (w.heap.size+1) P.cells 34:=hP.cast rfl
 have HK:Hid (X.heap[w.heap.size+1]?=some (.cells P.cells 34 (0,0))):=hP.blk
 have HFF:Hid (jU X w.heap.size P P.nL∧OG 43 5 X w.heap.size a fs.length c (tV fs.length fun i=>(fsF fs i).frame)∧Below w.heap.size w X):=by
  have hlt:=HW1.out
  exact ⟨(HP.out.2.1.low hP.to (fun x hx=>by simp at hx;omega)).mono (by omega),(HP.out.2.2.low hP.to (fun x hx=>by simp at hx;omega)).mono (by omega),HX.out.bel.trans (hP.to.below HX.out.bel.size (fun x hx=>by simp at hx;omega))⟩
 clear hP HL HD
 go_wp2_with fail
 rw [HSM.out.2.2]
 exact bodyPost_ret (s9 Tryz.results8 17 _ Tryz.underlying34 rfl ij _ _ (w.heap.size+1) P.cells rfl 34 HK.out rfl (.slice a fs.length c) rfl (.bool true) rfl) rfl ⟨P,a,c,rfl,HP.out.1,HFF.out.1,HFF.out.2.1,HFF.out.2.2⟩
theorem vW (S:Swg) (w:World) (hs:S.Small) (hU:0<S.N.nU) (hPp:0<S.N.nP) (htab:jM S.nE S.e) (h0:0≤S.now) (h1:S.now<1000000000) (h:jK w S) :
  Calls Tryz.prog 38 #[.agg S.cells] w fun e w'=>∃ S2,e=.returned (.agg S2.cells)∧hG (S.iQ none 0) S2∧ir w' w.heap.size S2∧Below w.heap.size w w':=by
 have HR:Hid (jK w S):=h
 have HS:Hid S.Small:=hs
 have HTb:Hid (jM S.nE S.e):=htab
 obtain ⟨W,eW⟩:∃ W,(w.alloc (.cells S.cells 34)).alloc (.cells #[.int .i64 0,.int .i64 0,.int .i64 0,.int .i64 0,.int .i64 0,.int .i64 0,.int .i64 0,.int .i64 0,.int .i64 0,.slice none 0 0,.slice none 0 0,.int .i64 0,.slice none 0 0,.slice none 0 0,.slice none 0 0,.int .i64 0,.int .i64 0] 34)=W:=⟨_,rfl⟩
 have HX:Hid (Two w S.cells zSw 34 W):=by rw [←eW];exact Two.start _ _ _ _
 have HL:Hid (∀ j,j<17→W.cell? ⟨w.heap.size,0+j,none⟩=S.cells[j]?):=fun j _=>by rw [Nat.zero_add];exact gM HX.out.a j
 have HW1:Hid (w.heap.size≤W.heap.size):=HX.out.bel.size
 have hw1:IntKind.i64.wrap (S.now+1)=S.now+1:=kY _ (by omega) (by omega)
 clear hs h htab
 go_enter Tryz.func38,Tryz.ntmps38
 go_wp2_with (refine gY rfl 34 17 _ Tryz.underlying34 rfl ij (.tmp 1) rfl (w.heap.size) 0 rfl S.cells rfl HL.out ?_)
 clear eW HL
 refine (p8 S _ HS.out hU hPp (HR.out.up HX.out.bel)).mono ?_
 rintro e w2 ⟨P,rfl,aP,oP,hbl⟩
 replace HX:Hid (Two w S.cells zSw 34 w2):=HX.out.up hbl
 have HP:Hid (hG S P∧ir w2 w.heap.size P):=⟨aP,oP.mono HW1.out⟩
 clear aP oP hbl
 have HG:Hid ((w2.alloc (.cells #[.int .i64 0,.int .i64 0,.int .i64 0,.int .i64 0,.int .i64 0,.int .i64 0,.int .i64 0,.int .i64 0,.int .i64 0,.slice none 0 0,.slice none 0 0,.int .i64 0,.slice none 0 0,.slice none 0 0,.slice none 0 0,.int .i64 0,.int .i64 0] 34)).heap[w2.heap.size]?=some (.cells #[.int .i64 0,.int .i64 0,.int .i64 0,.int .i64 0,.int .i64 0,.int .i64 0,.int .i64 0,.int .i64 0,.int .i64 0,.slice none 0 0,.slice none 0 0,.int .i64 0,.slice none 0 0,.slice none 0 0,.slice none 0 0,.int .i64 0,.int .i64 0] 34 (0,0))):=gV _ _
 go_wp2_with (refine gW rfl 34 (.tmp 3) (.tmp 5) rfl (w2.heap.size) 0 rfl (.agg P.cells) rfl 17 rfl 34 _ HG.out ij (Nat.le_of_ble_eq_true rfl) (Swg.lx _) ?_)
 intro X0 hP
 replace hP:Put _ X0 w2.heap.size P.cells 34:=hP.cast rfl
 have hbl:Below w2.heap.size w2 X0:=((Below.refl _ _).alloc (Nat.le_refl _) _).trans (hP.to.below (by simp) (fun x hx=>by simp at hx;omega))
 have kN:=hP.blk
 have hgN:w.heap.size+1<w2.heap.size:=gO HX.out.b
 replace HX:Hid (Two w S.cells zSw 34 X0):=HX.out.up hbl
 replace HP:Hid (hG S P∧ir X0 w.heap.size P):=⟨HP.out.1,HP.out.2.up hbl⟩
 clear hP HG hbl
 obtain ⟨gN,eN⟩:∃ g,w2.heap.size=g:=⟨_,rfl⟩
 rw [eN] at kN hgN ⊢
 clear eN
 have HgN:Hid (w.heap.size+1<gN):=hgN
 have HkN:Hid (X0.heap[gN]?=some (.cells P.cells 34 (0,0))):=kN
 have c7:X0.cell? ⟨w.heap.size,7,none⟩=some (.int .i64 S.now):=gM HX.out.a 7
 clear kN hgN
 go_wp2_with (refine gW rfl 2 (.tmp 9) (.tmp 8) rfl gN 7 rfl (.int .i64 (S.now+1)) rfl 1 rfl 34 _ HkN.out tq (Nat.le_of_ble_eq_true rfl) (by simp [Value.cells,Value.oneCell']) ?_)
 intro X1 hP
 obtain ⟨P1,eP⟩:∃ P1,({ P with now:=S.now+1 }:Swg)=P1:=⟨_,rfl⟩
 replace hP:Put X0 X1 gN P1.cells 34:=hP.cast (by rw [←eP];rfl)
 replace HX:Hid (Two w S.cells zSw 34 X1):=HX.out.put hP HgN.out
 have HO1:Hid (ir X1 w.heap.size P):=HP.out.2.off HkN.out hP.to
 replace HkN:Hid (X1.heap[gN]?=some (.cells P1.cells 34 (0,0))):=hP.blk
 have c7:X1.cell? ⟨gN,7,none⟩=some (.int .i64 (S.now+1)):=(gM HkN.out 7).trans (by rw [←eP];rfl)
 have c9:X1.cell? ⟨gN,9,none⟩=some (.slice P.aE P.nE P.cE):=(gM HkN.out 9).trans (by rw [←eP];rfl)
 clear hP
 go_wp2_with fail
 clear c7 c9
 refine (yW P.aE P.nE P.cE P.e (S.now+1) _ (by rw [HP.out.1.nE,HP.out.1.e];exact HTb.out) ⟨by omega,by omega⟩ HO1.out.g.e.g.C7).mono ?_
 rintro e X2 ⟨v,rfl,oA,hbl⟩
 have eT:kd (ig P.nE P.e) (S.now+1)=P.tkL:=by unfold Swg.tkL;rw [HP.out.1.now]
 rw [eT] at oA
 obtain ⟨aE,cE,rfl,og⟩:=oA.og
 have HN:Hid (hG (S.iQ none 0) (P.iQ aE cE)∧ir X2 w.heap.size (P.iQ aE cE)):=⟨HP.out.1.tick _ _ _ _,(HO1.out.up hbl).tick (og.mono HX.out.bel.size)⟩
 replace HX:Hid (Two w S.cells zSw 34 X2):=HX.out.up hbl
 replace HkN:Hid (X2.heap[gN]?=some (.cells P1.cells 34 (0,0))):=(hbl.block _ (gO HkN.out)).trans HkN.out
 have eC:Hid (lay P1.cells 9 #[.slice aE P.tkL.length cE]=(P.iQ aE cE).cells):=by
  rw [Hid,←eP,←HP.out.1.now]
  rfl
 clear oA hbl og eT
 go_wp2_with (refine gW rfl 26 (.tmp 15) (.tmp 14) rfl gN 9 rfl (.slice aE P.tkL.length cE) rfl 1 rfl 34 _ HkN.out wa (Nat.le_of_ble_eq_true rfl) (by simp [Value.cells,Value.oneCell']) ?_)
 intro X3 hP
 replace hP:Put X2 X3 gN (P.iQ aE cE).cells 34:=hP.cast eC.out
 replace HX:Hid (Two w S.cells zSw 34 X3):=HX.out.put hP HgN.out
 replace HN:Hid (hG (S.iQ none 0) (P.iQ aE cE)∧ir X3 w.heap.size (P.iQ aE cE)):=⟨HN.out.1,HN.out.2.off HkN.out hP.to⟩
 have HL:Hid (∀ j,j<17→X3.cell? ⟨gN,0+j,none⟩=(P.iQ aE cE).cells[j]?):=fun j _=>by rw [Nat.zero_add];exact gM hP.blk j
 have HD:Hid (X3.heap[w.heap.size+1]?=some (.cells zSw 34 (0,0))):=HX.out.b
 clear hP eC eP HkN HO1 HP
 go_wp2_with (first | refine gY rfl 34 17 _ Tryz.underlying34 rfl ij (.tmp 3) rfl (gN) 0 rfl (P.iQ aE cE).cells rfl HL.out ?_ | refine gW rfl 34 (.tmp 2) (.tmp 16) rfl (w.heap.size+1) 0 rfl (.agg (P.iQ aE cE).cells) rfl 17 rfl 34 _ HD.out ij (Nat.le_of_ble_eq_true rfl) (Swg.lx _) ?_)
 intro X hP
 replace hP:Put X3 X (w.heap.size+1) (P.iQ aE cE).cells 34:=hP.cast rfl
 have HK:Hid (X.heap[w.heap.size+1]?=some (.cells (P.iQ aE cE).cells 34 (0,0))):=hP.blk
 have HFF:Hid (ir X w.heap.size (P.iQ aE cE)∧Below w.heap.size w X):=⟨HN.out.2.off HD.out hP.to,HX.out.bel.trans (hP.to.below HX.out.bel.size (fun x hx=>by simp at hx;omega))⟩
 clear hP HL HD
 go_wp2_with fail
 exact bodyPost_ret (kI Tryz.results38 17 _ Tryz.underlying34 rfl ij _ _ (w.heap.size+1) (P.iQ aE cE).cells rfl 34 HK.out rfl) rfl ⟨P.iQ aE cE,rfl,HN.out.1,HFF.out.1,HFF.out.2⟩
theorem rl (S:Swg) (w:World) (hs:S.Small) (hr:jK w S) (ok:Bool) (hok:ok=true↔S.Ok) (b:Bool) (hb:b=true↔S.Ok∧S.now≠1000000000) :
  Calls Tryz.prog 14 #[.agg S.cells] w fun e w'=>∃ S2,e=.returned (.tuple #[.agg S2.cells,.bool b])∧hG (ov S b) S2∧ir w' w.heap.size S2∧Below w.heap.size w w':=by
 have HO:Hid (ok=true↔S.Ok):=hok
 have HBB:Hid (b=true↔S.Ok∧S.now≠1000000000):=hb
 have HR:Hid (jK w S):=hr
 have HS:Hid S.Small:=hs
 obtain ⟨W,eW⟩:∃ W,(w.alloc (.cells S.cells 34)).alloc (.cells #[.int .i64 0,.int .i64 0,.int .i64 0,.int .i64 0,.int .i64 0,.int .i64 0,.int .i64 0,.int .i64 0,.int .i64 0,.slice none 0 0,.slice none 0 0,.int .i64 0,.slice none 0 0,.slice none 0 0,.slice none 0 0,.int .i64 0,.int .i64 0] 34)=W:=⟨_,rfl⟩
 have HX:Hid (Two w S.cells zSw 34 W):=by rw [←eW];exact Two.start _ _ _ _
 have HL:Hid (∀ j,j<17→W.cell? ⟨w.heap.size,0+j,none⟩=S.cells[j]?):=fun j _=>by rw [Nat.zero_add];exact gM HX.out.a j
 clear hs hr hok hb
 go_enter Tryz.func14,Tryz.ntmps14
 go_wp2_with (refine gY rfl 34 17 _ Tryz.underlying34 rfl ij (.tmp 1) rfl (w.heap.size) 0 rfl S.cells rfl HL.out ?_)
 clear eW HL
 refine (mJ S _ HS.out (HR.out.up HX.out.bel) ok HO.out).mono ?_
 rintro e w1 ⟨rfl,hbl⟩
 replace HX:Hid (Two w S.cells zSw 34 w1):=HX.out.up hbl
 clear hbl
 have c7:w1.cell? ⟨w.heap.size,7,none⟩=some (.int .i64 S.now):=gM HX.out.a 7
 have HD:Hid (w1.heap[w.heap.size+1]?=some (.cells zSw 34 (0,0))):=HX.out.b
 cases ok
 ·
  have HF:Hid (b=false):=by
   rw [Hid,Bool.eq_false_iff]
   intro e
   have h:=HBB.out.1 e
   exact absurd (HO.out.2 h.1) (by simp)
  exact gF
 have HOk:Hid S.Ok:=HO.out.1 rfl
 by_cases hnow:S.now=1000000000
 ·
  have HNow:Hid (S.now=1000000000):=hnow
  have hnow':(S.now == 1000000000)=true:=by simp [hnow]
  clear hnow
  have HF:Hid (b=false):=by
   rw [Hid,Bool.eq_false_iff]
   intro e
   have h:=HBB.out.1 e
   exact h.2 HNow.out
  exact gF
 have hnow':(S.now == 1000000000)=false:=by simp [hnow]
 have HNow:Hid (S.now≠1000000000):=hnow
 clear hnow
 have HF:Hid (b=true):=HBB.out.2 ⟨HOk.out,HNow.out⟩
 have HL:Hid (∀ j,j<17→w1.cell? ⟨w.heap.size,0+j,none⟩=S.cells[j]?):=fun j _=>by rw [Nat.zero_add];exact gM HX.out.a j
 obtain ⟨ht1,ht2,ht3,ht4,ht5⟩:=xT HOk.out
 have HTb:Hid (jM S.nE S.e):=ht1
 clear ht1
 go_wp2_with (refine gY rfl 34 17 _ Tryz.underlying34 rfl ij (.tmp 1) rfl (w.heap.size) 0 rfl S.cells rfl HL.out ?_)
 clear HL c7 hnow'
 have HW1:Hid (w.heap.size≤w1.heap.size):=HX.out.bel.size
 refine (vW S _ HS.out ht4 ht5 HTb.out ht2 (by have:=HNow.out;omega) (HR.out.up HX.out.bel)).mono ?_
 rintro e w2 ⟨P,rfl,aP,oP,hbl⟩
 replace HX:Hid (Two w S.cells zSw 34 w2):=HX.out.up hbl
 have HN:Hid (hG (ov S b) P∧ir w2 w.heap.size P):=⟨by rw [HF.out,xR];exact aP,oP.mono HW1.out⟩
 replace HD:Hid (w2.heap[w.heap.size+1]?=some (.cells zSw 34 (0,0))):=HX.out.b
 clear aP oP hbl
 go_wp2_with (refine gW rfl 34 (.tmp 2) (.tmp 14) rfl (w.heap.size+1) 0 rfl (.agg P.cells) rfl 17 rfl 34 _ HD.out ij (Nat.le_of_ble_eq_true rfl) (Swg.lx _) ?_)
 intro X hP
 replace hP:Put w2 X (w.heap.size+1) P.cells 34:=hP.cast rfl
 have HK:Hid (X.heap[w.heap.size+1]?=some (.cells P.cells 34 (0,0))):=hP.blk
 have HFF:Hid (ir X w.heap.size P∧Below w.heap.size w X):=⟨HN.out.2.off HD.out hP.to,HX.out.bel.trans (hP.to.below HX.out.bel.size (fun x hx=>by simp at hx;omega))⟩
 clear hP HD
 go_wp2_with fail
 rw [HF.out] at HN ⊢
 exact bodyPost_ret (jI Tryz.results14 17 _ Tryz.underlying34 rfl ij _ _ (w.heap.size+1) P.cells rfl 34 HK.out rfl (.bool true) rfl) rfl ⟨P,rfl,HN.out.1,HFF.out.1,HFF.out.2⟩
theorem iW:(Tryz.prog.info? 34).map (·.size)=some 17:=by kernel_rfl
theorem AM:(Tryz.prog.info? 2).map (·.size)=some 1:=by kernel_rfl
theorem Kept.jm {g:Nat} {W W':World} (h:Kept g W W'):Touch [g] W W':=⟨h.os,h.tape,h.output,h.size,fun k hk hn=>h.block k hk (fun e=>hn (by simp [e]))⟩
def Lo (ga gb:Nat) (T:List Nat):Prop:=∀ x∈T,x≤ga∨x=gb
theorem lM {g:Nat} {T:List Nat} {A B C:World} (h:Touch [g] A B) (k:Touch T B C):Touch (g :: T) A C:=(h.mono (fun x hx=>by simp at hx;simp [hx])).trans (k.mono (fun x hx=>List.mem_cons_of_mem _ hx))
theorem Lo.cons {ga gb g:Nat} {T:List Nat} (h:Lo ga gb T) (hg:g≤ga∨g=gb):Lo ga gb (g :: T):=fun x hx=>by
 rcases List.mem_cons.1 hx with rfl | hx
 ·
  exact hg
 exact h x hx
structure MaS (w W:World) (g ga gb:Nat) (cv:Value) (S:Swg):Prop where
 rd:Rd g cv W
 k:W.heap[gb]?=some (.cells S.cells 34 (0,0))
 z:W.heap[ga]?=some (.cells zSw 34 (0,0))
 hold:∀ T W',Lo ga gb T→Touch T W W'→jK W' S
 ok:S.Ok
 kept:Kept g w W
 lt:g<ga∧ga<gb∧w.heap.size≤ga
theorem MaS.step {w W W':World} {g ga gb:Nat} {cv:Value} {S:Swg} (h:MaS w W g ga gb cv S) (hr:Rd g cv W') (hk:Kept g W W'):MaS w W' g ga gb cv S :=
 ⟨hr,sg hk h.k (by have:=h.lt;omega),sg hk h.z (by have:=h.lt;omega),fun T W2 hT ht=>h.hold (g :: T) W2 (hT.cons (.inl (by have:=h.lt;omega))) (lM hk.jm ht),h.ok,h.kept.trans hk,h.lt⟩
theorem MaS.below {w W W':World} {g ga gb:Nat} {cv:Value} {S:Swg} (h:MaS w W g ga gb cv S) (hb:Below W.heap.size W W'):MaS w W' g ga gb cv S:=h.step (h.rd.below hb) (Kept.iT hb)
theorem MaS.rds {w W:World} {g ga gb:Nat} {cv:Value} {S:Swg} (h:MaS w W g ga gb cv S):jK W S:=h.hold [] W (fun x hx=>by cases hx) (Touch.refl _ _)
theorem Kept.vE {g gb:Nat} {w W W':World} {cs:Array Value} {t:TypeId} (h:Kept g w W) (hP:Put W W' gb cs t) (hb:w.heap.size≤gb):Kept g w W' :=
 ⟨hP.to.os.trans h.os,hP.to.tape.trans h.tape,hP.to.output.trans h.output,Nat.le_trans h.size hP.to.size,fun k hk hn=>(hP.to.block k (Nat.lt_of_lt_of_le hk h.size) (by simp;omega)).trans (h.block k hk hn)⟩
theorem Rd.put {g gb:Nat} {cv:Value} {W W':World} {cs:Array Value} {t:TypeId} (h:Rd g cv W) (hP:Put W W' gb cs t) (hb:g<gb):Rd g cv W' :=
 h.jB (fun k hk=>hP.to.block k (by have:=h.lt;omega) (by simp;omega))
theorem MaS.put {w W W':World} {g ga gb:Nat} {cv:Value} {S S2:Swg} (h:MaS w W g ga gb cv S) (hP:Put W W' gb S2.cells 34) (hh:∀ T W2,Lo ga gb T→Touch T W W2→jK W2 S2) (ho:S2.Ok):MaS w W' g ga gb cv S2 :=
 have l:=h.lt
 ⟨h.rd.put hP (by omega),hP.blk,(hP.to.block ga (gO h.z) (by simp;omega)).trans h.z,fun T W2 hT ht=>hh (gb :: T) W2 (hT.cons (.inr rfl)) (lM hP.to ht),ho,h.kept.vE hP (by omega),h.lt⟩
theorem rV {V:World} {base gb ga:Nat} {S:Swg} (h:jU V base S S.nL) (h1:ga<base) (h2:gb<base):∀ T W,Lo ga gb T→Touch T V W→jK W S:=fun T W hT ht=>(h.low ht (fun x hx=>by have:=hT x hx;omega)).rd
theorem wN.okM {S S':Swg} {port:Int} {fs:List Pkt} {b:Bool} (h:S.Ok) (hp:0≤port∧port≤S.C.p-1) (hm:wN S S' port fs b):S'.Ok∧S'.now=S.now:=by
 rcases hm with ⟨_,_,i,_,hi,hm⟩ | ⟨_,hno,_⟩
 ·
  refine ⟨hm.ok h hi,?_⟩
  obtain ⟨l',id,ht,hm⟩:=hm
  rcases hm with ⟨_,rfl,_⟩ | ⟨_,j,hj,_,_,⟨_,rfl⟩ | ⟨_,rfl⟩⟩ <;> rfl
 exact absurd ⟨h,hp⟩ hno
theorem zu.nowM {S S':Swg} {port:Int} {x:Pkt} {code:Int} (h:S.Ok) (hm:zu S S' port x code):S'.now=S.now:=by
 have hl:∀ (P:Swg) p,(P.oK p).now=P.now:=fun P p=>by unfold Swg.oK;split <;> rfl
 rcases hm with ⟨hn,_⟩ | ⟨_,_,rfl,_⟩ | ⟨_,_,i,_,_,⟨_,rfl,_⟩ | ⟨_,⟨_,rfl,_⟩ | ⟨_,_,rfl,_⟩ | ⟨_,_,_,rfl,_⟩⟩⟩
 ·
  exact absurd h hn
 ·
  rfl
 ·
  rfl
 ·
  rfl
 ·
  rw [hl];rfl
 rfl
structure MaE (w W:World) (g:Nat) (cv:Value) (S:Swg):Prop where
 rd:Rd g cv W
 hold:∀ T W',(∀ x∈T,x≤w.heap.size)→Touch T W W'→jK W' S
 sm:S.Small
 kept:Kept g w W
theorem jK.nx {W:World} {S:Swg} (h:jK W S) (v:Int):jK W { S with nx:=v }:=⟨h.e,h.n,h.k,h.l,h.ls⟩
theorem jK.lo {W:World} {S:Swg} (h:jK W S) (v:Int):jK W { S with N:={ S.N with lo:=v } }:=⟨h.e,⟨h.n.u,h.n.p⟩,h.k,h.l,h.ls⟩
theorem maM {w W W':World} {g ga gb:Nat} {cv:Value} {S S2:Swg} (h:MaS w W g ga gb cv S) (hP:Put W W' gb S2.cells 34) (hh:∀ V,jK V S→jK V S2) (hs:S2.Small) :
  W'.heap[gb]?=some (.cells S2.cells 34 (0,0))∧W'.heap[ga]?=some (.cells zSw 34 (0,0))∧Rd g cv W'∧(∀ T V,Lo ga gb T→Touch T W' V→jK V S2)∧S2.Small∧Kept g w W' :=
 have l:=h.lt
 ⟨hP.blk,(hP.to.block ga (gO h.z) (by simp;omega)).trans h.z,h.rd.put hP (by omega),fun T V hT ht=>hh V (h.hold (gb :: T) V (hT.cons (.inr rfl)) (lM hP.to ht)),hs,h.kept.vE hP (by omega)⟩
theorem CU {p:Prop} (h:p:=by
  go_wp2_with fail
  refine (iN g cv (most+1) _ HX.out.rd (by omega) (by omega)).mono ?_
  rintro e w3 ⟨x,hx,rfl,hr,hk⟩
  replace HX:Hid (MaS w w3 g w.heap.size gb cv S1):=HX.out.step hr hk
  clear hr hk hw1
  go_wp2_with fail
  go_loopw [7] (fun s wr=>∃ (k:Nat) (S:Swg),(k:Int)≤100∧S.now+k≤100∧s=.int .i64 k∧Hid (MaS w wr g w.heap.size gb cv S)) (fun s _=>(intOf s).toNat)
  case atStart=>exact ⟨x,S1,by omega,by omega,rfl,HX⟩
  case round =>
   clear HX hnow
   obtain ⟨k,S,hk1,hk2,rfl,HX⟩:=hrel
   by_cases hlt:0<k
   ·
    have hlt':(0:Int)<(k:Int):=by omega
    have c0:wr.cell? ⟨gb,0,none⟩=some (.int .i64 S.C.p):=gM HX.out.k 0
    have hp:=HX.out.ok.n.c.num.p
    have hnw:=HX.out.ok.nums.now
    go_wp2_with fail
    clear c0
    refine (iN g cv S.C.p _ HX.out.rd (by omega) (by omega)).mono ?_
    rintro e v1 ⟨pt,hpt,rfl,hr,hk⟩
    replace HX:Hid (MaS w v1 g w.heap.size gb cv S):=HX.out.step hr hk
    clear hr hk
    go_wp2_with fail
    refine (iN g cv 5 _ HX.out.rd (by omega) (by omega)).mono ?_
    rintro e v2 ⟨q,hq,rfl,hr,hk⟩
    replace HX:Hid (MaS w v2 g w.heap.size gb cv S):=HX.out.step hr hk
    clear hr hk
    by_cases hq2:q=2
    ·
     have hq':((q:Int) == 2)=true:=by simp;omega
     clear hq2
     have HL:Hid (∀ j,j<17→v2.cell? ⟨gb,0+j,none⟩=S.cells[j]?):=fun j _=>by rw [Nat.zero_add];exact gM HX.out.k j
     go_wp2_with (refine gY rfl 34 17 _ Tryz.underlying34 rfl iW (.tmp 5) rfl gb 0 rfl S.cells rfl HL.out ?_)
     clear HL
     obtain ⟨S',fs,b,hsb⟩:=BR S (pt:Int)
     obtain ⟨o1,o2⟩:=hsb.okM HX.out.ok (by omega)
     refine (zQ S S' (pt:Int) fs _ HX.out.ok.small HX.out.rds b hsb).mono ?_
     rintro e v3 ⟨S2,a,c,rfl,ha,hh,_,hb⟩
     have hz:=gO HX.out.k
     have HH:Hid ((∀ T W,Lo w.heap.size gb T→Touch T v3 W→jK W S2)∧S2.Ok):=⟨rV hh (by have:=HX.out.lt;omega) hz,ha.ok1 o1⟩
     have hn2:S2.now=S.now:=ha.now.trans o2
     replace HX:Hid (MaS w v3 g w.heap.size gb cv S):=HX.out.below hb
     have HK:Hid (v3.heap[gb]?=some (.cells S.cells 34 (0,0))):=HX.out.k
     clear hb ha hh hsb o1 o2 hz
     go_wp2_with (refine gW rfl 34 (.tmp 5) (.tmp 51) rfl gb 0 rfl (.agg S2.cells) rfl 17 rfl 34 _ HK.out iW (Nat.le_of_ble_eq_true rfl) (Swg.lx _) ?_)
     intro Y hP
     replace hP:Put v3 Y gb S2.cells 34:=hP.cast rfl
     exact gI
    have hq':((q:Int) == 2)=false:=by simp;omega
    by_cases hq3:q=3
    ·
     have hq4:((q:Int) == 3)=true:=by simp;omega
     clear hq2 hq3
     go_wp2_with fail
     refine (ya g cv 2 _ HX.out.rd (by omega) (by omega)).mono ?_
     rintro e v3 ⟨bb,rfl,hr,hk⟩
     replace HX:Hid (MaS w v3 g w.heap.size gb cv S):=HX.out.step hr hk
     clear hr hk
     cases bb
     ·
      go_wp2_with fail
      go_roundw
      case rel=>exact ⟨k-1,S,by omega,by omega,by go_num,HX⟩
      case measure=>simp [intOf];omega
     have HL:Hid (∀ j,j<17→v3.cell? ⟨gb,0+j,none⟩=S.cells[j]?):=fun j _=>by rw [Nat.zero_add];exact gM HX.out.k j
     go_wp2_with (refine gY rfl 34 17 _ Tryz.underlying34 rfl iW (.tmp 5) rfl gb 0 rfl S.cells rfl HL.out ?_)
     clear HL
     refine (rl S _ HX.out.ok.small HX.out.rds true ⟨fun _=>HX.out.ok,fun _=>rfl⟩ true ⟨fun _=>⟨HX.out.ok,by omega⟩,fun _=>rfl⟩).mono ?_
     rintro e v4 ⟨S2,rfl,ha,ho,hb⟩
     have hz:=gO HX.out.k
     have HH:Hid ((∀ T W,Lo w.heap.size gb T→Touch T v4 W→jK W S2)∧S2.Ok):=⟨rV (ho.half _) (by have:=HX.out.lt;omega) hz,ha.ok1 (HX.out.ok.tick (by omega) none 0)⟩
     have hn2:S2.now=S.now+1:=ha.now
     replace HX:Hid (MaS w v4 g w.heap.size gb cv S):=HX.out.below hb
     have HK:Hid (v4.heap[gb]?=some (.cells S.cells 34 (0,0))):=HX.out.k
     clear hb ha ho hz
     go_wp2_with (refine gW rfl 34 (.tmp 5) (.tmp 61) rfl gb 0 rfl (.agg S2.cells) rfl 17 rfl 34 _ HK.out iW (Nat.le_of_ble_eq_true rfl) (Swg.lx _) ?_)
     intro Y hP
     replace hP:Put v4 Y gb S2.cells 34:=hP.cast rfl
     exact gI
    have hq4:((q:Int) == 3)=false:=by simp;omega
    clear hq2 hq3
    go_wp2_with fail
    refine qW (fun w'=>w'.heap[gb]?=some (.cells S.cells 34 (0,0))) 8 (by kernel_rfl) ?_
    replace HX:Hid (MaS w v2.drew g w.heap.size gb cv S):=HX.out.below ((Below.refl _ _).drew)
    generalize v2.drew=V at *
    have hT0:=HX.out.k
    refine vw (i:=0) (some 38) (v:=.agg S.cells) (fun wx hSw=>jn 34 17 _ Tryz.underlying34 rfl iW (.tmp 5) rfl gb 0 rfl S.cells rfl (fun j _=>by rw [Nat.zero_add];exact gM hSw j)) hT0 ?_
    try simp only [Act.put,PZ]
    refine tG 1 39 hT0 ?_
    refine tG 2 40 hT0 ?_
    refine jf (rs:=[3]) (by kernel_rfl) (by simp) ?_
    refine iF.cons rfl (fun K hK=>?_) iF.nil
    go_simp
    refine (AZ g cv _ HX.out.rd).mono ?_
    rintro e v3 ⟨fk,fd,fs,fp,fb,hfb,rfl,hr,hk⟩
    replace HX:Hid (MaS w v3 g w.heap.size gb cv S):=HX.out.step hr hk
    clear hr hk hT0
    have hT3:=HX.out.k
    go_wp2_with fail
    refine hK.out _ _ hT3 ?_
    clear hK K
    try simp only [Act.put,PZ]
    refine jf (rs:=[4]) (by kernel_rfl) (by simp) ?_
    refine iF.cons rfl (fun K hK=>?_) iF.nil
    go_simp
    obtain ⟨y,ey⟩:∃ y:Pkt,(⟨0,0,0,fk,fd,fs,fp,fb⟩:Pkt)=y:=⟨_,rfl⟩
    have eF:(#[.int .i64 fk,.int .i64 fd,.int .i64 fs,.int .i64 fp,.string fb]:Array Value)=y.frc:=by rw [←ey];rfl
    have hyb:y.b.size≤1048576:=by rw [←ey];show fb.size≤_;omega
    rw [eF]
    clear eF ey hfb
    obtain ⟨S',code,hm⟩:=Ej S (pt:Int) y
    have o1:=hm.ok HX.out.ok
    have o2:=hm.nowM HX.out.ok
    refine (vB S S' (pt:Int) y code _ HX.out.ok.small HX.out.rds hyb hm).mono ?_
    rintro e v4 ⟨S2,rfl,ha,ho,hb⟩
    have hz:=gO HX.out.k
    have HH:Hid ((∀ T W,Lo w.heap.size gb T→Touch T v4 W→jK W S2)∧S2.Ok):=⟨rV (ho.half _) (by have:=HX.out.lt;omega) hz,ha.ok1 o1⟩
    have hn2:S2.now=S.now:=ha.now.trans o2
    replace HX:Hid (MaS w v4 g w.heap.size gb cv S):=HX.out.below hb
    clear hb ha ho hz hm o1 o2 hyb hT3
    have hT4:=HX.out.k
    go_wp2_with fail
    refine hK.out _ _ hT4 ?_
    clear hK K
    try simp only [Act.put,PZ]
    refine tG 5 37 hT4 ?_
    refine tG 6 43 hT4 ?_
    refine jf (rs:=[7,8]) (by kernel_rfl) (by simp) ?_
    refine iF.cons rfl (fun K hK=>?_) (iF.last rfl (fun K hK=>?_))
    ·
     go_simp
     refine hK.out _ _ hT4 ?_
     clear hK K
     try simp only [Act.put,PZ]
     refine jf (rs:=[8]) (by kernel_rfl) (by simp) ?_
     refine iF.last rfl (fun K hK=>?_)
     refine jP (by kernel_rfl) none rfl 34 (.tmp 5) (.tmp 43) rfl gb 0 rfl (.agg S2.cells) rfl 17 rfl 34 _ HX.out.k iW (Nat.le_of_ble_eq_true rfl) (Swg.lx _) ?_
     intro Y hP
     exact gH
    refine jP (by kernel_rfl) none rfl 34 (.tmp 5) (.tmp 43) rfl gb 0 rfl (.agg S2.cells) rfl 17 rfl 34 _ HX.out.k iW (Nat.le_of_ble_eq_true rfl) (Swg.lx _) ?_
    intro Y hP
    refine hK.out _ _ ?_
    clear hK K
    try simp only [Act.put,PZ]
    refine jf (rs:=[7]) (by kernel_rfl) (by simp) ?_
    refine iF.late rfl (by kernel_rfl) (fun K hK=>?_)
    go_simp
    exact gH
   ·
    obtain rfl:k=0:=by omega
    have hlt':¬ (0:Int)<((0:Nat):Int):=by omega
    clear hk1 hk2
    go_wp2_with fail
    refine (iN g cv 40 _ HX.out.rd (by omega) (by omega)).mono ?_
    rintro e v1 ⟨q,hq,rfl,hr,hk⟩
    replace HX:Hid (MaS w v1 g w.heap.size gb cv S):=HX.out.step hr hk
    clear hr hk hlt hlt'
    by_cases hq2:q=38
    ·
     have hq':((q:Int) == 38)=true:=by simp;omega
     clear hq2
     go_wp2_with fail
     refine (ru g cv 1 9 _ HX.out.rd (by omega) (by omega) (by omega)).mono ?_
     rintro e v2 ⟨x9,rfl,hr,hk⟩
     replace HX:Hid (MaS w v2 g w.heap.size gb cv S):=HX.out.step hr hk
     have HK:Hid (v2.heap[gb]?=some (.cells S.cells 34 (0,0))):=HX.out.k
     clear hr hk
     go_wp2_with (refine gW rfl 2 (.tmp 69) (.tmp 68) rfl gb 8 rfl (.int .i64 x9) rfl 1 rfl 34 _ HK.out AM (Nat.le_of_ble_eq_true rfl) (by simp [Value.cells,Value.oneCell']) ?_)
     intro X9 hP
     obtain ⟨S9,eS9⟩:∃ S9,({ S with nx:=x9 }:Swg)=S9:=⟨_,rfl⟩
     replace hP:Put v2 X9 gb S9.cells 34:=hP.cast (by rw [←eS9];rfl)
     have HM:Hid (X9.heap[gb]?=some (.cells S9.cells 34 (0,0))∧X9.heap[w.heap.size]?=some (.cells zSw 34 (0,0))∧Rd g cv X9∧(∀ T W,Lo w.heap.size gb T→Touch T X9 W→jK W S9)∧S9.Small∧Kept g w X9):=maM HX.out hP (fun W h=>by rw [←eS9];exact h.nx _) (by rw [←eS9];have h:=HX.out.ok.small;exact ⟨h.e,h.n,h.k,h.b,h.l,h.ls⟩)
     exact gy
    have hq':((q:Int) == 38)=false:=by simp;omega
    by_cases hq3:q=39
    ·
     have hq4:((q:Int) == 39)=true:=by simp;omega
     clear hq2 hq3
     go_wp2_with fail
     refine (ru g cv 0 9 _ HX.out.rd (by omega) (by omega) (by omega)).mono ?_
     rintro e v2 ⟨x9,rfl,hr,hk⟩
     replace HX:Hid (MaS w v2 g w.heap.size gb cv S):=HX.out.step hr hk
     have HK:Hid (v2.heap[gb]?=some (.cells S.cells 34 (0,0))):=HX.out.k
     clear hr hk
     go_wp2_with (refine gW rfl 2 (.tmp 75) (.tmp 73) rfl gb 11 rfl (.int .i64 x9) rfl 1 rfl 34 _ HK.out AM (Nat.le_of_ble_eq_true rfl) (by simp [Value.cells,Value.oneCell']) ?_)
     intro X9 hP
     obtain ⟨S9,eS9⟩:∃ S9,({ S with N:={ S.N with lo:=x9 } }:Swg)=S9:=⟨_,rfl⟩
     replace hP:Put v2 X9 gb S9.cells 34:=hP.cast (by rw [←eS9];rfl)
     have HM:Hid (X9.heap[gb]?=some (.cells S9.cells 34 (0,0))∧X9.heap[w.heap.size]?=some (.cells zSw 34 (0,0))∧Rd g cv X9∧(∀ T W,Lo w.heap.size gb T→Touch T X9 W→jK W S9)∧S9.Small∧Kept g w X9):=maM HX.out hP (fun W h=>by rw [←eS9];exact h.lo _) (by rw [←eS9];have h:=HX.out.ok.small;exact ⟨h.e,⟨h.n.u,h.n.p⟩,h.k,h.b,h.l,h.ls⟩)
     exact gy
    have hq4:((q:Int) == 39)=false:=by simp;omega
    clear hq2 hq3
    have HM:Hid (v1.heap[gb]?=some (.cells S.cells 34 (0,0))∧v1.heap[w.heap.size]?=some (.cells zSw 34 (0,0))∧Rd g cv v1∧(∀ T W,Lo w.heap.size gb T→Touch T v1 W→jK W S)∧S.Small∧Kept g w v1):=⟨HX.out.k,HX.out.z,HX.out.rd,HX.out.hold,HX.out.ok.small,HX.out.kept⟩
    clear HX
    have HL:Hid (∀ j,j<17→v1.cell? ⟨gb,0+j,none⟩=S.cells[j]?):=fun j _=>by rw [Nat.zero_add];exact gM HM.out.1 j
    have HZ:Hid (v1.heap[w.heap.size]?=some (.cells zSw 34 (0,0))):=HM.out.2.1
    go_wp2_with (first | refine gY rfl 34 17 _ Tryz.underlying34 rfl iW (.tmp 5) rfl gb 0 rfl S.cells rfl HL.out ?_ | refine gW rfl 34 (.tmp 4) (.tmp 76) rfl w.heap.size 0 rfl (.agg S.cells) rfl 17 rfl 34 _ HZ.out iW (Nat.le_of_ble_eq_true rfl) (Swg.lx _) ?_)
    intro Y hP
    replace hP:Put v1 Y w.heap.size S.cells 34:=hP.cast rfl
    have HR:Hid (Y.heap[w.heap.size]?=some (.cells S.cells 34 (0,0))):=hP.blk
    have HE:Hid (MaE w Y g cv S):=⟨HM.out.2.2.1.put hP hg,fun T W hT ht=>HM.out.2.2.2.1 (w.heap.size :: T) W (fun x hx=>by rcases List.mem_cons.1 hx with rfl | hx;exact .inl (Nat.le_refl _);exact .inl (hT x hx)) (lM hP.to ht),HM.out.2.2.2.2.1,HM.out.2.2.2.2.2.vE hP (Nat.le_refl _)⟩
    clear hP HL HZ HM
    go_wp2_with fail
    exact bodyPost_ret (kI Tryz.results19 17 _ Tryz.underlying34 rfl iW _ _ w.heap.size S.cells rfl 34 HR.out rfl) rfl ⟨S,rfl,HE.out⟩):p:=h
theorem xr (g:Nat) (cv:Value) (most:Int) (w:World) (h:Rd g cv w) (h0:0≤most) (h1:most≤100) :
  Calls Tryz.prog 19 #[.pointer (some ⟨g,0,none⟩),.int .i64 most] w fun e w'=>∃ S:Swg,e=.returned (.agg S.cells)∧MaE w w' g cv S:=by
 have hg:=h.lt
 have HA:Hid (Rd g cv (w.alloc (.cells #[.int .i64 0,.int .i64 0,.int .i64 0,.int .i64 0,.int .i64 0,.int .i64 0,.int .i64 0,.int .i64 0,.int .i64 0,.slice none 0 0,.slice none 0 0,.int .i64 0,.slice none 0 0,.slice none 0 0,.slice none 0 0,.int .i64 0,.int .i64 0] 34))∧Kept g w (w.alloc (.cells #[.int .i64 0,.int .i64 0,.int .i64 0,.int .i64 0,.int .i64 0,.int .i64 0,.int .i64 0,.int .i64 0,.int .i64 0,.slice none 0 0,.slice none 0 0,.int .i64 0,.slice none 0 0,.slice none 0 0,.slice none 0 0,.int .i64 0,.int .i64 0] 34))∧(w.alloc (.cells #[.int .i64 0,.int .i64 0,.int .i64 0,.int .i64 0,.int .i64 0,.int .i64 0,.int .i64 0,.int .i64 0,.int .i64 0,.slice none 0 0,.slice none 0 0,.int .i64 0,.slice none 0 0,.slice none 0 0,.slice none 0 0,.int .i64 0,.int .i64 0] 34)).heap[w.heap.size]?=some (.cells zSw 34 (0,0))):=⟨h.alloc _,(Kept.refl _ _).alloc _,gV _ _⟩
 obtain ⟨W,eW⟩:∃ W,w.alloc (.cells #[.int .i64 0,.int .i64 0,.int .i64 0,.int .i64 0,.int .i64 0,.int .i64 0,.int .i64 0,.int .i64 0,.int .i64 0,.slice none 0 0,.slice none 0 0,.int .i64 0,.slice none 0 0,.slice none 0 0,.slice none 0 0,.int .i64 0,.int .i64 0] 34)=W:=⟨_,rfl⟩
 rw [eW] at HA
 have hw1:IntKind.i64.wrap (most+1)=most+1:=kY _ (by omega) (by omega)
 clear h
 go_enter Tryz.func19,Tryz.ntmps19
 go_wp2_with fail
 clear eW
 refine (zj g cv _ HA.out.1).mono ?_
 rintro e w1 ⟨C,rfl,hp1,hp2,hr,hk⟩
 replace HA:Hid (Rd g cv w1∧Kept g w w1∧w1.heap[w.heap.size]?=some (.cells zSw 34 (0,0))):=⟨hr,HA.out.2.1.trans hk,sg hk HA.out.2.2 (by omega)⟩
 have hz1:w.heap.size<w1.heap.size:=gO HA.out.2.2
 clear hr hk
 obtain ⟨n,hn⟩:∃ n:Nat,C.p=(n:Int):=⟨C.p.toNat,by omega⟩
 obtain ⟨ok,hok⟩:=rr C.Ok
 have HO:Hid (ok=true↔C.Ok):=hok
 have HN:Hid (C.p=(n:Int)):=hn
 clear hok hn hp1 hp2
 go_wp2_with fail
 refine (oy C n _ (fun _=>HN.out) ok HO.out).mono ?_
 rintro e w2 ⟨S0,rfl,hS,hb⟩
 replace HA:Hid (Rd g cv w2∧Kept g w w2∧w2.heap[w.heap.size]?=some (.cells zSw 34 (0,0))):=⟨HA.out.1.below hb,HA.out.2.1.trans (Kept.iT hb),(hb.block _ (gO HA.out.2.2)).trans HA.out.2.2⟩
 have HNS:Hid (sk w2 w1.heap.size C n ok S0∧w.heap.size<w1.heap.size):=⟨hS,hz1⟩
 clear hb hS hz1
 obtain ⟨G0,eG0⟩:∃ G0,S0.toG=G0:=⟨_,rfl⟩
 rw [S0.vr,eG0]
 have HG:Hid ((w2.alloc (.cells #[.int .i64 0,.int .i64 0,.int .i64 0,.int .i64 0,.int .i64 0,.int .i64 0,.int .i64 0,.int .i64 0,.int .i64 0,.slice none 0 0,.slice none 0 0,.int .i64 0,.slice none 0 0,.slice none 0 0,.slice none 0 0,.int .i64 0,.int .i64 0] 34)).heap[w2.heap.size]?=some (.cells #[.int .i64 0,.int .i64 0,.int .i64 0,.int .i64 0,.int .i64 0,.int .i64 0,.int .i64 0,.int .i64 0,.int .i64 0,.slice none 0 0,.slice none 0 0,.int .i64 0,.slice none 0 0,.slice none 0 0,.slice none 0 0,.int .i64 0,.int .i64 0] 34 (0,0))):=gV _ _
 go_wp2_with (refine gW rfl 34 (.tmp 5) (.tmp 13) rfl w2.heap.size 0 rfl (.agg G0.cells) rfl 17 rfl 34 _ HG.out iW (Nat.le_of_ble_eq_true rfl) (Swg.lx _) ?_)
 intro X hP
 replace hP:Put _ X w2.heap.size G0.cells 34:=hP.cast rfl
 have hbX:Below w2.heap.size w2 X:=((Below.refl _ _).alloc (Nat.le_refl _) _).trans (hP.to.below (by simp) (fun y hy=>by simp at hy;omega))
 have HK:Hid (X.heap[w2.heap.size]?=some (.cells G0.cells 34 (0,0))):=hP.blk
 have hlt2:w.heap.size<w2.heap.size:=gO HA.out.2.2
 have HX:Hid (Rd g cv X∧Kept g w X∧X.heap[w.heap.size]?=some (.cells zSw 34 (0,0))):=⟨HA.out.1.below hbX,HA.out.2.1.trans (Kept.iT hbX),(hbX.block _ (gO HA.out.2.2)).trans HA.out.2.2⟩
 have HH:Hid (ok=true→(∀ T W,Lo w.heap.size w2.heap.size T→Touch T X W→jK W G0)∧G0.Ok∧G0.now=0):=by
  rintro rfl
  have hC:=HO.out.1 rfl
  obtain ⟨q1,q2,q3,q4,q5,q6,q7,gg,bb,q8⟩:=HNS.out.1
  refine ⟨fun T W hT ht=>?_,?_,by rw [←eG0];rfl⟩
  ·
   have hT2:Touch (T.filter fun x=>decide (x<w2.heap.size)) w2 W:=⟨(ht.os.trans hbX.os),(ht.tape.trans hbX.tape),(ht.output.trans hbX.output),Nat.le_trans hbX.size ht.size,fun k hk hn=>(ht.block k (Nat.lt_of_lt_of_le hk hbX.size) (fun h9=>hn (List.mem_filter.2 ⟨h9,by simpa using hk⟩))).trans (hbX.block k hk)⟩
   rw [←eG0]
   exact (q8.FK hT2 (fun x hx=>by obtain ⟨h8,h9⟩:=List.mem_filter.1 hx;have h7:=hT x h8;simp at h9;have:=HNS.out.2;omega)).rd.g
  rw [←eG0]
  exact (sk.g HNS.out.1).ok1 (Ah hC HN.out.symm)
 clear hP HG HA hbX eG0 HNS
 obtain ⟨gb,egb⟩:∃ gb,w2.heap.size=gb:=⟨_,rfl⟩
 rw [egb] at HK HH hlt2 ⊢
 clear egb
 cases ok
 ·
  have C0:Cfg.Ok ⟨2,60,4,2,15,10,1⟩:=⟨⟨by decide,by decide,by decide,by decide,by decide,by decide,by decide⟩,by decide,by decide⟩
  have HC0:Hid (Cfg.Ok ⟨2,60,4,2,15,10,1⟩):=C0
  clear C0
  go_wp2_with fail
  refine (oy ⟨2,60,4,2,15,10,1⟩ 2 _ (fun _=>rfl) true ⟨fun _=>HC0.out,fun _=>rfl⟩).mono ?_
  rintro e w3 ⟨S1,rfl,hS,hb⟩
  have HX3:Hid (Rd g cv w3∧Kept g w w3∧w3.heap[w.heap.size]?=some (.cells zSw 34 (0,0))):=⟨HX.out.1.below hb,HX.out.2.1.trans (Kept.iT hb),(hb.block _ (gO HX.out.2.2)).trans HX.out.2.2⟩
  have HK3:Hid (w3.heap[gb]?=some (.cells G0.cells 34 (0,0))):=(hb.block _ (gO HK.out)).trans HK.out
  have hzz:gb<X.heap.size:=gO HK.out
  have HNS:Hid (sk w3 X.heap.size ⟨2,60,4,2,15,10,1⟩ 2 true S1):=hS
  clear hb hS
  obtain ⟨G1,eG1⟩:∃ G1,S1.toG=G1:=⟨_,rfl⟩
  rw [S1.vr,eG1]
  go_wp2_with (refine gW rfl 34 (.tmp 5) (.tmp 20) rfl gb 0 rfl (.agg G1.cells) rfl 17 rfl 34 _ HK3.out iW (Nat.le_of_ble_eq_true rfl) (Swg.lx _) ?_)
  intro Y hP
  replace hP:Put w3 Y gb G1.cells 34:=hP.cast rfl
  have HM:Hid (MaS w Y g w.heap.size gb cv G1):=by
   have q:=HX3.out
   obtain ⟨_,_,_,_,_,_,_,gg,bb,q8⟩:=HNS.out
   refine ⟨q.1.put hP (by omega),hP.blk,(hP.to.block _ (gO q.2.2) (by simp;omega)).trans q.2.2,fun T W hT ht=>?_,?_,q.2.1.vE hP (by omega),by omega⟩
   ·
    rw [←eG1]
    exact (q8.FK (lM hP.to ht) (fun x hx=>by have:=(hT.cons (.inr rfl):Lo w.heap.size gb (gb :: T)) x hx;omega)).rd.g
   rw [←eG1]
   exact (sk.g HNS.out).ok1 (Ah HC0.out rfl)
  have hnow:G1.now=0:=by rw [←eG1];rfl
  clear hP eG1 HNS HX3 HK3 HX HK HH HC0
  obtain ⟨S1,HX,hnow⟩:∃ S1,Hid (MaS w Y g w.heap.size gb cv S1)∧S1.now=0:=⟨G1,HM,hnow⟩
  clear HM
  exact CU
 have HM:Hid (MaS w X g w.heap.size gb cv G0):=⟨HX.out.1,HK.out,HX.out.2.2,(HH.out rfl).1,(HH.out rfl).2.1,HX.out.2.1,by omega⟩
 have hnow:=(HH.out rfl).2.2
 clear HX HK HH
 obtain ⟨S1,HX,hnow⟩:∃ S1,Hid (MaS w X g w.heap.size gb cv S1)∧S1.now=0:=⟨G0,HM,hnow⟩
 clear HM
 exact CU
end Go.Proofs.YthicmlolanifhaaGreat
