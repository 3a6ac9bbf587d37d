import Derived.Test.YtjippgbmmlcgoaaGreatDoorB18
import Derived.Test.YtjippgbmmlcgoaaGreatDoorB31
import Derived.Test.YtjippgbmmlcgoaaGreatDoorB37
namespace Go.Proofs.YtjippgbmmlcgoaaGreatDoor
set_option maxRecDepth 100000
set_option maxHeartbeats 9000000
open Go.RowKit
set_option linter.unusedVariables false
set_option linter.unusedSimpArgs false
variable {cs:Array Value} {port:Int} {T:List Nat} {g g0 g5 ga gb:Nat} {x:Pkt} {p:Prop} {S S' S2:Swg} {t:TypeId} {cv:Value} {W W' Y w w1 w2:World}
theorem Ia (h:p:=by
 clear hP eS9 HX HK
 have HL:Hid (∀ j,j<17→X9.cell? ⟨gb,0+j,none⟩=S9.cells[j]?):=fun j _=>by rw [Nat.zero_add];exact ie HM.1 j
 have HZ:=aa HM.2.1
 go_wp2_with (first | refine ir rfl 34 17 _ Tryz.underlying34 rfl iX (.tmp 5) rfl gb 0 rfl S9.cells rfl HL.out ?_ | refine iq rfl 34 (.tmp 4) (.tmp 76) rfl w.heap.size 0 rfl (.agg S9.cells) rfl 17 rfl 34 _ HZ iX (Nat.le_of_ble_eq_true rfl) (Swg.lF _) ?_)
 intro Y hP
 replace hP:Put X9 Y w.heap.size S9.cells 34:=hP.cast rfl
 have HR:=aa hP.blk
 have HE:Hid (MaE w Y g cv S9):=⟨HM.2.2.1.put hP hg,fun T W hT ht=>HM.2.2.2.1 (w.heap.size :: T) W (fun x hx=>by rcases List.mem_cons.1 hx with rfl | hx;exact .inl (Nat.le_refl _);exact .inl (hT x hx)) (mi hP.to ht),HM.2.2.2.2.1.1,HM.2.2.2.2.1.2,HM.2.2.2.2.2.wE hP (Nat.le_refl _)⟩
 clear hP HL HZ HM
 go_wp2_with fail
 exact bodyPost_ret (ll Tryz.results13 17 _ Tryz.underlying34 rfl iX _ _ w.heap.size S9.cells rfl 34 HR.out rfl) rfl ⟨S9,rfl,HE⟩):p:=h
theorem gT (h:p:=by
 go_wp2_with (refine iq rfl 34 (.tmp 2) (.tmp 12) rfl (w.heap.size+1) 0 rfl (.agg ab) rfl 17 rfl 34 _ HD iA (Nat.le_of_ble_eq_true rfl) (by simp [Value.cells,Value.oneCell']) ?_)
 intro X hP
 replace hP:Put w1 X (w.heap.size+1) lY.cells 34:=hP.cast rfl
 have HK:=aa hP.blk
 have HB2:Hid (Below w.heap.size w X):=HX.bel.trans (hP.to.below HX.bel.size (fun x hx=>by simp at hx;omega))
 clear hP c7
 go_wp2_with fail
 rw [HF.out]
 exact bodyPost_ret (jO Tryz.results41 17 _ Tryz.underlying34 rfl iA _ _ (w.heap.size+1) lY.cells rfl 34 HK.out rfl (.bool false) rfl) rfl ⟨lY,rfl,iw.refl _,rG _ _,HB2⟩):p:=h
theorem gV (h:p:=by
 intro Z hQ
 replace hQ:Put Y Z (w.heap.size+1) y.frc 36:=hQ.cast rfl
 have HF:=aa (HX.fin HE.1 HE.2 hP hQ)
 have hS9:(fun w':World=>w'.heap[g5]?=some (.cells S.cells 34 (0,0))) Z:=(hQ.to.block _ (ig HY.2) (by have:=HX.lt;simp;omega)).trans HY.2
 refine ah (hK _ _ hS9) ?_
 intro hHeld
 clear hK K
 refine dnq ?_
 clear hP hQ hS9 hHeld HX HY
 go_wp2_with fail
 exact bodyPost_ret (zD Tryz.results5 17 _ Tryz.underlying34 rfl iX 5 _ Tryz.underlying36 rfl oB _ _ w.heap.size (w.heap.size+1) S.cells y.frc rfl rfl 34 36 HF.1 HF.2.1 rfl rfl _ rfl) rfl ⟨S,_,y,rfl,HE.1.sm,HE.1.low,hyb,HF.2.2.1,HF.2.2.2⟩):p:=h
theorem gW (h:p:=by
 have HK:=aa hP.blk
 have HB2:Hid (Below w.heap.size w X):=HX.bel.trans (hP.to.below HX.bel.size (fun x hx=>by simp at hx;omega))
 clear hP
 go_wp2_with fail
 rw [HF.1,HF.2.1,HF.2.2]
 exact bodyPost_ret (tU Tryz.results40 17 _ Tryz.underlying34 rfl iA _ _ (w.heap.size+1) lY.cells rfl 34 HK.out rfl (.slice none 0 0) rfl (.bool false) rfl) rfl ⟨lY,none,0,rfl,iw.refl _,(rG _ _).half _,OG.nil _ _ _ _,HB2⟩):p:=h
theorem gX (h:p:=by
 go_wp2_with fail
 go_roundw
 case rel=>exact ⟨k-1,S2,by omega,by omega,by go_num,HN⟩
 case measure=>simp [intOf];omega):p:=h
theorem gY (h:p:=by
 refine ah (hK _ _) ?_
 clear hK K
 refine nh (by kernel_rfl) ?_ _
 replace hP:Put v4 Y gb S2.cells 34:=hP.cast rfl
 have HN:=aa (HX.put hP HH.1 HH.2)
 clear hP HH HX
 exact gX):p:=h
theorem gZ (h:p:=by
 exact ⟨rfl,by show S.dr+S.lst≤_;omega⟩):p:=h
theorem hG (h:p:=by
 have HN:=aa (HX.put hP HH.1 HH.2)
 clear hP HH HK HX
 exact gX):p:=h
theorem qZ (S S':Swg) (port:Int) (x:Pkt) (code:Int) (w:World) (hs:S.Small) (hr:lr w S) (hxb:x.b.size≤1048576) (hm:xG S S' port x code) :
  Calls Tryz.prog 7 #[.agg S.cells,.int .i64 port,.agg x.frc] w fun e w'=>∃ S2,e=.returned (.tuple #[.agg S2.cells,.int .i64 code])∧iw S' S2∧iG w' w.heap.size S2∧Below w.heap.size w w':=by
 obtain ⟨ok,hok⟩:=ju S.Ok
 have HO:=aa hok
 have HM:=aa hm
 have HR:=aa hr
 have HS:=aa hs
 obtain ⟨W,eW⟩:∃ W,((w.alloc (.cells S.cells 34)).alloc (.cells x.frc 36)).alloc (.cells ab 34)=W:=⟨_,rfl⟩
 have HX:Hid (Thr w W S x):=by rw [←eW];exact Thr.start _ _ _
 have HL:Hid (∀ j,j<17→W.cell? ⟨w.heap.size,0+j,none⟩=S.cells[j]?):=fun j _=>by rw [Nat.zero_add];exact ie HX.a j
 clear hs hr hok hm
 go_enter Tryz.func7,Tryz.ntmps7
 go_wp2_with (refine ir rfl 34 17 _ Tryz.underlying34 rfl iA (.tmp 3) rfl (w.heap.size) 0 rfl S.cells rfl HL.out ?_)
 clear eW HL
 refine (nj S _ HS (HR.up HX.bel) ok HO).mono ?_
 rintro e w1 ⟨rfl,hbl⟩
 replace HX:=aa (HX.up hbl)
 clear hbl
 have HD:=aa HX.z
 cases ok
 ·
  have HF:Hid (S'=lY∧code=1):=by
   rcases HM.out with ⟨_,h1,h2⟩ | ⟨h,_⟩ | ⟨h,_⟩
   ·
    exact ⟨h1,h2⟩
   ·
    exact absurd (HO.2 h) (by simp)
   exact absurd (HO.2 h) (by simp)
  go_wp2_with (refine iq rfl 34 (.tmp 6) (.tmp 11) rfl (w.heap.size+1+1) 0 rfl (.agg ab) rfl 17 rfl 34 _ HD iA (Nat.le_of_ble_eq_true rfl) (by simp [Value.cells,Value.oneCell']) ?_)
  intro X hP
  replace hP:Put w1 X (w.heap.size+1+1) lY.cells 34:=hP.cast rfl
  have HK:=aa hP.blk
  have HB2:Hid (Below w.heap.size w X):=HX.bel.trans (hP.to.below HX.bel.size (fun y hy=>by simp at hy;omega))
  clear hP
  go_wp2_with fail
  rw [HF.1,HF.2]
  exact bodyPost_ret (jO Tryz.results7 17 _ Tryz.underlying34 rfl iA _ _ (w.heap.size+1+1) lY.cells rfl 34 HK.out rfl (.int .i64 1) rfl) rfl ⟨lY,rfl,iw.refl _,rG _ _,HB2⟩
 have HOk:Hid S.Ok:=HO.1 rfl
 have HL:Hid (∀ j,j<17→w1.cell? ⟨w.heap.size,0+j,none⟩=S.cells[j]?):=fun j _=>by rw [Nat.zero_add];exact ie HX.a j
 have HLf:=aa (mu HX.f)
 go_wp2_with (first | refine ir rfl 34 17 _ Tryz.underlying34 rfl iA (.tmp 3) rfl (w.heap.size) 0 rfl S.cells rfl HL.out ?_ | refine ir rfl 36 5 _ Tryz.underlying36 rfl jC (.tmp 5) rfl (w.heap.size+1) 0 rfl x.frc rfl HLf.out ?_)
 clear HL HD HLf
 have HW1:=aa HX.bel.size
 refine (vh S S' port x code _ HS (HR.up HX.bel) HOk hxb HM).mono ?_
 rintro e w2 ⟨Q,rfl,aQ,oQ,hbl⟩
 replace HX:=aa (HX.up hbl)
 have HN:Hid (iw S' Q∧iG w2 w.heap.size Q):=⟨aQ,oQ.mono HW1.out⟩
 have HD:=aa HX.z
 clear aQ oQ hbl
 go_wp2_with (refine iq rfl 34 (.tmp 6) (.tmp 16) rfl (w.heap.size+1+1) 0 rfl (.agg Q.cells) rfl 17 rfl 34 _ HD iA (Nat.le_of_ble_eq_true rfl) (Swg.lF _) ?_)
 intro X hP
 replace hP:Put w2 X (w.heap.size+1+1) Q.cells 34:=hP.cast rfl
 have HK:=aa hP.blk
 have HFF:Hid (iG X w.heap.size Q∧Below w.heap.size w X):=⟨HN.2.off HD hP.to,HX.bel.trans (hP.to.below HX.bel.size (fun y hy=>by simp at hy;omega))⟩
 clear hP HD
 go_wp2_with fail
 exact bodyPost_ret (jO Tryz.results7 17 _ Tryz.underlying34 rfl iA _ _ (w.heap.size+1+1) Q.cells rfl 34 HK.out rfl (.int .i64 code) rfl) rfl ⟨Q,rfl,HN.1,HFF.1,HFF.2⟩
theorem A5 (S S':Swg) (port:Int) (fs:List Pkt) (w:World) (hs:S.Small) (hr:lr w S) (b:Bool) (hm:DV S S' port fs b) :
  Calls Tryz.prog 40 #[.agg S.cells,.int .i64 port] w fun e w'=>∃ S2 a c,e=.returned (.tuple #[.agg S2.cells,.slice a fs.length c,.bool b])∧iw S' S2∧kj w' w.heap.size S2 S2.nL∧OG 36 5 w' w.heap.size a fs.length c (tV fs.length fun i=>(fsF fs i).frame)∧Below w.heap.size w w':=by
 obtain ⟨ok,hok⟩:=ju S.Ok
 have HO:=aa hok
 have HM:=aa hm
 have HR:=aa hr
 have HS:=aa hs
 obtain ⟨W,eW⟩:∃ W,(w.alloc (.cells S.cells 34)).alloc (.cells ab 34)=W:=⟨_,rfl⟩
 have HX:Hid (Two w S.cells zSw 34 W):=by rw [←eW];exact Two.start _ _ _ _
 have HL:Hid (∀ j,j<17→W.cell? ⟨w.heap.size,0+j,none⟩=S.cells[j]?):=fun j _=>by rw [Nat.zero_add];exact ie HX.a j
 clear hs hr hok hm
 go_enter Tryz.func40,Tryz.ntmps40
 go_wp2_with (refine ir rfl 34 17 _ Tryz.underlying34 rfl iA (.tmp 2) rfl (w.heap.size) 0 rfl S.cells rfl HL.out ?_)
 clear eW HL
 refine (nj S _ HS (HR.up HX.bel) ok HO).mono ?_
 rintro e w1 ⟨rfl,hbl⟩
 replace HX:=aa (HX.up hbl)
 clear hbl
 have HD:=aa HX.b
 cases ok
 ·
  have HF:Hid (b=false∧S'=lY∧fs=[]):=by
   rcases HM.out with ⟨_,h,_⟩ | ⟨h1,_,h2,h3⟩
   ·
    exact absurd (HO.2 h) (by simp)
   exact ⟨h1,h2,h3⟩
  go_wp2_with (refine iq rfl 34 (.tmp 4) (.tmp 21) rfl (w.heap.size+1) 0 rfl (.agg ab) rfl 17 rfl 34 _ HD iA (Nat.le_of_ble_eq_true rfl) (by simp [Value.cells,Value.oneCell']) ?_)
  intro X hP
  replace hP:Put w1 X (w.heap.size+1) lY.cells 34:=hP.cast rfl
  exact gW
 have HOk:Hid S.Ok:=HO.1 rfl
 have hp4:=HOk.n.c.num.p
 have c0:w1.cell? ⟨w.heap.size,0,none⟩=some (.int .i64 S.C.p):=ie HX.a 0
 have hw0:IntKind.i64.wrap (S.C.p-1)=S.C.p-1:=jS _ (by omega) (by omega)
 go_wp2_with fail
 refine (iB port 0 (S.C.p-1) _).mono ?_
 rintro e w2 ⟨rfl,hw2⟩
 subst hw2
 clear c0 hw0
 by_cases hport:0≤port∧port≤S.C.p-1
 rotate_left
 ·
  have hdec:decide (0≤port∧port≤S.C.p-1)=false:=by simp only [decide_eq_false_iff_not];exact hport
  have HF:Hid (b=false∧S'=lY∧fs=[]):=by
   rcases HM.out with ⟨_,h,i,rfl,hi,_⟩ | ⟨h1,_,h2,h3⟩
   ·
    have:=h.nl
    exact absurd (by omega) hport
   exact ⟨h1,h2,h3⟩
  rw [hdec]
  clear hport hdec
  go_wp2_with (refine iq rfl 34 (.tmp 4) (.tmp 21) rfl (w.heap.size+1) 0 rfl (.agg ab) rfl 17 rfl 34 _ HD iA (Nat.le_of_ble_eq_true rfl) (by simp [Value.cells,Value.oneCell']) ?_)
  intro X hP
  replace hP:Put w2 X (w.heap.size+1) lY.cells 34:=hP.cast rfl
  exact gW
 have hdec:decide (0≤port∧port≤S.C.p-1)=true:=by simp only [decide_eq_true_eq];exact hport
 have HF:Hid (b=true∧∃ i:Nat,port=(i:Int)∧i<S.nL∧rF S S' i fs):=by
  rcases HM.out with ⟨h1,h,h2⟩ | ⟨h1,h2,_⟩
  ·
   exact ⟨h1,h2⟩
  exact absurd ⟨HOk,hport⟩ h2
 obtain ⟨hb1,i,rfl,hi,hsm⟩:=HF.out
 have HSM:Hid (rF S S' i fs∧i<S.nL∧b=true):=⟨hsm,hi,hb1⟩
 have HL:Hid (∀ j,j<17→w2.cell? ⟨w.heap.size,0+j,none⟩=S.cells[j]?):=fun j _=>by rw [Nat.zero_add];exact ie HX.a j
 rw [hdec]
 clear hport hdec HM HF hb1 hi hsm
 go_wp2_with (refine ir rfl 34 17 _ Tryz.underlying34 rfl iA (.tmp 2) rfl (w.heap.size) 0 rfl S.cells rfl HL.out ?_)
 clear HL
 have HW1:=aa (ig HX.b)
 refine (zX S S' fs i _ HS (HR.up HX.bel) HOk HSM.2.1 HSM.1).mono ?_
 rintro e w3 ⟨P,a,c,rfl,aP,hP0,oF,hbl⟩
 replace HX:=aa (HX.up hbl)
 have HP:Hid (iw S' P∧kj w3 w2.heap.size P P.nL∧OG 36 5 w3 w2.heap.size a fs.length c (tV fs.length fun i=>(fsF fs i).frame)∧w2.heap.size≤w3.heap.size):=⟨aP,hP0,oF,hbl.size⟩
 clear aP hP0 oF hbl HD
 have HG:Hid ((w3.alloc (.cells ab 34)).heap[w3.heap.size]?=some (.cells ab 34 (0,0))):=im _ _
 go_wp2_with (refine iq rfl 34 (.tmp 7) (.tmp 26) rfl (w3.heap.size) 0 rfl (.agg P.cells) rfl 17 rfl 34 _ HG iA (Nat.le_of_ble_eq_true rfl) (Swg.lF _) ?_)
 intro X0 hP
 replace hP:Put _ X0 w3.heap.size P.cells 34:=hP.cast rfl
 have hbl:Below w3.heap.size w3 X0:=((Below.refl _ _).alloc (Nat.le_refl _) _).trans (hP.to.below (by simp) (fun x hx=>by simp at hx;omega))
 replace HX:=aa (HX.up hbl)
 replace HP:Hid (iw S' P∧kj X0 w2.heap.size P P.nL∧OG 36 5 X0 w2.heap.size a fs.length c (tV fs.length fun i=>(fsF fs i).frame)):=⟨HP.1,HP.2.1.up hbl,HP.2.2.1.up hbl⟩
 have HL:Hid (∀ j,j<17→X0.cell? ⟨w3.heap.size,0+j,none⟩=P.cells[j]?):=fun j _=>by rw [Nat.zero_add];exact ie hP.blk j
 have HD:=aa HX.b
 clear hP HG hbl
 go_wp2_with (first | refine ir rfl 34 17 _ Tryz.underlying34 rfl iA (.tmp 7) rfl (w3.heap.size) 0 rfl P.cells rfl HL.out ?_ | refine iq rfl 34 (.tmp 4) (.tmp 28) rfl (w.heap.size+1) 0 rfl (.agg P.cells) rfl 17 rfl 34 _ HD iA (Nat.le_of_ble_eq_true rfl) (Swg.lF _) ?_)
 intro X hP
 replace hP:Put X0 X (w.heap.size+1) P.cells 34:=hP.cast rfl
 have HK:=aa hP.blk
 have HFF:Hid (kj X w.heap.size P P.nL∧OG 36 5 X w.heap.size a fs.length c (tV fs.length fun i=>(fsF fs i).frame)∧Below w.heap.size w X):=by
  have hlt:=HW1.out
  exact ⟨(HP.2.1.low hP.to (fun x hx=>by simp at hx;omega)).mono (by omega),(HP.2.2.low hP.to (fun x hx=>by simp at hx;omega)).mono (by omega),HX.bel.trans (hP.to.below HX.bel.size (fun x hx=>by simp at hx;omega))⟩
 clear hP HL HD
 go_wp2_with fail
 rw [HSM.2.2]
 exact bodyPost_ret (tU Tryz.results40 17 _ Tryz.underlying34 rfl iA _ _ (w.heap.size+1) P.cells rfl 34 HK.out rfl (.slice a fs.length c) rfl (.bool true) rfl) rfl ⟨P,a,c,rfl,HP.1,HFF.1,HFF.2.1,HFF.2.2⟩
theorem wQ (S:Swg) (w:World) (hs:S.Small) (hU:0<S.N.nU) (hPp:0<S.N.nP) (htab:mA S.nE S.e) (h0:0≤S.now) (h1:S.now<1000000000) (h:lr w S) :
  Calls Tryz.prog 79 #[.agg S.cells] w fun e w'=>∃ S2,e=.returned (.agg S2.cells)∧iw (S.jZ none 0) S2∧iG w' w.heap.size S2∧Below w.heap.size w w':=by
 have HR:=aa h
 have HS:=aa hs
 have HTb:=aa htab
 obtain ⟨W,eW⟩:∃ W,(w.alloc (.cells S.cells 34)).alloc (.cells ab 34)=W:=⟨_,rfl⟩
 have HX:Hid (Two w S.cells zSw 34 W):=by rw [←eW];exact Two.start _ _ _ _
 have HL:Hid (∀ j,j<17→W.cell? ⟨w.heap.size,0+j,none⟩=S.cells[j]?):=fun j _=>by rw [Nat.zero_add];exact ie HX.a j
 have HW1:=aa HX.bel.size
 have hw1:IntKind.i64.wrap (S.now+1)=S.now+1:=jS _ (by omega) (by omega)
 clear hs h htab
 go_enter Tryz.func79,Tryz.ntmps79
 go_wp2_with (refine ir rfl 34 17 _ Tryz.underlying34 rfl iA (.tmp 1) rfl (w.heap.size) 0 rfl S.cells rfl HL.out ?_)
 clear eW HL
 refine (qJ S _ HS hU hPp (HR.up HX.bel)).mono ?_
 rintro e w2 ⟨P,rfl,aP,oP,hbl⟩
 replace HX:=aa (HX.up hbl)
 have HP:Hid (iw S P∧iG w2 w.heap.size P):=⟨aP,oP.mono HW1.out⟩
 clear aP oP hbl
 have HG:Hid ((w2.alloc (.cells ab 34)).heap[w2.heap.size]?=some (.cells ab 34 (0,0))):=im _ _
 go_wp2_with (refine iq rfl 34 (.tmp 3) (.tmp 5) rfl (w2.heap.size) 0 rfl (.agg P.cells) rfl 17 rfl 34 _ HG iA (Nat.le_of_ble_eq_true rfl) (Swg.lF _) ?_)
 intro X0 hP
 replace hP:Put _ X0 w2.heap.size P.cells 34:=hP.cast rfl
 have hbl:Below w2.heap.size w2 X0:=((Below.refl _ _).alloc (Nat.le_refl _) _).trans (hP.to.below (by simp) (fun x hx=>by simp at hx;omega))
 have kN:=hP.blk
 have hgN:w.heap.size+1<w2.heap.size:=ig HX.b
 replace HX:=aa (HX.up hbl)
 replace HP:Hid (iw S P∧iG X0 w.heap.size P):=⟨HP.1,HP.2.up hbl⟩
 clear hP HG hbl
 obtain ⟨gN,eN⟩:∃ g,w2.heap.size=g:=⟨_,rfl⟩
 rw [eN] at kN hgN ⊢
 clear eN
 have HgN:=aa hgN
 have HkN:=aa kN
 have c7:X0.cell? ⟨w.heap.size,7,none⟩=some (.int .i64 S.now):=ie HX.a 7
 clear kN hgN
 go_wp2_with (refine iq rfl 2 (.tmp 9) (.tmp 8) rfl gN 7 rfl (.int .i64 (S.now+1)) rfl 1 rfl 34 _ HkN po (Nat.le_of_ble_eq_true rfl) (by simp [Value.cells,Value.oneCell']) ?_)
 intro X1 hP
 obtain ⟨P1,eP⟩:∃ P1,({ P with now:=S.now+1 }:Swg)=P1:=⟨_,rfl⟩
 replace hP:Put X0 X1 gN P1.cells 34:=hP.cast (by rw [←eP];rfl)
 replace HX:=aa (HX.put hP HgN.out)
 have HO1:=aa (HP.2.off HkN hP.to)
 replace HkN:=aa hP.blk
 have c7:X1.cell? ⟨gN,7,none⟩=some (.int .i64 (S.now+1)):=(ie HkN 7).trans (by rw [←eP];rfl)
 have c9:X1.cell? ⟨gN,9,none⟩=some (.slice P.aE P.nE P.cE):=(ie HkN 9).trans (by rw [←eP];rfl)
 clear hP
 go_wp2_with fail
 clear c7 c9
 refine (Aa P.aE P.nE P.cE P.e (S.now+1) _ (by rw [HP.1.nE,HP.1.e];exact HTb) ⟨by omega,by omega⟩ HO1.g.e.g.DB).mono ?_
 rintro e X2 ⟨v,rfl,oA,hbl⟩
 have eT:qs (iD P.nE P.e) (S.now+1)=P.tkL:=by unfold Swg.tkL;rw [HP.1.now]
 rw [eT] at oA
 obtain ⟨aE,cE,rfl,og⟩:=oA.og
 have HN:Hid (iw (S.jZ none 0) (P.jZ aE cE)∧iG X2 w.heap.size (P.jZ aE cE)):=⟨HP.1.tick _ _ _ _,(HO1.up hbl).tick (og.mono HX.bel.size)⟩
 replace HX:=aa (HX.up hbl)
 replace HkN:Hid (X2.heap[gN]?=some (.cells P1.cells 34 (0,0))):=(hbl.block _ (ig HkN.out)).trans HkN.out
 have eC:Hid (lay P1.cells 9 #[.slice aE P.tkL.length cE]=(P.jZ aE cE).cells):=by
  rw [Hid,←eP,←HP.1.now]
  rfl
 clear oA hbl og eT
 go_wp2_with (refine iq rfl 26 (.tmp 15) (.tmp 14) rfl gN 9 rfl (.slice aE P.tkL.length cE) rfl 1 rfl 34 _ HkN uh (Nat.le_of_ble_eq_true rfl) (by simp [Value.cells,Value.oneCell']) ?_)
 intro X3 hP
 replace hP:Put X2 X3 gN (P.jZ aE cE).cells 34:=hP.cast eC.out
 replace HX:=aa (HX.put hP HgN.out)
 replace HN:Hid (iw (S.jZ none 0) (P.jZ aE cE)∧iG X3 w.heap.size (P.jZ aE cE)):=⟨HN.1,HN.2.off HkN hP.to⟩
 have HL:Hid (∀ j,j<17→X3.cell? ⟨gN,0+j,none⟩=(P.jZ aE cE).cells[j]?):=fun j _=>by rw [Nat.zero_add];exact ie hP.blk j
 have HD:=aa HX.b
 clear hP eC eP HkN HO1 HP
 go_wp2_with (first | refine ir rfl 34 17 _ Tryz.underlying34 rfl iA (.tmp 3) rfl (gN) 0 rfl (P.jZ aE cE).cells rfl HL.out ?_ | refine iq rfl 34 (.tmp 2) (.tmp 16) rfl (w.heap.size+1) 0 rfl (.agg (P.jZ aE cE).cells) rfl 17 rfl 34 _ HD iA (Nat.le_of_ble_eq_true rfl) (Swg.lF _) ?_)
 intro X hP
 replace hP:Put X3 X (w.heap.size+1) (P.jZ aE cE).cells 34:=hP.cast rfl
 have HK:=aa hP.blk
 have HFF:Hid (iG X w.heap.size (P.jZ aE cE)∧Below w.heap.size w X):=⟨HN.2.off HD hP.to,HX.bel.trans (hP.to.below HX.bel.size (fun x hx=>by simp at hx;omega))⟩
 clear hP HL HD
 go_wp2_with fail
 exact bodyPost_ret (ll Tryz.results79 17 _ Tryz.underlying34 rfl iA _ _ (w.heap.size+1) (P.jZ aE cE).cells rfl 34 HK.out rfl) rfl ⟨P.jZ aE cE,rfl,HN.1,HFF.1,HFF.2⟩
theorem xQ (S:Swg) (w:World) (hs:S.Small) (hr:lr w S) (ok:Bool) (hok:ok=true↔S.Ok) (b:Bool) (hb:b=true↔S.Ok∧S.now≠1000000000) :
  Calls Tryz.prog 41 #[.agg S.cells] w fun e w'=>∃ S2,e=.returned (.tuple #[.agg S2.cells,.bool b])∧iw (AX S b) S2∧iG w' w.heap.size S2∧Below w.heap.size w w':=by
 have HO:=aa hok
 have HBB:=aa hb
 have HR:=aa hr
 have HS:=aa hs
 obtain ⟨W,eW⟩:∃ W,(w.alloc (.cells S.cells 34)).alloc (.cells ab 34)=W:=⟨_,rfl⟩
 have HX:Hid (Two w S.cells zSw 34 W):=by rw [←eW];exact Two.start _ _ _ _
 have HL:Hid (∀ j,j<17→W.cell? ⟨w.heap.size,0+j,none⟩=S.cells[j]?):=fun j _=>by rw [Nat.zero_add];exact ie HX.a j
 clear hs hr hok hb
 go_enter Tryz.func41,Tryz.ntmps41
 go_wp2_with (refine ir rfl 34 17 _ Tryz.underlying34 rfl iA (.tmp 1) rfl (w.heap.size) 0 rfl S.cells rfl HL.out ?_)
 clear eW HL
 refine (nj S _ HS (HR.up HX.bel) ok HO).mono ?_
 rintro e w1 ⟨rfl,hbl⟩
 replace HX:=aa (HX.up hbl)
 clear hbl
 have c7:w1.cell? ⟨w.heap.size,7,none⟩=some (.int .i64 S.now):=ie HX.a 7
 have HD:=aa HX.b
 cases ok
 ·
  have HF:Hid (b=false):=by
   rw [Hid,Bool.eq_false_iff]
   intro e
   have h:=HBB.1 e
   exact absurd (HO.2 h.1) (by simp)
  exact gT
 have HOk:Hid S.Ok:=HO.1 rfl
 by_cases hnow:S.now=1000000000
 ·
  have HNow:=aa hnow
  have hnow':(S.now == 1000000000)=true:=by simp [hnow]
  clear hnow
  have HF:Hid (b=false):=by
   rw [Hid,Bool.eq_false_iff]
   intro e
   have h:=HBB.1 e
   exact h.2 HNow
  exact gT
 have hnow':(S.now == 1000000000)=false:=by simp [hnow]
 have HNow:=aa hnow
 clear hnow
 have HF:Hid (b=true):=HBB.2 ⟨HOk.out,HNow.out⟩
 have HL:Hid (∀ j,j<17→w1.cell? ⟨w.heap.size,0+j,none⟩=S.cells[j]?):=fun j _=>by rw [Nat.zero_add];exact ie HX.a j
 obtain ⟨ht1,ht2,ht3,ht4,ht5⟩:=yK HOk.out
 have HTb:=aa ht1
 clear ht1
 go_wp2_with (refine ir rfl 34 17 _ Tryz.underlying34 rfl iA (.tmp 1) rfl (w.heap.size) 0 rfl S.cells rfl HL.out ?_)
 clear HL c7 hnow'
 have HW1:=aa HX.bel.size
 refine (wQ S _ HS ht4 ht5 HTb ht2 (by have:=HNow.out;omega) (HR.up HX.bel)).mono ?_
 rintro e w2 ⟨P,rfl,aP,oP,hbl⟩
 replace HX:=aa (HX.up hbl)
 have HN:Hid (iw (AX S b) P∧iG w2 w.heap.size P):=⟨by rw [HF.out,CN];exact aP,oP.mono HW1.out⟩
 replace HD:=aa HX.b
 clear aP oP hbl
 go_wp2_with (refine iq rfl 34 (.tmp 2) (.tmp 14) rfl (w.heap.size+1) 0 rfl (.agg P.cells) rfl 17 rfl 34 _ HD iA (Nat.le_of_ble_eq_true rfl) (Swg.lF _) ?_)
 intro X hP
 replace hP:Put w2 X (w.heap.size+1) P.cells 34:=hP.cast rfl
 have HK:=aa hP.blk
 have HFF:Hid (iG X w.heap.size P∧Below w.heap.size w X):=⟨HN.2.off HD hP.to,HX.bel.trans (hP.to.below HX.bel.size (fun x hx=>by simp at hx;omega))⟩
 clear hP HD
 go_wp2_with fail
 rw [HF.out] at HN ⊢
 exact bodyPost_ret (jO Tryz.results41 17 _ Tryz.underlying34 rfl iA _ _ (w.heap.size+1) P.cells rfl 34 HK.out rfl (.bool true) rfl) rfl ⟨P,rfl,HN.1,HFF.1,HFF.2⟩
theorem iX:(Tryz.prog.info? 34).map (·.size)=some 17:=by kernel_rfl
theorem BN:(Tryz.prog.info? 2).map (·.size)=some 1:=by kernel_rfl
theorem Kept.kk (h:Kept g W W'):Touch [g] W W':=⟨h.os,h.tape,h.output,h.size,fun k hk hn=>h.block k hk (fun e=>hn (by simp [e]))⟩
def Lo (ga gb:Nat) (T:List Nat):Prop:=∀ x∈T,x≤ga∨x=gb
theorem mi {A B C:World} (h:Touch [g] A B) (k:Touch T B C):Touch (g :: T) A C:=(h.mono (fun x hx=>by simp at hx;simp [hx])).trans (k.mono (fun x hx=>List.mem_cons_of_mem _ hx))
theorem Lo.cons (h:Lo ga gb T) (hg:g≤ga∨g=gb):Lo ga gb (g :: T):=fun x hx=>by
 rcases List.mem_cons.1 hx with rfl | hx
 ·
  exact hg
 exact h x hx
structure MaS (w W:World) (g ga gb:Nat) (cv:Value) (S:Swg):Prop where
 rd:Rd g cv W
 k:W.heap[gb]?=some (.cells S.cells 34 (0,0))
 z:W.heap[ga]?=some (.cells zSw 34 (0,0))
 hold:∀ T W',Lo ga gb T→Touch T W W'→lr W' S
 ok:S.Ok
 kept:Kept g w W
 lt:g<ga∧ga<gb∧w.heap.size≤ga
theorem MaS.step (h:MaS w W g ga gb cv S) (hr:Rd g cv W') (hk:Kept g W W'):MaS w W' g ga gb cv S :=
 ⟨hr,rp hk h.k (by have:=h.lt;omega),rp hk h.z (by have:=h.lt;omega),fun T W2 hT ht=>h.hold (g :: T) W2 (hT.cons (.inl (by have:=h.lt;omega))) (mi hk.kk ht),h.ok,h.kept.trans hk,h.lt⟩
theorem MaS.below (h:MaS w W g ga gb cv S) (hb:Below W.heap.size W W'):MaS w W' g ga gb cv S:=h.step (h.rd.below hb) (Kept.jq hb)
theorem MaS.rds (h:MaS w W g ga gb cv S):lr W S:=h.hold [] W (fun x hx=>by cases hx) (Touch.refl _ _)
theorem Kept.wE (h:Kept g w W) (hP:Put W W' gb cs t) (hb:w.heap.size≤gb):Kept g w W' :=
 ⟨hP.to.os.trans h.os,hP.to.tape.trans h.tape,hP.to.output.trans h.output,Nat.le_trans h.size hP.to.size,fun k hk hn=>(hP.to.block k (Nat.lt_of_lt_of_le hk h.size) (by simp;omega)).trans (h.block k hk hn)⟩
theorem Rd.put (h:Rd g cv W) (hP:Put W W' gb cs t) (hb:g<gb):Rd g cv W' :=
 h.jQ (fun k hk=>hP.to.block k (by have:=h.lt;omega) (by simp;omega))
theorem MaS.put (h:MaS w W g ga gb cv S) (hP:Put W W' gb S2.cells 34) (hh:∀ T W2,Lo ga gb T→Touch T W W2→lr W2 S2) (ho:S2.Ok):MaS w W' g ga gb cv S2 :=
 have l:=h.lt
 ⟨h.rd.put hP (by omega),hP.blk,(hP.to.block ga (ig h.z) (by simp;omega)).trans h.z,fun T W2 hT ht=>hh (gb :: T) W2 (hT.cons (.inr rfl)) (mi hP.to ht),ho,h.kept.wE hP (by omega),h.lt⟩
theorem sO {V:World} {base:Nat} (h:kj V base S S.nL) (h1:ga<base) (h2:gb<base):∀ T W,Lo ga gb T→Touch T V W→lr W S:=fun T W hT ht=>(h.low ht (fun x hx=>by have:=hT x hx;omega)).rd
theorem DV.okM {fs:List Pkt} {b:Bool} (h:S.Ok) (hp:0≤port∧port≤S.C.p-1) (hm:DV S S' port fs b):S'.Ok∧S'.now=S.now∧S'.dr=S.dr∧S'.lst=S.lst:=by
 rcases hm with ⟨_,_,i,_,hi,hm⟩ | ⟨_,hno,_⟩
 ·
  refine ⟨hm.ok h hi,?_⟩
  obtain ⟨l',id,ht,hm⟩:=hm
  rcases hm with ⟨_,rfl,_⟩ | ⟨_,j,hj,_,_,⟨_,rfl⟩ | ⟨_,rfl⟩⟩ <;> exact ⟨rfl,rfl,rfl⟩
 exact absurd ⟨h,hp⟩ hno
theorem Dn (P:Swg) (p:Int) (h:P.Fl):(P.lG p).now=P.now∧(P.lG p).dr+(P.lG p).lst≤P.dr+P.lst+1:=by
 have h1:=h.dr
 have h2:=h.lst
 unfold Swg.lG
 split
 ·
  refine ⟨rfl,?_⟩
  show P.dr+min (P.lst+1) 1000000000≤_
  omega
 refine ⟨rfl,?_⟩
 show min (P.dr+1) 1000000000+P.lst≤_
 omega
theorem xG.nowM {code:Int} (h:S.Ok) (hm:xG S S' port x code):S'.now=S.now∧S'.dr+S'.lst≤S.dr+S.lst+1:=by
 rcases hm with ⟨hn,_⟩ | ⟨_,_,rfl,_⟩ | ⟨_,_,i,_,_,⟨_,rfl,_⟩ | ⟨_,⟨_,rfl,_⟩ | ⟨_,_,rfl,_⟩ | ⟨_,_,_,rfl,_⟩⟩⟩
 ·
  exact absurd h hn
 ·
  exact ⟨rfl,by omega⟩
 · exact gZ
 · exact gZ
 ·
  exact Dn (S.jm i x none 0) x.p ⟨h.nums.now,h.nums.nx,h.nums.dr,h.nums.lst⟩
 exact gZ
structure MaE (w W:World) (g:Nat) (cv:Value) (S:Swg):Prop where
 rd:Rd g cv W
 hold:∀ T W',(∀ x∈T,x≤w.heap.size)→Touch T W W'→lr W' S
 sm:S.Small
 low:S.Low
 kept:Kept g w W
theorem lr.nx (h:lr W S) (v:Int):lr W { S with nx:=v }:=⟨h.e,h.n,h.k,h.l,h.ls⟩
theorem lr.lo (h:lr W S) (v:Int):lr W { S with N:={ S.N with lo:=v } }:=⟨h.e,⟨h.n.u,h.n.p⟩,h.k,h.l,h.ls⟩
theorem maM (h:MaS w W g ga gb cv S) (hP:Put W W' gb S2.cells 34) (hh:∀ V,lr V S→lr V S2) (hs:S2.Small∧S2.Low) :
  W'.heap[gb]?=some (.cells S2.cells 34 (0,0))∧W'.heap[ga]?=some (.cells zSw 34 (0,0))∧Rd g cv W'∧(∀ T V,Lo ga gb T→Touch T W' V→lr V S2)∧(S2.Small∧S2.Low)∧Kept g w W' :=
 have l:=h.lt
 ⟨hP.blk,(hP.to.block ga (ig h.z) (by simp;omega)).trans h.z,h.rd.put hP (by omega),fun T V hT ht=>hh V (h.hold (gb :: T) V (hT.cons (.inr rfl)) (mi hP.to ht)),hs,h.kept.wE hP (by omega)⟩
theorem Eb (h:p:=by
  go_wp2_with fail
  refine (jb g cv (most+1) _ HX.rd (by omega) (by omega)).mono ?_
  rintro e w3 ⟨x,hx,rfl,hr,hk⟩
  replace HX:=aa (HX.step hr hk)
  clear hr hk hw1
  go_wp2_with fail
  go_loopw [7] (fun s wr=>∃ (k:Nat) (S:Swg),(k:Int)≤100∧S.now+S.dr+S.lst+k≤100∧s=.int .i64 k∧Hid (MaS w wr g w.heap.size gb cv S)) (fun s _=>(intOf s).toNat)
  case atStart=>exact ⟨x,S1,by omega,by omega,rfl,HX⟩
  case round =>
   clear HX hnow
   obtain ⟨k,S,hk1,hk2,rfl,HX⟩:=hrel
   by_cases hlt:0<k
   ·
    have hlt':(0:Int)<(k:Int):=by omega
    have c0:wr.cell? ⟨gb,0,none⟩=some (.int .i64 S.C.p):=ie HX.k 0
    have hp:=HX.ok.n.c.num.p
    have hnw:=HX.ok.nums.now
    have hdr:=HX.ok.nums.dr
    have hls:=HX.ok.nums.lst
    go_wp2_with fail
    clear c0
    refine (jb g cv S.C.p _ HX.rd (by omega) (by omega)).mono ?_
    rintro e v1 ⟨pt,hpt,rfl,hr,hk⟩
    replace HX:=aa (HX.step hr hk)
    clear hr hk
    go_wp2_with fail
    refine (jb g cv 5 _ HX.rd (by omega) (by omega)).mono ?_
    rintro e v2 ⟨q,hq,rfl,hr,hk⟩
    replace HX:=aa (HX.step hr hk)
    clear hr hk
    by_cases hq2:q=2
    ·
     have hq':((q:Int) == 2)=true:=by simp;omega
     clear hq2
     have HL:Hid (∀ j,j<17→v2.cell? ⟨gb,0+j,none⟩=S.cells[j]?):=fun j _=>by rw [Nat.zero_add];exact ie HX.k j
     go_wp2_with (refine ir rfl 34 17 _ Tryz.underlying34 rfl iX (.tmp 5) rfl gb 0 rfl S.cells rfl HL.out ?_)
     clear HL
     obtain ⟨S',fs,b,hsb⟩:=CZ S (pt:Int)
     obtain ⟨o1,o2,o3,o4⟩:=hsb.okM HX.ok (by omega)
     refine (A5 S S' (pt:Int) fs _ HX.ok.small HX.rds b hsb).mono ?_
     rintro e v3 ⟨S2,a,c,rfl,ha,hh,_,hb⟩
     have hz:=ig HX.k
     have HH:Hid ((∀ T W,Lo w.heap.size gb T→Touch T v3 W→lr W S2)∧S2.Ok):=⟨sO hh (by have:=HX.lt;omega) hz,ha.ok1 o1⟩
     have hn2:S2.now=S.now:=ha.now.trans o2
     have hn3:S2.dr=S.dr:=ha.dr.trans o3
     have hn4:S2.lst=S.lst:=ha.lst.trans o4
     replace HX:=aa (HX.below hb)
     have HK:=aa HX.k
     clear hb ha hh hsb o1 o2 o3 o4 hz
     go_wp2_with (refine iq rfl 34 (.tmp 5) (.tmp 51) rfl gb 0 rfl (.agg S2.cells) rfl 17 rfl 34 _ HK iX (Nat.le_of_ble_eq_true rfl) (Swg.lF _) ?_)
     intro Y hP
     replace hP:Put v3 Y gb S2.cells 34:=hP.cast rfl
     exact hG
    have hq':((q:Int) == 2)=false:=by simp;omega
    by_cases hq3:q=3
    ·
     have hq4:((q:Int) == 3)=true:=by simp;omega
     clear hq2 hq3
     go_wp2_with fail
     refine (uQ g cv 2 _ HX.rd (by omega) (by omega)).mono ?_
     rintro e v3 ⟨bb,rfl,hr,hk⟩
     replace HX:=aa (HX.step hr hk)
     clear hr hk
     cases bb
     ·
      go_wp2_with fail
      go_roundw
      case rel=>exact ⟨k-1,S,by omega,by omega,by go_num,HX⟩
      case measure=>simp [intOf];omega
     have HL:Hid (∀ j,j<17→v3.cell? ⟨gb,0+j,none⟩=S.cells[j]?):=fun j _=>by rw [Nat.zero_add];exact ie HX.k j
     go_wp2_with (refine ir rfl 34 17 _ Tryz.underlying34 rfl iX (.tmp 5) rfl gb 0 rfl S.cells rfl HL.out ?_)
     clear HL
     refine (xQ S _ HX.ok.small HX.rds true ⟨fun _=>HX.ok,fun _=>rfl⟩ true ⟨fun _=>⟨HX.ok,by omega⟩,fun _=>rfl⟩).mono ?_
     rintro e v4 ⟨S2,rfl,ha,ho,hb⟩
     have hz:=ig HX.k
     have HH:Hid ((∀ T W,Lo w.heap.size gb T→Touch T v4 W→lr W S2)∧S2.Ok):=⟨sO (ho.half _) (by have:=HX.lt;omega) hz,ha.ok1 (HX.ok.tick (by omega) none 0)⟩
     have hn2:S2.now=S.now+1:=ha.now
     have hn3:S2.dr=S.dr:=ha.dr
     have hn4:S2.lst=S.lst:=ha.lst
     replace HX:=aa (HX.below hb)
     have HK:=aa HX.k
     clear hb ha ho hz
     go_wp2_with (refine iq rfl 34 (.tmp 5) (.tmp 61) rfl gb 0 rfl (.agg S2.cells) rfl 17 rfl 34 _ HK iX (Nat.le_of_ble_eq_true rfl) (Swg.lF _) ?_)
     intro Y hP
     replace hP:Put v4 Y gb S2.cells 34:=hP.cast rfl
     exact hG
    have hq4:((q:Int) == 3)=false:=by simp;omega
    clear hq2 hq3
    go_wp2_with fail
    refine ng (fun w'=>w'.heap[gb]?=some (.cells S.cells 34 (0,0))) 8 (by kernel_rfl) ?_
    replace HX:Hid (MaS w v2.drew g w.heap.size gb cv S):=HX.below ((Below.refl _ _).drew)
    generalize v2.drew=V at *
    have hT0:=HX.k
    refine tc (i:=0) (some 38) (v:=.agg S.cells) (fun wx hSw=>jg 34 17 _ Tryz.underlying34 rfl iX (.tmp 5) rfl gb 0 rfl S.cells rfl (fun j _=>by rw [Nat.zero_add];exact ie hSw j)) hT0 ?_
    try simp only [Act.put,PZ]
    refine tG 1 39 hT0 ?_
    refine tG 2 40 hT0 ?_
    refine iF (rs:=[3]) (by kernel_rfl) (by simp) ?_
    refine iz.cons rfl (fun K hK=>?_) iz.nil
    go_simp
    refine (sQ g cv _ HX.rd).mono ?_
    rintro e v3 ⟨fk,fd,fs,fp,fb,hfb,rfl,hr,hk⟩
    replace HX:=aa (HX.step hr hk)
    clear hr hk hT0
    have hT3:=HX.k
    go_wp2_with fail
    refine hK _ _ hT3 ?_
    clear hK K
    try simp only [Act.put,PZ]
    refine iF (rs:=[4]) (by kernel_rfl) (by simp) ?_
    refine iz.cons rfl (fun K hK=>?_) iz.nil
    go_simp
    obtain ⟨y,ey⟩:∃ y:Pkt,(⟨0,0,0,fk,fd,fs,fp,fb⟩:Pkt)=y:=⟨_,rfl⟩
    have eF:(#[.int .i64 fk,.int .i64 fd,.int .i64 fs,.int .i64 fp,.string fb]:Array Value)=y.frc:=by rw [←ey];rfl
    have hyb:y.b.size≤1048576:=by rw [←ey];show fb.size≤_;omega
    rw [eF]
    clear eF ey hfb
    obtain ⟨S',code,hm⟩:=Cv S (pt:Int) y
    have o1:=hm.ok HX.ok
    have o2:=hm.nowM HX.ok
    refine (qZ S S' (pt:Int) y code _ HX.ok.small HX.rds hyb hm).mono ?_
    rintro e v4 ⟨S2,rfl,ha,ho,hb⟩
    have hz:=ig HX.k
    have HH:Hid ((∀ T W,Lo w.heap.size gb T→Touch T v4 W→lr W S2)∧S2.Ok):=⟨sO (ho.half _) (by have:=HX.lt;omega) hz,ha.ok1 o1⟩
    have hn2:S2.now=S.now:=ha.now.trans o2.1
    have hn3:S2.dr+S2.lst≤S.dr+S.lst+1:=by rw [ha.dr,ha.lst];exact o2.2
    replace HX:=aa (HX.below hb)
    clear hb ha ho hz hm o1 o2 hyb hT3
    have hT4:=HX.k
    go_wp2_with fail
    refine hK _ _ hT4 ?_
    clear hK K
    try simp only [Act.put,PZ]
    refine tG 5 37 hT4 ?_
    refine tG 6 43 hT4 ?_
    refine iF (rs:=[7,8]) (by kernel_rfl) (by simp) ?_
    refine iz.cons rfl (fun K hK=>?_) (iz.last rfl (fun K hK=>?_))
    ·
     go_simp
     refine hK _ _ hT4 ?_
     clear hK K
     try simp only [Act.put,PZ]
     refine iF (rs:=[8]) (by kernel_rfl) (by simp) ?_
     refine iz.last rfl (fun K hK=>?_)
     refine jn (by kernel_rfl) none rfl 34 (.tmp 5) (.tmp 43) rfl gb 0 rfl (.agg S2.cells) rfl 17 rfl 34 _ HX.k iX (Nat.le_of_ble_eq_true rfl) (Swg.lF _) ?_
     intro Y hP
     exact gY
    refine jn (by kernel_rfl) none rfl 34 (.tmp 5) (.tmp 43) rfl gb 0 rfl (.agg S2.cells) rfl 17 rfl 34 _ HX.k iX (Nat.le_of_ble_eq_true rfl) (Swg.lF _) ?_
    intro Y hP
    refine ah (hK _ _) ?_
    clear hK K
    refine iF (rs:=[7]) (by kernel_rfl) (by simp) ?_
    refine iz.late rfl (by kernel_rfl) (fun K hK=>?_)
    go_simp
    exact gY
   ·
    obtain rfl:k=0:=by omega
    have hlt':¬ (0:Int)<((0:Nat):Int):=by omega
    have HLow:Hid S.Low:=⟨HX.ok.nums.dr.1,HX.ok.nums.lst.1,by have:=HX.ok.nums.now;omega⟩
    clear hk1 hk2
    go_wp2_with fail
    refine (jb g cv 40 _ HX.rd (by omega) (by omega)).mono ?_
    rintro e v1 ⟨q,hq,rfl,hr,hk⟩
    replace HX:=aa (HX.step hr hk)
    clear hr hk hlt hlt'
    by_cases hq2:q=38
    ·
     have hq':((q:Int) == 38)=true:=by simp;omega
     clear hq2
     go_wp2_with fail
     refine (qG g cv 1 9 _ HX.rd (by omega) (by omega) (by omega)).mono ?_
     rintro e v2 ⟨x9,rfl,hr,hk⟩
     replace HX:=aa (HX.step hr hk)
     have HK:=aa HX.k
     clear hr hk
     go_wp2_with (refine iq rfl 2 (.tmp 69) (.tmp 68) rfl gb 8 rfl (.int .i64 x9) rfl 1 rfl 34 _ HK BN (Nat.le_of_ble_eq_true rfl) (by simp [Value.cells,Value.oneCell']) ?_)
     intro X9 hP
     obtain ⟨S9,eS9⟩:∃ S9,({ S with nx:=x9 }:Swg)=S9:=⟨_,rfl⟩
     replace hP:Put v2 X9 gb S9.cells 34:=hP.cast (by rw [←eS9];rfl)
     have HM:Hid (X9.heap[gb]?=some (.cells S9.cells 34 (0,0))∧X9.heap[w.heap.size]?=some (.cells zSw 34 (0,0))∧Rd g cv X9∧(∀ T W,Lo w.heap.size gb T→Touch T X9 W→lr W S9)∧(S9.Small∧S9.Low)∧Kept g w X9):=maM HX hP (fun W h=>by rw [←eS9];exact h.nx _) (by rw [←eS9];have h:=HX.ok.small;exact ⟨⟨h.e,h.n,h.k,h.b,h.l,h.ls⟩,HLow.out⟩)
     exact Ia
    have hq':((q:Int) == 38)=false:=by simp;omega
    by_cases hq3:q=39
    ·
     have hq4:((q:Int) == 39)=true:=by simp;omega
     clear hq2 hq3
     go_wp2_with fail
     refine (qG g cv 0 9 _ HX.rd (by omega) (by omega) (by omega)).mono ?_
     rintro e v2 ⟨x9,rfl,hr,hk⟩
     replace HX:=aa (HX.step hr hk)
     have HK:=aa HX.k
     clear hr hk
     go_wp2_with (refine iq rfl 2 (.tmp 75) (.tmp 73) rfl gb 11 rfl (.int .i64 x9) rfl 1 rfl 34 _ HK BN (Nat.le_of_ble_eq_true rfl) (by simp [Value.cells,Value.oneCell']) ?_)
     intro X9 hP
     obtain ⟨S9,eS9⟩:∃ S9,({ S with N:={ S.N with lo:=x9 } }:Swg)=S9:=⟨_,rfl⟩
     replace hP:Put v2 X9 gb S9.cells 34:=hP.cast (by rw [←eS9];rfl)
     have HM:Hid (X9.heap[gb]?=some (.cells S9.cells 34 (0,0))∧X9.heap[w.heap.size]?=some (.cells zSw 34 (0,0))∧Rd g cv X9∧(∀ T W,Lo w.heap.size gb T→Touch T X9 W→lr W S9)∧(S9.Small∧S9.Low)∧Kept g w X9):=maM HX hP (fun W h=>by rw [←eS9];exact h.lo _) (by rw [←eS9];have h:=HX.ok.small;exact ⟨⟨h.e,⟨h.n.u,h.n.p⟩,h.k,h.b,h.l,h.ls⟩,HLow.out⟩)
     exact Ia
    have hq4:((q:Int) == 39)=false:=by simp;omega
    clear hq2 hq3
    have HM:Hid (v1.heap[gb]?=some (.cells S.cells 34 (0,0))∧v1.heap[w.heap.size]?=some (.cells zSw 34 (0,0))∧Rd g cv v1∧(∀ T W,Lo w.heap.size gb T→Touch T v1 W→lr W S)∧(S.Small∧S.Low)∧Kept g w v1):=⟨HX.k,HX.z,HX.rd,HX.hold,⟨HX.ok.small,HLow.out⟩,HX.kept⟩
    clear HX
    have HL:Hid (∀ j,j<17→v1.cell? ⟨gb,0+j,none⟩=S.cells[j]?):=fun j _=>by rw [Nat.zero_add];exact ie HM.1 j
    have HZ:=aa HM.2.1
    go_wp2_with (first | refine ir rfl 34 17 _ Tryz.underlying34 rfl iX (.tmp 5) rfl gb 0 rfl S.cells rfl HL.out ?_ | refine iq rfl 34 (.tmp 4) (.tmp 76) rfl w.heap.size 0 rfl (.agg S.cells) rfl 17 rfl 34 _ HZ iX (Nat.le_of_ble_eq_true rfl) (Swg.lF _) ?_)
    intro Y hP
    replace hP:Put v1 Y w.heap.size S.cells 34:=hP.cast rfl
    have HR:=aa hP.blk
    have HE:Hid (MaE w Y g cv S):=⟨HM.2.2.1.put hP hg,fun T W hT ht=>HM.2.2.2.1 (w.heap.size :: T) W (fun x hx=>by rcases List.mem_cons.1 hx with rfl | hx;exact .inl (Nat.le_refl _);exact .inl (hT x hx)) (mi hP.to ht),HM.2.2.2.2.1.1,HM.2.2.2.2.1.2,HM.2.2.2.2.2.wE hP (Nat.le_refl _)⟩
    clear hP HL HZ HM
    go_wp2_with fail
    exact bodyPost_ret (ll Tryz.results13 17 _ Tryz.underlying34 rfl iX _ _ w.heap.size S.cells rfl 34 HR.out rfl) rfl ⟨S,rfl,HE⟩):p:=h
theorem yc (g:Nat) (cv:Value) (most:Int) (w:World) (h:Rd g cv w) (h0:0≤most) (h1:most≤100) :
  Calls Tryz.prog 13 #[.pointer (some ⟨g,0,none⟩),.int .i64 most] w fun e w'=>∃ S:Swg,e=.returned (.agg S.cells)∧MaE w w' g cv S:=by
 have hg:=h.lt
 have HA:Hid (Rd g cv (w.alloc (.cells ab 34))∧Kept g w (w.alloc (.cells ab 34))∧(w.alloc (.cells ab 34)).heap[w.heap.size]?=some (.cells zSw 34 (0,0))):=⟨h.alloc _,(Kept.refl _ _).alloc _,im _ _⟩
 obtain ⟨W,eW⟩:∃ W,w.alloc (.cells ab 34)=W:=⟨_,rfl⟩
 rw [eW] at HA
 have hw1:IntKind.i64.wrap (most+1)=most+1:=jS _ (by omega) (by omega)
 clear h
 go_enter Tryz.func13,Tryz.ntmps13
 go_wp2_with fail
 clear eW
 refine (Ar g cv _ HA.1).mono ?_
 rintro e w1 ⟨C,rfl,hp1,hp2,hr,hk⟩
 replace HA:Hid (Rd g cv w1∧Kept g w w1∧w1.heap[w.heap.size]?=some (.cells zSw 34 (0,0))):=⟨hr,HA.2.1.trans hk,rp hk HA.2.2 (by omega)⟩
 have hz1:w.heap.size<w1.heap.size:=ig HA.2.2
 clear hr hk
 obtain ⟨n,hn⟩:∃ n:Nat,C.p=(n:Int):=⟨C.p.toNat,by omega⟩
 obtain ⟨ok,hok⟩:=oo C.Ok
 have HO:=aa hok
 have HN:=aa hn
 clear hok hn hp1 hp2
 go_wp2_with fail
 refine (pd C n _ (fun _=>HN.out) ok HO).mono ?_
 rintro e w2 ⟨S0,rfl,hS,hb⟩
 replace HA:Hid (Rd g cv w2∧Kept g w w2∧w2.heap[w.heap.size]?=some (.cells zSw 34 (0,0))):=⟨HA.1.below hb,HA.2.1.trans (Kept.jq hb),(hb.block _ (ig HA.2.2)).trans HA.2.2⟩
 have HNS:Hid (DZ w2 w1.heap.size C n ok S0∧w.heap.size<w1.heap.size):=⟨hS,hz1⟩
 clear hb hS hz1
 obtain ⟨G0,eG0⟩:∃ G0,S0.toG=G0:=⟨_,rfl⟩
 rw [S0.wm,eG0]
 have HG:Hid ((w2.alloc (.cells ab 34)).heap[w2.heap.size]?=some (.cells ab 34 (0,0))):=im _ _
 go_wp2_with (refine iq rfl 34 (.tmp 5) (.tmp 13) rfl w2.heap.size 0 rfl (.agg G0.cells) rfl 17 rfl 34 _ HG iX (Nat.le_of_ble_eq_true rfl) (Swg.lF _) ?_)
 intro X hP
 replace hP:Put _ X w2.heap.size G0.cells 34:=hP.cast rfl
 have hbX:Below w2.heap.size w2 X:=((Below.refl _ _).alloc (Nat.le_refl _) _).trans (hP.to.below (by simp) (fun y hy=>by simp at hy;omega))
 have HK:=aa hP.blk
 have hlt2:w.heap.size<w2.heap.size:=ig HA.2.2
 have HX:Hid (Rd g cv X∧Kept g w X∧X.heap[w.heap.size]?=some (.cells zSw 34 (0,0))):=⟨HA.1.below hbX,HA.2.1.trans (Kept.jq hbX),(hbX.block _ (ig HA.2.2)).trans HA.2.2⟩
 have HH:Hid (ok=true→(∀ T W,Lo w.heap.size w2.heap.size T→Touch T X W→lr W G0)∧G0.Ok∧G0.now+G0.dr+G0.lst=0):=by
  rintro rfl
  have hC:=HO.1 rfl
  obtain ⟨q1,q2,q3,q4,q5,q6,q7,gg,bb,q8⟩:=HNS.1
  refine ⟨fun T W hT ht=>?_,?_,by rw [←eG0];rfl⟩
  ·
   have hT2:Touch (T.filter fun x=>decide (x<w2.heap.size)) w2 W:=⟨(ht.os.trans hbX.os),(ht.tape.trans hbX.tape),(ht.output.trans hbX.output),Nat.le_trans hbX.size ht.size,fun k hk hn=>(ht.block k (Nat.lt_of_lt_of_le hk hbX.size) (fun h9=>hn (List.mem_filter.2 ⟨h9,by simpa using hk⟩))).trans (hbX.block k hk)⟩
   rw [←eG0]
   exact (q8.GR hT2 (fun x hx=>by obtain ⟨h8,h9⟩:=List.mem_filter.1 hx;have h7:=hT x h8;simp at h9;have:=HNS.2;omega)).rd.g
  rw [←eG0]
  exact (DZ.g HNS.1).ok1 (Bi hC HN.symm)
 clear hP HG HA hbX eG0 HNS
 obtain ⟨gb,egb⟩:∃ gb,w2.heap.size=gb:=⟨_,rfl⟩
 rw [egb] at HK HH hlt2 ⊢
 clear egb
 cases ok
 ·
  have C0:Cfg.Ok ⟨2,60,4,2,15,10,1⟩:=⟨⟨by decide,by decide,by decide,by decide,by decide,by decide,by decide⟩,by decide,by decide⟩
  have HC0:=aa C0
  clear C0
  go_wp2_with fail
  refine (pd ⟨2,60,4,2,15,10,1⟩ 2 _ (fun _=>rfl) true ⟨fun _=>HC0.out,fun _=>rfl⟩).mono ?_
  rintro e w3 ⟨S1,rfl,hS,hb⟩
  have HX3:Hid (Rd g cv w3∧Kept g w w3∧w3.heap[w.heap.size]?=some (.cells zSw 34 (0,0))):=⟨HX.1.below hb,HX.2.1.trans (Kept.jq hb),(hb.block _ (ig HX.2.2)).trans HX.2.2⟩
  have HK3:Hid (w3.heap[gb]?=some (.cells G0.cells 34 (0,0))):=(hb.block _ (ig HK.out)).trans HK.out
  have hzz:gb<X.heap.size:=ig HK.out
  have HNS:=aa hS
  clear hb hS
  obtain ⟨G1,eG1⟩:∃ G1,S1.toG=G1:=⟨_,rfl⟩
  rw [S1.wm,eG1]
  go_wp2_with (refine iq rfl 34 (.tmp 5) (.tmp 20) rfl gb 0 rfl (.agg G1.cells) rfl 17 rfl 34 _ HK3 iX (Nat.le_of_ble_eq_true rfl) (Swg.lF _) ?_)
  intro Y hP
  replace hP:Put w3 Y gb G1.cells 34:=hP.cast rfl
  have HM:Hid (MaS w Y g w.heap.size gb cv G1):=by
   have q:=HX3.out
   obtain ⟨_,_,_,_,_,_,_,gg,bb,q8⟩:=HNS.out
   refine ⟨q.1.put hP (by omega),hP.blk,(hP.to.block _ (ig q.2.2) (by simp;omega)).trans q.2.2,fun T W hT ht=>?_,?_,q.2.1.wE hP (by omega),by omega⟩
   ·
    rw [←eG1]
    exact (q8.GR (mi hP.to ht) (fun x hx=>by have:=(hT.cons (.inr rfl):Lo w.heap.size gb (gb :: T)) x hx;omega)).rd.g
   rw [←eG1]
   exact (DZ.g HNS).ok1 (Bi HC0.out rfl)
  have hnow:G1.now+G1.dr+G1.lst=0:=by rw [←eG1];rfl
  clear hP eG1 HNS HX3 HK3 HX HK HH HC0
  obtain ⟨S1,HX,hnow⟩:∃ S1,Hid (MaS w Y g w.heap.size gb cv S1)∧S1.now+S1.dr+S1.lst=0:=⟨G1,HM,hnow⟩
  clear HM
  exact Eb
 have HM:Hid (MaS w X g w.heap.size gb cv G0):=⟨HX.1,HK.out,HX.2.2,(HH.out rfl).1,(HH.out rfl).2.1,HX.2.1,by omega⟩
 have hnow:=(HH.out rfl).2.2
 clear HX HK HH
 obtain ⟨S1,HX,hnow⟩:∃ S1,Hid (MaS w X g w.heap.size gb cv S1)∧S1.now+S1.dr+S1.lst=0:=⟨G0,HM,hnow⟩
 clear HM
 exact Eb
theorem Code.upM {w':World} {len:Nat} (h:Code w.heap.size cv len w) (hb:Below w.heap.size w w'):Code w'.heap.size cv len w':=by
 rcases h with h | ⟨b,off,cap,hv,hb1,hl,hc⟩
 ·
  exact .inl h
 refine .inr ⟨b,off,cap,hv,Nat.lt_of_lt_of_le hb1 hb.size,hl,fun i hi=>?_⟩
 obtain ⟨z,hz,he⟩:=hc i hi
 exact ⟨z,hz,(World.cell?_of_block (w:=w) (a:=⟨b,off+i,none⟩) (hb.block b hb1)).trans he⟩
structure TkD (w W:World) (gs gn gm:Nat) (S N M:Swg):Prop where
 ks:W.heap[gs]?=some (.cells S.cells 34 (0,0))
 kn:W.heap[gn]?=some (.cells N.cells 34 (0,0))
 km:W.heap[gm]?=some (.cells M.cells 34 (0,0))
 rs:lr W S
 rn:lr W N
 rm:lr W M
 b:Below w.heap.size w W
theorem TkD.up {gs gn gm:Nat} {N M:Swg} (h:TkD w W gs gn gm S N M) (hb:Below W.heap.size W W'):TkD w W' gs gn gm S N M :=
 ⟨(hb.block _ (ig h.ks)).trans h.ks,(hb.block _ (ig h.kn)).trans h.kn,(hb.block _ (ig h.km)).trans h.km,h.rs.up hb,h.rn.up hb,h.rm.up hb,h.b.trans (hb.mono h.b.size)⟩
theorem xH:lY.Small:=⟨Nat.zero_le _,⟨Nat.zero_le _,Nat.zero_le _⟩,Nat.zero_le _,fun i hi=>absurd hi (Nat.not_lt_zero _),Nat.zero_le _,fun i hi=>absurd hi (Nat.not_lt_zero _)⟩
theorem oB:(Tryz.prog.info? 36).map (·.size)=some 5:=by kernel_rfl
abbrev zFr:Array Value:=#[.int .i64 0,.int .i64 0,.int .i64 0,.int .i64 0,.string ⟨#[]⟩]
theorem zD {fn:Func} {i j k:Tmp} {ty tz:TypeId} (h:fn.results=#[.cell i ty,.tmp j,.cell k tz]) (n:Nat) (d:TypeDesc) (hu:Tryz.prog.underlying ty=some d) (hd:d.isRow=true) (hn:(Tryz.prog.info? ty).map (·.size)=some n) (m:Nat) (c:TypeDesc) (hu2:Tryz.prog.underlying tz=some c) (hd2:c.isRow=true) (hm:(Tryz.prog.info? tz).map (·.size)=some m) (tmps:Array Value) (w:World) (g f:Nat) (cs ds:Array Value) (hi:tmps[i]?.getD undef=.pointer (some ⟨g,0,none⟩)) (hj:tmps[k]?.getD undef=.pointer (some ⟨f,0,none⟩)) (t u:TypeId) (hk:w.heap[g]?=some (.cells cs t (0,0))) (hl:w.heap[f]?=some (.cells ds u (0,0))) (hs:cs.size=n) (hs2:ds.size=m) (v:Value) (hv:tmps[j]?.getD undef=v) :
  (results fn tmps).run Tryz.prog w=.ok (.tuple #[.agg cs,v,.agg ds]) w:=by
 have h1:=run_loadVar_mid (P:=Tryz.prog) w g 0 ty cs.toList d (fun j v hv=>by
  rw [Nat.zero_add,ie hk,←Array.getElem?_toList];exact hv) hu hd (by rw [hn,Array.length_toList,hs])
 have h2:=run_loadVar_mid (P:=Tryz.prog) w f 0 tz ds.toList c (fun j v hv=>by
  rw [Nat.zero_add,ie hl,←Array.getElem?_toList];exact hv) hu2 hd2 (by rw [hm,Array.length_toList,hs2])
 rw [Array.toArray_toList] at h1 h2
 simp [results,h,hi,hj,hv,asAddr,h1,h2]
theorem Pkt.EP (x:Pkt):(Value.agg x.frc).cells.all (·.oneCell')=true:=by simp [Value.cells,Value.oneCell',Pkt.frc]
structure ArS (w w1 w2 W:World) (g0 g5:Nat) (cv:Value) (S:Swg):Prop where
 rd:Rd g0 cv W
 k:W.heap[g5]?=some (.cells S.cells 34 (0,0))
 z:W.heap[w.heap.size]?=some (.cells zSw 34 (0,0))
 f:W.heap[w.heap.size+1]?=some (.cells zFr 36 (0,0))
 tch:Touch [g0,w.heap.size,w.heap.size+1] w2 W
 b:Below w.heap.size w W
 lt:w.heap.size+1<g0∧g0<g5
theorem ArS.step (h:ArS w w1 w2 W g0 g5 cv S) (hr:Rd g0 cv W') (hk:Kept g0 W W'):ArS w w1 w2 W' g0 g5 cv S :=
 have l:=h.lt
 ⟨hr,rp hk h.k (by omega),rp hk h.z (by omega),rp hk h.f (by omega),h.tch.trans (hk.kk.mono (fun x hx=>by simp at hx;simp [hx])),h.b.trans (hk.below h.b.size (by omega)),h.lt⟩
theorem ArS.drew (h:ArS w w1 w2 W g0 g5 cv S):ArS w w1 w2 W.drew g0 g5 cv S:=h.step (h.rd.below ((Below.refl _ _).drew)) (Kept.jq ((Below.refl _ _).drew))
theorem ArS.fin {Z:World} (h:ArS w w1 w2 W g0 g5 cv S) (hE:MaE w1 w2 g0 cv S) (hg:g0<w1.heap.size) (hP:Put W Y w.heap.size S.cells 34) (hQ:Put Y Z (w.heap.size+1) x.frc 36) :
  Z.heap[w.heap.size]?=some (.cells S.cells 34 (0,0))∧Z.heap[w.heap.size+1]?=some (.cells x.frc 36 (0,0))∧lr Z S∧Below w.heap.size w Z :=
 have l:=h.lt
 have hb:Below w.heap.size w Y:=h.b.trans (hP.to.below h.b.size (fun x hx=>by simp at hx;omega))
 ⟨(hQ.to.block _ (ig hP.blk) (by simp)).trans hP.blk,hQ.blk,hE.hold [g0,w.heap.size,w.heap.size+1] Z (fun x hx=>by simp at hx;omega) ((h.tch.trans (hP.to.mono (fun x hx=>by simp at hx;simp [hx]))).trans (hQ.to.mono (fun x hx=>by simp at hx;simp [hx]))),hb.trans (hQ.to.below hb.size (fun x hx=>by simp at hx;omega))⟩
theorem ArS.fr (h:ArS w w1 w2 W g0 g5 cv S) (hP:Put W Y w.heap.size S.cells 34):Y.heap[w.heap.size+1]?=some (.cells zFr 36 (0,0))∧Y.heap[g5]?=some (.cells S.cells 34 (0,0)) :=
 have l:=h.lt
 ⟨(hP.to.block _ (ig h.f) (by simp)).trans h.f,(hP.to.block _ (ig h.k) (by simp;omega)).trans h.k⟩
theorem sS (cv:Value) (len:Nat) (w:World) (h:Code w.heap.size cv len w) (hs:∃ a n c,cv=.slice a n c) :
  Calls Tryz.prog 5 #[cv] w fun e w'=>∃ (S:Swg) (port:Int) (x:Pkt),e=.returned (.tuple #[.agg S.cells,.int .i64 port,.agg x.frc])∧S.Small∧S.Low∧x.b.size≤40∧lr w' S∧Below w.heap.size w w':=by
 obtain ⟨a0,n0,c0,rfl⟩:=hs
 generalize hcv:Value.slice a0 n0 c0=cv at *
 have e1:(w.alloc (.cells ab 34)).heap.size=w.heap.size+1:=by simp
 have hB:Below w.heap.size w ((w.alloc (.cells ab 34)).alloc (.cells #[.int .i64 0,.int .i64 0,.int .i64 0,.int .i64 0,.string ⟨#[]⟩] 36)):=((Below.refl _ _).alloc (Nat.le_refl _) _).alloc (by omega) _
 have kz:((w.alloc (.cells ab 34)).alloc (.cells #[.int .i64 0,.int .i64 0,.int .i64 0,.int .i64 0,.string ⟨#[]⟩] 36)).heap[w.heap.size]?=some (.cells zSw 34 (0,0)):=by rw [iH _ (by omega)];exact im _ _
 have kf:((w.alloc (.cells ab 34)).alloc (.cells #[.int .i64 0,.int .i64 0,.int .i64 0,.int .i64 0,.string ⟨#[]⟩] 36)).heap[w.heap.size+1]?=some (.cells zFr 36 (0,0)):=by rw [←e1];exact im _ _
 have hC0:=Code.upM h hB
 clear h e1
 go_enter Tryz.func5,Tryz.ntmps5
 go_wp2_with fail
 generalize (w.alloc (.cells ab 34)).alloc (.cells #[.int .i64 0,.int .i64 0,.int .i64 0,.int .i64 0,.string ⟨#[]⟩] 36)=W0 at *
 have hlt:w.heap.size+1<W0.heap.size:=ig kf
 refine (Dg cv len W0 hC0 ⟨a0,n0,c0,hcv.symm⟩).mono ?_
 rintro e w1 ⟨rfl,hR,hb⟩
 replace kz:=(hb.block _ (ig kz)).trans kz
 replace kf:=(hb.block _ (ig kf)).trans kf
 replace hB:=hB.trans (hb.mono hB.size)
 generalize W0.heap.size=g0 at *
 clear hb hC0
 go_wp2_with fail
 refine (yc g0 cv 16 _ hR (by omega) (by omega)).mono ?_
 rintro e w2 ⟨S,rfl,hE⟩
 have hz2:g0<w2.heap.size:=hE.rd.lt
 have hz3:g0<w1.heap.size:=hR.lt
 have HE:Hid (MaE w1 w2 g0 cv S∧g0<w1.heap.size):=⟨hE,hz3⟩
 have HQ:Hid ((w2.heap[w.heap.size]?=some (.cells zSw 34 (0,0))∧w2.heap[w.heap.size+1]?=some (.cells zFr 36 (0,0)))∧Below w.heap.size w w2):=⟨⟨rp hE.kept kz (by omega),rp hE.kept kf (by omega)⟩,hB.trans (hE.kept.below hB.size (by omega))⟩
 clear hR hE hB kz kf
 have HG:Hid ((w2.alloc (.cells ab 34)).heap[w2.heap.size]?=some (.cells ab 34 (0,0))):=im _ _
 go_wp2_with (refine iq rfl 34 (.tmp 6) (.tmp 10) rfl w2.heap.size 0 rfl (.agg S.cells) rfl 17 rfl 34 _ HG iX (Nat.le_of_ble_eq_true rfl) (Swg.lF _) ?_)
 intro w3 hP
 replace hP:Put _ w3 w2.heap.size S.cells 34:=hP.cast rfl
 have hb:Below w2.heap.size w2 w3:=((Below.refl _ _).alloc (Nat.le_refl _) _).trans (hP.to.below (by simp) (fun y hy=>by simp at hy;omega))
 have K5:=aa hP.blk
 clear hP HG
 have HX:Hid (ArS w w1 w2 w3 g0 w2.heap.size cv S):=⟨HE.1.rd.below hb,K5.out,(hb.block _ (ig HQ.1.1)).trans HQ.1.1,(hb.block _ (ig HQ.1.2)).trans HQ.1.2,Touch.jq hb,HQ.2.trans (hb.mono HQ.2.size),⟨hlt,hz2⟩⟩
 clear hb K5 HQ
 generalize w2.heap.size=g5 at *
 go_wp2_with fail
 refine (uQ g0 cv 12 _ HX.rd (by omega) (by omega)).mono ?_
 rintro e w4 ⟨bb,rfl,hr,hk⟩
 replace HX:=aa (HX.step hr hk)
 clear hr hk
 generalize w4=w3 at *
 cases bb
 rotate_left
 ·
  go_wp2_with fail
  refine wp_region_held_drew (S:=fun w':World=>w'.heap[g5]?=some (.cells S.cells 34 (0,0))) (by kernel_rfl) HX.drew.k (fun hHeld=>?_)
  replace HX:=aa HX.drew
  generalize w3.drew=V at *
  refine tC 0 13 (v:=.agg S.cells) (fun wx hSw=>jg 34 17 _ Tryz.underlying34 rfl iX (.tmp 6) rfl g5 0 rfl S.cells rfl (fun j _=>by rw [Nat.zero_add];exact ie hSw j)) ?_
  try simp only [Act.put,PZ]
  refine tQ 1 14 ?_
  refine tQ 3 16 ?_
  refine rq1 2 (fun K hK=>?_)
  go_simp
  refine (qG g0 cv 0 3 _ HX.rd (by omega) (by omega) (by omega)).mono ?_
  rintro e V1 ⟨x9,rfl,hr,hk⟩
  replace HX:=aa (HX.step hr hk)
  have hSn:=HX.k
  clear hr hk
  go_wp2_with fail
  refine ah (hK _ _ hSn) ?_
  intro hHeld
  clear hK K
  clear hSn
  refine rq1 4 (fun K hK=>?_)
  go_simp
  refine (sQ g0 cv _ HX.rd).mono ?_
  rintro e V2 ⟨fk,fd,fs,fp,fb,hfb,rfl,hr,hk⟩
  replace HX:=aa (HX.step hr hk)
  have hSn:=HX.k
  clear hr hk
  obtain ⟨y,ey⟩:∃ y:Pkt,(⟨0,0,0,fk,fd,fs,fp,fb⟩:Pkt)=y:=⟨_,rfl⟩
  have eF:(#[.int .i64 fk,.int .i64 fd,.int .i64 fs,.int .i64 fp,.string fb]:Array Value)=y.frc:=by rw [←ey];rfl
  have hyb:y.b.size≤40:=by rw [←ey];exact hfb
  rw [eF]
  clear eF ey hfb
  go_wp2_with fail
  refine ah (hK _ _ hSn) ?_
  intro hHeld
  clear hK K
  clear hSn
  refine rq1 5 (fun K hK=>?_)
  refine jn (by kernel_rfl) none rfl 34 (.tmp 2) (.tmp 13) rfl w.heap.size 0 rfl (.agg S.cells) rfl 17 rfl 34 _ HX.z iX (Nat.le_of_ble_eq_true rfl) (Swg.lF _) ?_
  intro Y hP
  replace hP:Put V2 Y w.heap.size S.cells 34:=hP.cast rfl
  have HY:=aa (HX.fr hP)
  have hS9:=HY.2
  refine ah (hK _ _ hS9) ?_
  intro hHeld
  clear hK K
  clear hS9
  refine tQ 6 3 ?_
  refine rq1 7 (fun K hK=>?_)
  refine jn (by kernel_rfl) none rfl 36 (.tmp 4) (.tmp 17) rfl (w.heap.size+1) 0 rfl (.agg y.frc) rfl 5 rfl 36 _ HY.1 oB (Nat.le_of_ble_eq_true rfl) (Pkt.EP _) ?_
  exact gV
 go_wp2_with fail
 refine wp_region_held_drew (S:=fun w':World=>w'.heap[g5]?=some (.cells S.cells 34 (0,0))) (by kernel_rfl) HX.drew.k (fun hHeld=>?_)
 replace HX:=aa HX.drew
 generalize w3.drew=V at *
 refine tC 0 18 (v:=.agg S.cells) (fun wx hSw=>jg 34 17 _ Tryz.underlying34 rfl iX (.tmp 6) rfl g5 0 rfl S.cells rfl (fun j _=>by rw [Nat.zero_add];exact ie hSw j)) ?_
 try simp only [Act.put,PZ]
 refine tQ 1 19 ?_
 refine tQ 3 21 ?_
 refine rq1 2 (fun K hK=>?_)
 go_simp
 refine (jb g0 cv 2 _ HX.rd (by omega) (by omega)).mono ?_
 rintro e V1 ⟨x9,hx9,rfl,hr,hk⟩
 replace HX:=aa (HX.step hr hk)
 have hSn:=HX.k
 clear hr hk
 go_wp2_with fail
 refine ah (hK _ _ hSn) ?_
 intro hHeld
 clear hK K
 clear hSn
 refine rq1 4 (fun K hK=>?_)
 go_simp
 refine (sQ g0 cv _ HX.rd).mono ?_
 rintro e V2 ⟨fk,fd,fs,fp,fb,hfb,rfl,hr,hk⟩
 replace HX:=aa (HX.step hr hk)
 have hSn:=HX.k
 clear hr hk
 obtain ⟨y,ey⟩:∃ y:Pkt,(⟨0,0,0,fk,fd,fs,fp,fb⟩:Pkt)=y:=⟨_,rfl⟩
 have eF:(#[.int .i64 fk,.int .i64 fd,.int .i64 fs,.int .i64 fp,.string fb]:Array Value)=y.frc:=by rw [←ey];rfl
 have hyb:y.b.size≤40:=by rw [←ey];exact hfb
 rw [eF]
 clear eF ey hfb
 go_wp2_with fail
 refine ah (hK _ _ hSn) ?_
 intro hHeld
 clear hK K
 clear hSn
 refine rq1 5 (fun K hK=>?_)
 refine jn (by kernel_rfl) none rfl 34 (.tmp 2) (.tmp 18) rfl w.heap.size 0 rfl (.agg S.cells) rfl 17 rfl 34 _ HX.z iX (Nat.le_of_ble_eq_true rfl) (Swg.lF _) ?_
 intro Y hP
 replace hP:Put V2 Y w.heap.size S.cells 34:=hP.cast rfl
 have HY:=aa (HX.fr hP)
 have hS9:=HY.2
 refine ah (hK _ _ hS9) ?_
 intro hHeld
 clear hK K
 clear hS9
 refine tQ 6 3 ?_
 refine rq1 7 (fun K hK=>?_)
 refine jn (by kernel_rfl) none rfl 36 (.tmp 4) (.tmp 22) rfl (w.heap.size+1) 0 rfl (.agg y.frc) rfl 5 rfl 36 _ HY.1 oB (Nat.le_of_ble_eq_true rfl) (Pkt.EP _) ?_
 exact gV
