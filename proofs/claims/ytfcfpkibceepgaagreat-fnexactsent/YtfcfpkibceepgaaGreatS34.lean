import Derived.Test.YtfcfpkibceepgaaGreatS17
import Derived.Test.YtfcfpkibceepgaaGreatS32
namespace Go.Proofs.YtfcfpkibceepgaaGreat
set_option maxRecDepth 100000
open Go.RowKit
set_option linter.unusedVariables false
set_option linter.unusedSimpArgs false
theorem fF {p:Prop} (h:p:=by
 have HK:Hid (X.heap[w.heap.size+1]?=some (.cells lQ.cells 40 (0,0))):=hP.blk
 have HB2:Hid (Below w.heap.size w X):=HX.out.bel.trans (hP.to.below HX.out.bel.size (fun x hx=>by simp at hx;omega))
 clear hP
 go_wp2_with fail
 rw [HF.out.1,HF.out.2.1,HF.out.2.2]
 exact bodyPost_ret (mn Tryz.results5 17 _ Tryz.underlying40 rfl fZ _ _ (w.heap.size+1) lQ.cells rfl 40 HK.out rfl (.slice none 0 0) rfl (.bool false) rfl) rfl ⟨lQ,none,0,rfl,ga.refl _,(wz _ _).half _,OG.nil _ _ _ _,HB2.out⟩):p:=h
set_option maxHeartbeats 4000000 in
theorem yE (S S':Swg) (port:Int) (fs:List Pkt) (w:World) (hs:S.Small) (hr:j4 w S) (b:Bool) (hm:oO S S' port fs b) :
  Calls Tryz.prog 5 #[.agg S.cells,.int .i64 port] w fun e w'=>∃ S2 a c,e=.returned (.tuple #[.agg S2.cells,.slice a fs.length c,.bool b])∧ga S' S2∧jd w' w.heap.size S2 S2.nL∧OG 74 5 w' w.heap.size a fs.length c (tV fs.length fun i=>(fsF fs i).frame)∧Below w.heap.size w w':=by
 obtain ⟨ok,hok⟩:=iA S.Ok
 have HO:Hid (ok=true↔S.Ok):=hok
 have HM:Hid (oO S S' port fs b):=hm
 have HR:Hid (j4 w S):=hr
 have HS:Hid S.Small:=hs
 obtain ⟨W,eW⟩:∃ W,(w.alloc (.cells S.cells 40)).alloc (.cells #[.int .i64 0,.int .i64 0,.int .i64 0,.int .i64 0,.int .i64 0,.int .i64 0,.int .i64 0,.int .i64 0,.int .i64 0,.slice none 0 0,.slice none 0 0,.int .i64 0,.slice none 0 0,.slice none 0 0,.slice none 0 0,.int .i64 0,.int .i64 0] 40)=W:=⟨_,rfl⟩
 have HX:Hid (Two w S.cells zSw 40 W):=by rw [←eW];exact Two.start _ _ _ _
 have HL:Hid (∀ j,j<17→W.cell? ⟨w.heap.size,0+j,none⟩=S.cells[j]?):=fun j _=>by rw [Nat.zero_add];exact fG HX.out.a j
 clear hs hr hok hm
 go_enter Tryz.func5,Tryz.ntmps5
 go_wp2_with (refine fP rfl 40 17 _ Tryz.underlying40 rfl fZ (.tmp 2) rfl (w.heap.size) 0 rfl S.cells rfl HL.out ?_)
 clear eW HL
 refine (qY S _ HS.out (HR.out.up HX.out.bel) ok HO.out).mono ?_
 rintro e w1 ⟨rfl,hbl⟩
 replace HX:Hid (Two w S.cells zSw 40 w1):=HX.out.up hbl
 clear hbl
 have HD:Hid (w1.heap[w.heap.size+1]?=some (.cells zSw 40 (0,0))):=HX.out.b
 cases ok
 ·
  have HF:Hid (b=false∧S'=lQ∧fs=[]):=by
   rcases HM.out with ⟨_,h,_⟩ | ⟨h1,_,h2,h3⟩
   ·
    exact absurd (HO.out.2 h) (by simp)
   exact ⟨h1,h2,h3⟩
  go_wp2_with (refine fJ rfl 40 (.tmp 4) (.tmp 21) rfl (w.heap.size+1) 0 rfl (.agg #[.int .i64 0,.int .i64 0,.int .i64 0,.int .i64 0,.int .i64 0,.int .i64 0,.int .i64 0,.int .i64 0,.int .i64 0,.slice none 0 0,.slice none 0 0,.int .i64 0,.slice none 0 0,.slice none 0 0,.slice none 0 0,.int .i64 0,.int .i64 0]) rfl 17 rfl 40 _ HD.out fZ (Nat.le_of_ble_eq_true rfl) (by simp [Value.cells,Value.oneCell']) ?_)
  intro X hP
  replace hP:Put w1 X (w.heap.size+1) lQ.cells 40:=hP.cast rfl
  exact fF
 have HOk:Hid S.Ok:=HO.out.1 rfl
 have hp4:=HOk.out.n.c.num.p
 have c0:w1.cell? ⟨w.heap.size,0,none⟩=some (.int .i64 S.C.p):=fG HX.out.a 0
 have hw0:IntKind.i64.wrap (S.C.p-1)=S.C.p-1:=mM _ (by omega) (by omega)
 go_wp2_with fail
 refine (fW port 0 (S.C.p-1) _).mono ?_
 rintro e w2 ⟨rfl,hw2⟩
 subst hw2
 clear c0 hw0
 by_cases hport:0≤port∧port≤S.C.p-1
 rotate_left
 ·
  have hdec:decide (0≤port∧port≤S.C.p-1)=false:=by simp only [decide_eq_false_iff_not];exact hport
  have HF:Hid (b=false∧S'=lQ∧fs=[]):=by
   rcases HM.out with ⟨_,h,i,rfl,hi,_⟩ | ⟨h1,_,h2,h3⟩
   ·
    have:=h.nl
    exact absurd (by omega) hport
   exact ⟨h1,h2,h3⟩
  rw [hdec]
  clear hport hdec
  go_wp2_with (refine fJ rfl 40 (.tmp 4) (.tmp 21) rfl (w.heap.size+1) 0 rfl (.agg #[.int .i64 0,.int .i64 0,.int .i64 0,.int .i64 0,.int .i64 0,.int .i64 0,.int .i64 0,.int .i64 0,.int .i64 0,.slice none 0 0,.slice none 0 0,.int .i64 0,.slice none 0 0,.slice none 0 0,.slice none 0 0,.int .i64 0,.int .i64 0]) rfl 17 rfl 40 _ HD.out fZ (Nat.le_of_ble_eq_true rfl) (by simp [Value.cells,Value.oneCell']) ?_)
  intro X hP
  replace hP:Put w2 X (w.heap.size+1) lQ.cells 40:=hP.cast rfl
  exact fF
 have hdec:decide (0≤port∧port≤S.C.p-1)=true:=by simp only [decide_eq_true_eq];exact hport
 have HF:Hid (b=true∧∃ i:Nat,port=(i:Int)∧i<S.nL∧lJ S S' i fs):=by
  rcases HM.out with ⟨h1,h,h2⟩ | ⟨h1,h2,_⟩
  ·
   exact ⟨h1,h2⟩
  exact absurd ⟨HOk.out,hport⟩ h2
 obtain ⟨hb1,i,rfl,hi,hsm⟩:=HF.out
 have HSM:Hid (lJ S S' i fs∧i<S.nL∧b=true):=⟨hsm,hi,hb1⟩
 have HL:Hid (∀ j,j<17→w2.cell? ⟨w.heap.size,0+j,none⟩=S.cells[j]?):=fun j _=>by rw [Nat.zero_add];exact fG HX.out.a j
 rw [hdec]
 clear hport hdec HM HF hb1 hi hsm
 go_wp2_with (refine fP rfl 40 17 _ Tryz.underlying40 rfl fZ (.tmp 2) rfl (w.heap.size) 0 rfl S.cells rfl HL.out ?_)
 clear HL
 have HW1:Hid (w.heap.size+1<w2.heap.size):=fH HX.out.b
 refine (xH S S' fs i _ HS.out (HR.out.up HX.out.bel) HOk.out HSM.out.2.1 HSM.out.1).mono ?_
 rintro e w3 ⟨P,a,c,rfl,aP,hP0,oF,hbl⟩
 replace HX:Hid (Two w S.cells zSw 40 w3):=HX.out.up hbl
 have HP:Hid (ga S' P∧jd w3 w2.heap.size P P.nL∧OG 74 5 w3 w2.heap.size a fs.length c (tV fs.length fun i=>(fsF fs i).frame)∧w2.heap.size≤w3.heap.size):=⟨aP,hP0,oF,hbl.size⟩
 clear aP hP0 oF hbl HD
 have HG:Hid ((w3.alloc (.cells #[.int .i64 0,.int .i64 0,.int .i64 0,.int .i64 0,.int .i64 0,.int .i64 0,.int .i64 0,.int .i64 0,.int .i64 0,.slice none 0 0,.slice none 0 0,.int .i64 0,.slice none 0 0,.slice none 0 0,.slice none 0 0,.int .i64 0,.int .i64 0] 40)).heap[w3.heap.size]?=some (.cells #[.int .i64 0,.int .i64 0,.int .i64 0,.int .i64 0,.int .i64 0,.int .i64 0,.int .i64 0,.int .i64 0,.int .i64 0,.slice none 0 0,.slice none 0 0,.int .i64 0,.slice none 0 0,.slice none 0 0,.slice none 0 0,.int .i64 0,.int .i64 0] 40 (0,0))):=fL _ _
 go_wp2_with (refine fJ rfl 40 (.tmp 7) (.tmp 26) rfl (w3.heap.size) 0 rfl (.agg P.cells) rfl 17 rfl 40 _ HG.out fZ (Nat.le_of_ble_eq_true rfl) (Swg.lL _) ?_)
 intro X0 hP
 replace hP:Put _ X0 w3.heap.size P.cells 40:=hP.cast rfl
 have hbl:Below w3.heap.size w3 X0:=((Below.refl _ _).alloc (Nat.le_refl _) _).trans (hP.to.below (by simp) (fun x hx=>by simp at hx;omega))
 replace HX:Hid (Two w S.cells zSw 40 X0):=HX.out.up hbl
 replace HP:Hid (ga S' P∧jd X0 w2.heap.size P P.nL∧OG 74 5 X0 w2.heap.size a fs.length c (tV fs.length fun i=>(fsF fs i).frame)):=⟨HP.out.1,HP.out.2.1.up hbl,HP.out.2.2.1.up hbl⟩
 have HL:Hid (∀ j,j<17→X0.cell? ⟨w3.heap.size,0+j,none⟩=P.cells[j]?):=fun j _=>by rw [Nat.zero_add];exact fG hP.blk j
 have HD:Hid (X0.heap[w.heap.size+1]?=some (.cells zSw 40 (0,0))):=HX.out.b
 clear hP HG hbl
 go_wp2_with (first | refine fP rfl 40 17 _ Tryz.underlying40 rfl fZ (.tmp 7) rfl (w3.heap.size) 0 rfl P.cells rfl HL.out ?_ | refine fJ rfl 40 (.tmp 4) (.tmp 28) rfl (w.heap.size+1) 0 rfl (.agg P.cells) rfl 17 rfl 40 _ HD.out fZ (Nat.le_of_ble_eq_true rfl) (Swg.lL _) ?_)
 intro X hP
 replace hP:Put X0 X (w.heap.size+1) P.cells 40:=hP.cast rfl
 have HK:Hid (X.heap[w.heap.size+1]?=some (.cells P.cells 40 (0,0))):=hP.blk
 have HFF:Hid (jd X w.heap.size P P.nL∧OG 74 5 X w.heap.size a fs.length c (tV fs.length fun i=>(fsF fs i).frame)∧Below w.heap.size w X):=by
  have hlt:=HW1.out
  exact ⟨(HP.out.2.1.low hP.to (fun x hx=>by simp at hx;omega)).mono (by omega),(HP.out.2.2.low hP.to (fun x hx=>by simp at hx;omega)).mono (by omega),HX.out.bel.trans (hP.to.below HX.out.bel.size (fun x hx=>by simp at hx;omega))⟩
 clear hP HL HD
 go_wp2_with fail
 rw [HSM.out.2.2]
 exact bodyPost_ret (mn Tryz.results5 17 _ Tryz.underlying40 rfl fZ _ _ (w.heap.size+1) P.cells rfl 40 HK.out rfl (.slice a fs.length c) rfl (.bool true) rfl) rfl ⟨P,a,c,rfl,HP.out.1,HFF.out.1,HFF.out.2.1,HFF.out.2.2⟩
end Go.Proofs.YtfcfpkibceepgaaGreat
