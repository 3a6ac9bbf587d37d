import Derived.Test.YthicmlolanifhaaGreatK31
import Derived.Test.YthicmlolanifhaaGreatK34
import Derived.Test.YthicmlolanifhaaGreatRows
import Derived.Below
import Derived.BigQuiet
import Derived.ChangeOld
import Derived.Deep.QuietTactic
import Derived.OpenShut
import Derived.ProofKit
import Derived.ShutString
namespace Go.Proofs.YthicmlolanifhaaGreat
set_option maxRecDepth 100000
set_option maxHeartbeats 9000000
open Go.RowKit
set_option linter.unusedVariables false
set_option linter.unusedSimpArgs false
theorem fV {p:Prop} (h:p:=by
 refine hK.out _ _ ?_
 clear hK K
 try simp only [Act.put,PZ]
 refine qY (by kernel_rfl) ?_ _
 replace hP:Put D2 D3 g6 ({ Y2 with N:=M }:Swg).cells 34:=hP.cast rfl
 have HE:Hid (iA (kW Y.N (Y.K j).inn (Y.K j).p (-(Y.K j).cl)) M∧SpS w S { Y2 with N:=M } b g6 D3∧jU D3 b { Y2 with N:=M } Y2.nL∧OG 43 5 D3 b (some ⟨g1,0,none⟩) (ts.length+1) c3 (tV (ts.length+1) fun k=>(fsF fs k).frame)):=⟨HD2.out.2.2.2.2.1,HD2.out.1.put hP,((HD2.out.2.1.box HD2.out.1.o hP.to ⟨by decide,by decide,by decide,by decide⟩ (HD2.out.2.1.k.pY HD2.out.1.o (by decide)) (HD2.out.2.1.l.pY HD2.out.1.o (by decide))).Fl (HD2.out.2.2.2.1.Fj HD2.out.1.o (by decide) (by decide) hP.to) (Nat.le_of_lt HD2.out.2.2.2.2.2)),HD2.out.2.2.1.gX hP.to (fun x hx hy=>HD2.out.2.2.1.lF (by decide) HD2.out.1.o (by simp at hy;rw [←hy];exact hx))⟩
 clear hP HD2 hT2 HU HY HE1 HE2 HA1
 go_wp2_with fail
 go_meet
 case rel=>exact ⟨M,HE⟩):p:=h
theorem fW {p:Prop} (h:p:=by
 go_wp2_with (refine gW rfl 34 (.tmp 2) (.tmp 13) rfl (w.heap.size+1) 0 rfl (.agg #[.int .i64 0,.int .i64 0,.int .i64 0,.int .i64 0,.int .i64 0,.int .i64 0,.int .i64 0,.int .i64 0,.int .i64 0,.slice none 0 0,.slice none 0 0,.int .i64 0,.slice none 0 0,.slice none 0 0,.slice none 0 0,.int .i64 0,.int .i64 0]) rfl 17 rfl 34 _ HD.out ij (Nat.le_of_ble_eq_true rfl) (by simp [Value.cells,Value.oneCell']) ?_)
 intro X hP
 replace hP:Put w1 X (w.heap.size+1) kQ.cells 34:=hP.cast rfl
 have HK:Hid (X.heap[w.heap.size+1]?=some (.cells kQ.cells 34 (0,0))):=hP.blk
 have HB2:Hid (Below w.heap.size w X):=HX.out.bel.trans (hP.to.below HX.out.bel.size (fun x hx=>by simp at hx;omega))
 clear hP c7
 go_wp2_with fail
 rw [HF.out]
 exact bodyPost_ret (jI Tryz.results13 17 _ Tryz.underlying34 rfl ij _ _ (w.heap.size+1) kQ.cells rfl 34 HK.out rfl (.bool false) rfl) rfl ⟨kQ,rfl,hG.refl _,qL _ _,HB2.out⟩):p:=h
theorem fY {p:Prop} (h:p:=by
 go_wp2_with fail
 go_loopw [5] (fun i wr=>∃ k:Nat,k≤n∧i=.int .i64 k∧Same w wr) (fun i _=>n-(intOf i).toNat)
 case atStart=>exact ⟨0,Nat.zero_le _,rfl,Same.refl _⟩
 obtain ⟨k,hk,rfl,hS⟩:=hrel
 by_cases hlt:k<n
 ·
  obtain ⟨g1,o1,rfl,e1⟩:=h1 k hlt
  obtain ⟨g2,o2,rfl,e2⟩:=h2 k hlt
  rw [←hS.cell] at e1 e2
  dsimp only at e1 e2
  have hbb:(f k != f k)=false:=by simp
  clear h1 h2
  have hlt':(k:Int)<n:=by omega
  go_wp2_with fail
  go_quiet (fail)
  go_wp2_with fail
  go_roundw
  case rel=>exact ⟨k+1,by omega,by go_num,hS.drewN _⟩
  case measure=>simp [intOf];omega
 obtain rfl:k=n:=by omega
 go_wp2_with fail
 go_ret
 exact ⟨rfl,hS⟩):p:=h
theorem fZ {p:Prop} (h:p:=by
 go_wp2_with fail
 go_meet
 case rel=>exact ⟨by rw [hid],_,HE⟩):p:=h
theorem gi {p:Prop} (h:p:=by
 rw [HLL.out.1]
 unfold iU
 split
 ·
  simp
 have:=HZ.out.2.2.1
 simp;omega):p:=h
theorem gj {p:Prop} (h:p:=by
 go_wp2_with fail
 go_meet
 case rel=>exact ⟨by rw [hd],rfl⟩):p:=h
theorem yT (S S':Swg) (fs:List Pkt) (i:Nat) (w:World) (hs:S.Small) (hr:jK w S) (hok:S.Ok) (hi:i<S.nL) (hm:o6 S S' i fs) :
  Calls Tryz.prog 28 #[.agg S.cells,.int .i64 (i:Int)] w fun e w'=>∃ S2 a c,e=.returned (.tuple #[.agg S2.cells,.slice a fs.length c])∧hG S' S2∧jU w' w.heap.size S2 S2.nL∧OG 43 5 w' w.heap.size a fs.length c (tV fs.length fun i=>(fsF fs i).frame)∧Below w.heap.size w w':=by
 have HM:Hid (o6 S S' i fs∧i<S.nL∧S.Ok):=⟨hm,hi,hok⟩
 have HR:Hid (jK w S):=hr
 have HS:Hid S.Small:=hs
 obtain ⟨_,_,_,ht4,ht5⟩:=xT hok
 have hiU:i<S.N.nU:=by have:=hok.nl;have:=hok.n.nU;omega
 have hiP:i<S.N.nP:=by have:=hok.nl;have:=hok.n.nP;omega
 obtain ⟨W,eW⟩:∃ W,(w.alloc (.cells S.cells 34)).alloc (.cells #[.int .i64 0,.int .i64 0,.int .i64 0,.int .i64 0,.int .i64 0,.int .i64 0,.int .i64 0,.int .i64 0,.int .i64 0,.slice none 0 0,.slice none 0 0,.int .i64 0,.slice none 0 0,.slice none 0 0,.slice none 0 0,.int .i64 0,.int .i64 0] 34)=W:=⟨_,rfl⟩
 have HX:Hid (Two w S.cells zSw 34 W):=by rw [←eW];exact Two.start _ _ _ _
 have HL:Hid (∀ j,j<17→W.cell? ⟨w.heap.size,0+j,none⟩=S.cells[j]?):=fun j _=>by rw [Nat.zero_add];exact gM HX.out.a j
 clear hs hr hok hm hi
 go_enter Tryz.func28,Tryz.ntmps28
 go_wp2_with (refine gY rfl 34 17 _ Tryz.underlying34 rfl ij (.tmp 2) rfl (w.heap.size) 0 rfl S.cells rfl HL.out ?_)
 clear eW HL
 refine (p8 S _ HS.out ht4 ht5 (HR.out.up HX.out.bel)).mono ?_
 rintro e w3 ⟨P,rfl,aP,oP,hbl⟩
 replace HX:Hid (Two w S.cells zSw 34 w3∧w.heap.size+1<W.heap.size∧W.heap.size≤w3.heap.size):=⟨HX.out.up hbl,gO HX.out.b,hbl.size⟩
 have HP:Hid (hG S P∧ir w3 W.heap.size P):=⟨aP,oP⟩
 clear aP oP hbl
 obtain ⟨b,eb⟩:∃ b,W.heap.size=b:=⟨_,rfl⟩
 rw [eb] at HX HP
 clear eb
 have HG:Hid ((w3.alloc (.cells #[.int .i64 0,.int .i64 0,.int .i64 0,.int .i64 0,.int .i64 0,.int .i64 0,.int .i64 0,.int .i64 0,.int .i64 0,.slice none 0 0,.slice none 0 0,.int .i64 0,.slice none 0 0,.slice none 0 0,.slice none 0 0,.int .i64 0,.int .i64 0] 34)).heap[w3.heap.size]?=some (.cells #[.int .i64 0,.int .i64 0,.int .i64 0,.int .i64 0,.int .i64 0,.int .i64 0,.int .i64 0,.int .i64 0,.int .i64 0,.slice none 0 0,.slice none 0 0,.int .i64 0,.slice none 0 0,.slice none 0 0,.slice none 0 0,.int .i64 0,.int .i64 0] 34 (0,0))):=gV _ _
 go_wp2_with (refine gW rfl 34 (.tmp 6) (.tmp 19) rfl (w3.heap.size) 0 rfl (.agg P.cells) rfl 17 rfl 34 _ HG.out ij (Nat.le_of_ble_eq_true rfl) (Swg.lx _) ?_)
 intro X0 hP
 replace hP:Put _ X0 w3.heap.size P.cells 34:=hP.cast rfl
 have hbl:Below w3.heap.size w3 X0:=((Below.refl _ _).alloc (Nat.le_refl _) _).trans (hP.to.below (by simp) (fun x hx=>by simp at hx;omega))
 have hT:=HX.out.1.up hbl
 have HX0:Hid (SpS w S P b w3.heap.size X0∧ir X0 b P):=⟨⟨hT.a,hT.b,hP.blk,hT.bel,HX.out.2.1,HX.out.2.2⟩,HP.out.2.up hbl⟩
 have HPA:Hid (hG S P):=HP.out.1
 clear hP HG hbl hT HX HP
 obtain ⟨g6,e6⟩:∃ g,w3.heap.size=g:=⟨_,rfl⟩
 rw [e6] at HX0 ⊢
 clear e6
 obtain ⟨X1,e1⟩:∃ V,X0.alloc (.cells #[] 43)=V:=⟨_,rfl⟩
 have HX1:Hid (SpS w S P b g6 X1∧ir X1 b P∧OG 43 5 X1 b (some ⟨X0.heap.size,0,none⟩) 0 0 []):=by
  rw [←e1]
  have hb:Below X0.heap.size X0 (X0.alloc (.cells #[] 43)):=(Below.refl _ _).alloc (Nat.le_refl _) _
  exact ⟨HX0.out.1.up hb,HX0.out.2.up hb,OG.new _ _ _ _ (Nat.le_of_lt HX0.out.1.size)⟩
 clear HX0
 have HLc:Hid (∀ j,j<7→X1.cell? ⟨w.heap.size,0+j,none⟩=S.C.cells[j]?):=fun j hj=>by
  rw [Nat.zero_add,gM HX1.out.1.a]
  have:j=0∨j=1∨j=2∨j=3∨j=4∨j=5∨j=6:=by omega
  rcases this with rfl | rfl | rfl | rfl | rfl | rfl | rfl <;> rfl
 have HLn:Hid (∀ j,j<3→X1.cell? ⟨w.heap.size,10+j,none⟩=S.N.cells[j]?):=fun j hj=>by
  rw [gM HX1.out.1.a]
  have:j=0∨j=1∨j=2:=by omega
  rcases this with rfl | rfl | rfl <;> rfl
 go_wp2_with (first | refine gY rfl 25 7 _ Tryz.underlying25 rfl AP (.tmp 22) rfl (w.heap.size) 0 rfl S.C.cells rfl HLc.out ?_ | refine gY rfl 30 3 _ Tryz.underlying30 rfl oY (.tmp 24) rfl (w.heap.size) 10 rfl S.N.cells rfl HLn.out ?_)
 clear HLc HLn e1
 refine (yU S.C S.N i _ hiU hiP HS.out.n (HR.out.n.up HX1.out.1.bel)).mono ?_
 rintro e w5 ⟨M,rfl,oM,hb5,aM⟩
 obtain ⟨fl,efl⟩:∃ f,flN S.C S.N i=f:=⟨_,rfl⟩
 rw [efl]
 have Hfl:Hid (flN S.C S.N i=fl):=efl
 clear efl
 obtain ⟨gl,el⟩:∃ g,X0.heap.size=g:=⟨_,rfl⟩
 rw [el] at HX1 ⊢
 clear el
 have hz1:=HX1.out.1.size
 have HX5:Hid (SpS w S P b g6 w5∧ir w5 b { P with N:=M }∧OG 43 5 w5 b (some ⟨gl,0,none⟩) 0 0 []∧iA (lY S.C S.N i) M):=⟨HX1.out.1.up hb5,(HX1.out.2.1.up hb5).Fl HX1.out.2.1 oM (by omega),HX1.out.2.2.up hb5,aM⟩
 clear HX1 oM hb5 aM hz1 hiU hiP ht4 ht5
 have HG8:Hid ((w5.alloc (.cells #[.slice none 0 0,.int .i64 0,.slice none 0 0] 30)).heap[w5.heap.size]?=some (.cells #[.slice none 0 0,.int .i64 0,.slice none 0 0] 30 (0,0))):=gV _ _
 go_wp2_with (refine gW rfl 30 (.tmp 8) (.tmp 28) rfl (w5.heap.size) 0 rfl (.agg M.cells) rfl 3 rfl 30 _ HG8.out oY (Nat.le_of_ble_eq_true rfl) (Cnt.lx _) ?_)
 intro X2 hP
 replace hP:Put _ X2 w5.heap.size M.cells 30:=hP.cast rfl
 have hbl:Below w5.heap.size w5 X2:=((Below.refl _ _).alloc (Nat.le_refl _) _).trans (hP.to.below (by simp) (fun x hx=>by simp at hx;omega))
 have HX2:Hid (SpS w S P b g6 X2∧ir X2 b { P with N:=M }∧OG 43 5 X2 b (some ⟨gl,0,none⟩) 0 0 []∧iA (lY S.C S.N i) M∧X2.heap[w5.heap.size]?=some (.cells M.cells 30 (0,0))):=⟨HX5.out.1.up hbl,HX5.out.2.1.up hbl,HX5.out.2.2.1.up hbl,HX5.out.2.2.2,hP.blk⟩
 clear hP hbl HX5 HG8
 obtain ⟨g8,e8⟩:∃ g,w5.heap.size=g:=⟨_,rfl⟩
 rw [e8] at HX2 ⊢
 clear e8
 have HL8:Hid (∀ j,j<3→X2.cell? ⟨g8,0+j,none⟩=M.cells[j]?):=fun j _=>by rw [Nat.zero_add];exact gM HX2.out.2.2.2.2 j
 have HO6:Hid (X2.heap[g6]?=some (.cells P.cells 34 (0,0))):=HX2.out.1.o
 go_wp2_with (first | refine gY rfl 30 3 _ Tryz.underlying30 rfl oY (.tmp 8) rfl g8 0 rfl M.cells rfl HL8.out ?_ | refine gW rfl 30 (.tmp 31) (.tmp 30) rfl g6 10 rfl (.agg M.cells) rfl 3 rfl 34 _ HO6.out oY (Nat.le_of_ble_eq_true rfl) (Cnt.lx _) ?_)
 intro X3 hP
 replace hP:Put X2 X3 g6 ({ P with N:=M }:Swg).cells 34:=hP.cast rfl
 have hAX:hG (S.flip i) { P with N:=M }:=by
  have h:=HPA.out
  exact ⟨h.c,h.now,h.nx,h.nE,h.e,HX2.out.2.2.2.1,h.nK,h.k,h.nL,h.l,h.dr,h.lst⟩
 obtain ⟨X,eX⟩:∃ X:Swg,{ P with N:=M }=X:=⟨_,rfl⟩
 have eXN:X.N=M:=by rw [←eX]
 have HX3:Hid (SpS w S X b g6 X3∧ir X3 b X∧OG 43 5 X3 b (some ⟨gl,0,none⟩) 0 0 []):=by
  rw [←eX]
  exact ⟨HX2.out.1.put hP,HX2.out.2.1.off HX2.out.1.o hP.to,HX2.out.2.2.1.gX hP.to (fun x hx hy=>HX2.out.2.2.1.lF (by decide) HX2.out.1.o (by simp at hy;rw [←hy];exact hx))⟩
 have HN8:Hid (X3.heap[g8]?=some (.cells X.N.cells 30 (0,0))∧iA (lY S.C S.N i) X.N∧hG (S.flip i) X):=by
  rw [eXN,←eX]
  exact ⟨(hP.to.block g8 (gO HX2.out.2.2.2.2) (fun hy=>jW HX2.out.1.o HX2.out.2.2.2.2 (by decide) (by simpa using hy:g8=g6).symm)).trans HX2.out.2.2.2.2,HX2.out.2.2.2.1,hAX⟩
 clear hP HX2 HL8 HO6 hAX eX eXN
 go_upto_if 32 with fail
 go_cut [7,10] (fun s7 _ wc=>∃ a c,s7=.slice a (nm S.C S.N i).length c∧Hid (SpS w S X b g6 wc∧ir wc b X∧OG 43 5 wc b a (nm S.C S.N i).length c (tV (nm S.C S.N i).length fun k=>(fsF (nm S.C S.N i) k).frame)))
 case first =>
  cases fl
  ·
   have e1:nm S.C S.N i=[]:=by unfold nm;rw [Hfl.out];simp
   go_wp2_with fail
   go_meet
   case rel=>rw [e1];exact ⟨_,_,rfl,HX3.out⟩
  obtain ⟨pb,epb⟩:∃ b,iL S.C (S.N.u i) (S.N.p i)=b:=⟨_,rfl⟩
  have e1:nm S.C S.N i=[Fx pb]:=by unfold nm;rw [if_pos Hfl.out,epb]
  have hpi:i<X.N.nP:=by
   rw [HN8.out.2.1.nP]
   show i<S.N.nP
   have:=HM.out.2.2.nl
   have:=HM.out.2.2.n.nP
   have:=HM.out.2.1
   omega
  have hpi':(i:Int)<(X.N.nP:Int):=by omega
  have hp0:(0:Int)≤(i:Int):=by omega
  have epv:X.N.p i=pb:=by
   rw [HN8.out.2.1.p]
   show (if i=i then iL S.C (S.N.u i) (S.N.p i) else S.N.p i)=pb
   rw [if_pos rfl,epb]
  obtain ⟨V,eV⟩:∃ V,X3.alloc (.cells #[.int .i64 3,.int .i64 0,.int .i64 0,.int .i64 2,.string ⟨#[]⟩] 43)=V:=⟨_,rfl⟩
  have HV:Hid (SpS w S X b g6 V∧ir V b X∧OG 43 5 V b (some ⟨gl,0,none⟩) 0 0 []∧V.heap[g8]?=some (.cells X.N.cells 30 (0,0))∧V.heap[X3.heap.size]?=some (.cells #[.int .i64 3,.int .i64 0,.int .i64 0,.int .i64 2,.string ⟨#[]⟩] 43 (0,0))∧gl<X3.heap.size∧g8<X3.heap.size):=by
   have hb:Below X3.heap.size X3 V:=by rw [←eV];exact (Below.refl _ _).alloc (Nat.le_refl _) _
   exact ⟨HX3.out.1.up hb,HX3.out.2.1.up hb,HX3.out.2.2.up hb,(hb.block _ (gO HN8.out.1)).trans HN8.out.1,by rw [←eV];exact gV _ _,(HX3.out.2.2.blk gl (by simp [ix])).2,gO HN8.out.1⟩
  rcases HV.out.2.1.n.p with e | ⟨gp,eP,hbp,pa,p1,p2,p3⟩
  ·
   omega
  have c82:V.cell? ⟨g8,2,none⟩=some (.slice (some ⟨gp,0,none⟩) X.N.nP X.N.cP):=by rw [←eP];exact gM HV.out.2.2.2.1 2
  have cp:V.cell? ⟨gp,i,none⟩=some (.bool pb):=by rw [←epv];exact (gM p1 i).trans (p3 i hpi)
  have HX3s:Hid (b<X3.heap.size):=HX3.out.1.size
  clear p1 p2 p3 hbp eP epv epb Hfl HX3 HN8
  cases pb
  ·
   have HLf:Hid (∀ j,j<5→V.cell? ⟨X3.heap.size,0+j,none⟩=(#[.int .i64 3,.int .i64 0,.int .i64 0,.int .i64 2,.string ⟨#[]⟩]:Array Value)[j]?):=fun j _=>by rw [Nat.zero_add];exact gM HV.out.2.2.2.2.1 j
   obtain ⟨g1,c3,Y,hrun,hu,ht,hg⟩:=lI 37 43 _ 5 48 xy Tryz.underlying37 rfl (by decide) (by decide) HV.out.2.2.1 (by omega) (Nat.le_of_lt HV.out.1.size) (#[.int .i64 3,.int .i64 0,.int .i64 0,.int .i64 2,.string ⟨#[]⟩]) rfl (by simp [Value.oneCell'])
   have HY:Hid (SpS w S X b g6 Y∧ir Y b X∧OG 43 5 Y b (some ⟨g1,0,none⟩) (0+1) c3 ([]++[.int .i64 3,.int .i64 0,.int .i64 0,.int .i64 2,.string ⟨#[]⟩])):=⟨HV.out.1.mz HV.out.2.2.1 ht,HV.out.2.1.mz HV.out.2.2.1 ht,hu⟩
   clear hu ht hg
   go_wp2_with (first | refine iY 43 5 qa rfl (.tmp 10) (.tmp 33) rfl #[.int .i64 3,.int .i64 0,.int .i64 0,.int .i64 2,.string ⟨#[]⟩] _ rfl rfl rfl rfl rfl (by simp [Value.oneCell']) (eV▸?_) | refine gY rfl 43 5 _ Tryz.underlying43 rfl qa (.tmp 10) rfl X3.heap.size 0 rfl #[.int .i64 3,.int .i64 0,.int .i64 0,.int .i64 2,.string ⟨#[]⟩] rfl HLf.out ?_ | (at_builtin;refine Lib.wpList_append_run _ rfl _ _ _ _ rfl _ _ rfl rfl _ _ hrun ?_))
   go_meet
   case rel=>rw [e1];exact ⟨_,_,rfl,HY.out⟩
  have HLf:Hid (V.heap[X3.heap.size]?=some (.cells #[.int .i64 3,.int .i64 0,.int .i64 0,.int .i64 2,.string ⟨#[]⟩] 43 (0,0))):=HV.out.2.2.2.2.1
  go_wp2_with (first | refine iY 43 5 qa rfl (.tmp 10) (.tmp 33) rfl #[.int .i64 3,.int .i64 0,.int .i64 0,.int .i64 2,.string ⟨#[]⟩] _ rfl rfl rfl rfl rfl (by simp [Value.oneCell']) (eV▸?_) | refine gW rfl 2 (.tmp 39) (.const (.int .i64 2)) rfl X3.heap.size 0 rfl (.int .i64 2) rfl 1 rfl 43 _ HLf.out (by kernel_rfl) (Nat.le_of_ble_eq_true rfl) (by simp [Value.cells,Value.oneCell']) ?_)
  intro V2 hP
  replace hP:Put V V2 X3.heap.size #[.int .i64 2,.int .i64 0,.int .i64 0,.int .i64 2,.string ⟨#[]⟩] 43:=hP.cast rfl
  have HV2:Hid (SpS w S X b g6 V2∧ir V2 b X∧OG 43 5 V2 b (some ⟨gl,0,none⟩) 0 0 []∧∀ j,j<5→V2.cell? ⟨X3.heap.size,0+j,none⟩=(#[.int .i64 2,.int .i64 0,.int .i64 0,.int .i64 2,.string ⟨#[]⟩]:Array Value)[j]?):=by
   have hz:=HV.out.2.2.2.2.2.1
   refine ⟨HV.out.1.far HLf.out (by decide) (by have:=HX3s.out;omega) hP.to,HV.out.2.1.EW HLf.out hP.to,HV.out.2.2.1.gX hP.to (fun x hx hy=>by simp [ix] at hx hy;omega),fun j _=>by rw [Nat.zero_add];exact gM hP.blk j⟩
  clear hP HV c82 cp HLf
  obtain ⟨g1,c3,Y,hrun,hu,ht,hg⟩:=lI 37 43 _ 5 48 xy Tryz.underlying37 rfl (by decide) (by decide) HV2.out.2.2.1 (by omega) (Nat.le_of_lt HV2.out.1.size) (#[.int .i64 2,.int .i64 0,.int .i64 0,.int .i64 2,.string ⟨#[]⟩]) rfl (by simp [Value.oneCell'])
  have HY:Hid (SpS w S X b g6 Y∧ir Y b X∧OG 43 5 Y b (some ⟨g1,0,none⟩) (0+1) c3 ([]++[.int .i64 2,.int .i64 0,.int .i64 0,.int .i64 2,.string ⟨#[]⟩])):=⟨HV2.out.1.mz HV2.out.2.2.1 ht,HV2.out.2.1.mz HV2.out.2.2.1 ht,hu⟩
  clear hu ht hg
  go_wp2_with (first | refine gY rfl 43 5 _ Tryz.underlying43 rfl qa (.tmp 10) rfl X3.heap.size 0 rfl #[.int .i64 2,.int .i64 0,.int .i64 0,.int .i64 2,.string ⟨#[]⟩] rfl HV2.out.2.2.2 ?_ | (at_builtin;refine Lib.wpList_append_run _ rfl _ _ _ _ rfl _ _ rfl rfl _ _ hrun ?_))
  go_meet
  case rel=>rw [e1];exact ⟨_,_,rfl,HY.out⟩
 case rest =>
  obtain ⟨a,c,e7,HA⟩:=hcut
  subst e7
  obtain ⟨gs,hn,efs⟩:=HM.out.1.next
  obtain ⟨X',hnX,hAX'⟩:=hn.sG HM.out.2.1 HN8.out.2.2
  obtain ⟨l',id,ht,hcase⟩:=hnX
  have hiX:i<X.nL:=by rw [HN8.out.2.2.nL];exact HM.out.2.1
  have HI:Hid (i<X.nL∧X.Ok∧X.Small):=⟨hiX,HN8.out.2.2.ok1 (HM.out.2.2.flip i),HN8.out.2.2.small ⟨HS.out.e,⟨HS.out.n.u,HS.out.n.p⟩,HS.out.k,HS.out.b,HS.out.l,HS.out.ls⟩⟩
  have HC:Hid (fs=nm S.C S.N i++gs∧hG S' X'∧qj (X.L i) l' id∧((id=0∧X'=X.lane i l'∧gs=[])∨(id≠0∧∃ j,j<X.nK∧(X.K j).id=id∧gs=[X.K j]∧(((X.K j).refs≠1∧X'={ X.lane i l' with K:=j9 X.K j })∨((X.K j).refs=1∧X'={ X.lane i l' with nK:=X.nK-1,K:=rmK X.K j,N:=kW X.N (X.K j).inn (X.K j).p (-(X.K j).cl) }))))):=⟨efs,hAX',ht,hcase⟩
  obtain ⟨ts,ets⟩:∃ l,nm S.C S.N i=l:=⟨_,rfl⟩
  rw [ets] at HA HC ⊢
  obtain ⟨gL,curL,eL,hbL,kL,hszL,hcL⟩:=HA.out.2.1.yQ hiX
  have HLL:Hid (X.aL=some ⟨gL,0,none⟩∧b≤gL∧gL<wc.heap.size):=⟨eL,hbL,gO kL⟩
  have c14:wc.cell? ⟨g6,14,none⟩=some (.slice (some ⟨gL,0,none⟩) X.nL X.cL):=by rw [←eL];exact gM HA.out.1.o 14
  have HLl:Hid (∀ q,q<8→wc.cell? ⟨gL,i*8+q,none⟩=(X.L i).cells[q]?):=fun q hq=>(gM kL _).trans (hcL i hiX q hq)
  have hi1:(i:Int)<(X.nL:Int):=by omega
  have hi0:(0:Int)≤(i:Int):=by omega
  obtain ⟨V,eV⟩:∃ V,wc.alloc (.cells (X.L i).cells 48)=V:=⟨_,rfl⟩
  have hbV:Below wc.heap.size wc V:=by rw [←eV];exact (Below.refl _ _).alloc (Nat.le_refl _) _
  have HV:Hid (SpS w S X b g6 V∧ir V b X∧OG 43 5 V b a ts.length c (tV ts.length fun k=>(fsF ts k).frame)∧V.heap[wc.heap.size]?=some (.cells (X.L i).cells 48 (0,0))∧b≤wc.heap.size):=⟨HA.out.1.up hbV,HA.out.2.1.up hbV,HA.out.2.2.up hbV,by rw [←eV];exact gV _ _,Nat.le_of_lt HA.out.1.size⟩
  have HXC:Hid (X.C=S.C):=HN8.out.2.2.c
  clear eL hbL kL hszL hcL hn efs hAX' ht hcase ets hbV HA HX3 HN8 hiX
  go_upto_region 12 with (first | refine gY rfl 48 8 _ Tryz.underlying48 rfl uO (.tmp 47) rfl gL (i*8) (by simp [Act.eval]) (X.L i).cells rfl HLl.out ?_ | refine iY 48 8 uO rfl (.tmp 11) (.tmp 48) rfl (X.L i).cells _ rfl rfl rfl rfl rfl (Lng.lx _) (eV▸?_))
  obtain ⟨g11,e11⟩:∃ g,wc.heap.size=g:=⟨_,rfl⟩
  rw [e11] at HV HLL ⊢
  clear e11 eV c14 HLl
  obtain ⟨l,el⟩:∃ l,X.L i=l:=⟨_,rfl⟩
  have Hel:Hid (X.L i=l):=el
  rw [el] at HV HC
  clear el
  go_cut [57] (fun v wx=>v=.bool (decide (0<l.nT∧l.st=false))∧V=wx)
  case first =>
   have c0:V.cell? ⟨g11,0,none⟩=some (.bool l.st):=gM HV.out.2.2.2.1 0
   have c1:V.cell? ⟨g11,1,none⟩=some (.slice l.aT l.nT l.cT):=gM HV.out.2.2.2.1 1
   by_cases h1:0<l.nT
   ·
    have h1':(0:Int)<(l.nT:Int):=by omega
    cases hst:l.st
    ·
     rw [hst] at c0
     have hd:decide (0<l.nT∧l.st=false)=true:=by simp [h1,hst]
     exact gj
    rw [hst] at c0
    have hd:decide (0<l.nT∧l.st=false)=false:=by simp [hst]
    exact gj
   have h0:l.nT=0:=by omega
   rw [h0] at c1
   have hd:decide (0<l.nT∧l.st=false)=false:=by simp [h0]
   exact gj
  case rest =>
   obtain ⟨e57,rfl⟩:=hcut
   subst e57
   go_upto_if 57 with fail
   go_cut [12,13,14,15] (fun s12 _ _ _ wd=>s12=.int .i64 id∧∃ l2,Hid (SpS w S X b g6 wd∧jU wd b X i∧OG 43 5 wd b a ts.length c (tV ts.length fun k=>(fsF ts k).frame)∧wd.heap[g11]?=some (.cells l2.cells 48 (0,0))∧iC l' l2∧TyL wd b l2))
   case first =>
    have hOl:iw V b l:=by rw [←Hel.out];exact HV.out.2.1.l.ls i HI.out.1
    have hsl:l.Small:=by rw [←Hel.out];exact HI.out.2.2.ls i HI.out.1
    have hlk:lB X.nK X.K l:=by rw [←Hel.out];exact HI.out.2.1.l i HI.out.1
    have HO:Hid (iw V b l∧l.Small∧lB X.nK X.K l):=⟨hOl,hsl,hlk⟩
    have c1:V.cell? ⟨g11,1,none⟩=some (.slice l.aT l.nT l.cT):=gM HV.out.2.2.2.1 1
    have hzV:b<V.heap.size:=HV.out.1.size
    have h11:g11<V.heap.size:=gO HV.out.2.2.2.1
    have HZ:Hid (b<V.heap.size∧g11<V.heap.size∧gL<g11∧b≤g11):=⟨hzV,h11,HLL.out.2.2,HV.out.2.2.2.2⟩
    clear hOl hsl hlk hzV h11
    rcases HC.out.2.2.1 with ⟨h1,h2,hid,hl'⟩ | ⟨hno,M',x,s,hp,hh⟩
    ·
     --[W1
     have hd:decide (0<l.nT∧l.st=false)=true:=by simp [h1,h2]
     rw [hd]
     obtain ⟨gt,eT,ct0⟩:=HO.out.1.t.some (by omega)
     have hOT:OI V b (some ⟨gt,0,none⟩) l.nT l.cT l.t:=by rw [←eT];exact HO.out.1.t
     obtain ⟨a',c',W',hrun,oT,hbW⟩:=Bg hOT (by omega) HO.out.2.1.t
     rw [eT] at c1
     have h1':(0:Int)<(l.nT:Int):=by omega
     have hrc:∀ wx,(Instr.slice 27 (.slice (some ⟨gt,0,none⟩) l.nT l.cT) (some (.int .i64 1)) none none).run Tryz.prog wx=.ok (.slice (some ⟨gt,pZ 0 l.cT,none⟩) (l.nT-1) (l.cT-1)) wx:=fun wx=>pn gt 0 _ l.nT l.cT wx (by omega) rfl
     obtain ⟨Va,eVa⟩:∃ Va,V.alloc (.cells #[] 2)=Va:=⟨_,rfl⟩
     have c1a:Va.cell? ⟨g11,1,none⟩=some (.slice (some ⟨gt,0,none⟩) l.nT l.cT):=by
      rw [←eVa,gM ((iv _ HZ.out.2.1).trans HV.out.2.2.2.1) 1,←eT];rfl
     rw [eVa] at hrun
     have k11:W'.heap[g11]?=some (.cells l.cells 48 (0,0)):=(hbW.block _ HZ.out.2.1).trans HV.out.2.2.2.1
     have HK:Hid (W'.heap[g11]?=some (.cells l.cells 48 (0,0))∧SpS w S X b g6 W'∧jU W' b X i∧OG 43 5 W' b a ts.length c (tV ts.length fun k=>(fsF ts k).frame)∧TyL W' b { l with aT:=a',nT:=l.nT-1,cT:=c',t:=fun k=>l.t (k+1) }):=⟨k11,HV.out.1.up hbW,(HV.out.2.1.half i).up hbW,HV.out.2.2.1.up hbW,(HO.out.1.g.ty.up hbW).Db (OG.mono (t:=2) (sz:=1) oT (Nat.le_of_lt HZ.out.1))⟩
     clear hbW oT k11 hOT eT hd
     go_wp2_with (first | (at_builtin;refine Lib.wpList_append_run _ rfl _ _ _ _ rfl _ _ rfl rfl _ _ hrun ?_) | refine gW rfl 27 (.tmp 67) (.tmp 66) rfl g11 1 rfl (.slice a' (l.nT-1) c') rfl 1 rfl 48 _ HK.out.1 AQ (Nat.le_of_ble_eq_true rfl) (by simp [Value.cells,Value.oneCell']) ?_)
     intro W2 hP
     replace hP:Put W' W2 g11 ({ l with aT:=a',nT:=l.nT-1,cT:=c',t:=fun k=>l.t (k+1) }:Lng).cells 48:=hP.cast rfl
     have HE:Hid (SpS w S X b g6 W2∧jU W2 b X i∧OG 43 5 W2 b a ts.length c (tV ts.length fun k=>(fsF ts k).frame)∧W2.heap[g11]?=some (.cells ({ l with aT:=a',nT:=l.nT-1,cT:=c',t:=fun k=>l.t (k+1) }:Lng).cells 48 (0,0))∧iC l' { l with aT:=a',nT:=l.nT-1,cT:=c',t:=fun k=>l.t (k+1) }∧TyL W2 b { l with aT:=a',nT:=l.nT-1,cT:=c',t:=fun k=>l.t (k+1) }):=by
      refine ⟨HK.out.2.1.far HK.out.1 (by decide) HZ.out.2.2.2 hP.to,HK.out.2.2.1.box HK.out.1 hP.to ⟨by decide,by decide,by decide,by decide⟩ (HK.out.2.2.1.k.pY HK.out.1 (by decide)) ?_,HK.out.2.2.2.1.gX hP.to (fun x hx hy=>HK.out.2.2.2.1.lF (by decide) HK.out.1 (by simp at hy;rw [←hy];exact hx)),hP.blk,?_,HK.out.2.2.2.2.far hP.to (fun x hx=>(List.mem_singleton.1 hx)▸⟨_,_,HK.out.1,by decide,by decide⟩)⟩
      · exact gi
      rw [hl']
      exact ⟨rfl,rfl,rfl,rfl,rfl,rfl,Alike.refl _⟩
     clear hP HK
     exact fZ
    ·
     have hd:decide (0<l.nT∧l.st=false)=false:=by simp only [decide_eq_false_iff_not];exact hno
     rw [hd]
     have HLr:Hid (∀ j,j<5→V.cell? ⟨g11,3+j,none⟩=l.R.cells[j]?):=rdR HV.out.2.2.2.1
     have HPk:Hid (pM l.R M' x s):=hp
     have HHh:Hid (x=-1∧id=0∧l'={ l with R:=M' }∨∃ c:Nat,x=(c:Int)∧id=l.uz c 0∧l'=l.Er c M'):=hh
     clear hd hp hh c1 hno
     go_wp2_with (refine gY rfl 46 5 _ Tryz.underlying46 rfl uK (.tmp 69) rfl g11 3 rfl l.R.cells rfl HLr.out ?_)
     refine (uI l.R M' x s _ HO.out.2.1.r HO.out.1.g.rd.r HO.out.2.2.r HPk.out).mono ?_
     rintro e w7 ⟨R2,rfl,oR,hb7,aR⟩
     have z7:=hb7.size
     have HW7:Hid (SpS w S X b g6 w7∧ir w7 b X∧OG 43 5 w7 b a ts.length c (tV ts.length fun k=>(fsF ts k).frame)∧w7.heap[g11]?=some (.cells l.cells 48 (0,0))∧iX w7 V.heap.size R2∧Alike M' R2∧iw w7 b l∧g11<w7.heap.size):=⟨HV.out.1.up hb7,HV.out.2.1.up hb7,HV.out.2.2.1.up hb7,(hb7.block _ HZ.out.2.1).trans HV.out.2.2.2.1,oR,aR,HO.out.1.up hb7,by have:=HZ.out.2.1;omega⟩
     clear oR aR hb7 z7 HLr
     have HG13:Hid ((w7.alloc (.cells #[.slice none 0 0,.slice none 0 0,.int .i64 0,.bool false,.slice none 0 0] 46)).heap[w7.heap.size]?=some (.cells #[.slice none 0 0,.slice none 0 0,.int .i64 0,.bool false,.slice none 0 0] 46 (0,0))):=gV _ _
     go_wp2_with (refine gW rfl 46 (.tmp 13) (.tmp 72) rfl (w7.heap.size) 0 rfl (.agg R2.cells) rfl 5 rfl 46 _ HG13.out uK (Nat.le_of_ble_eq_true rfl) (by simp [Value.cells,Rnd.cells,Value.oneCell']) ?_)
     intro Y0 hP
     replace hP:Put _ Y0 w7.heap.size R2.cells 46:=hP.cast rfl
     have hbl:Below w7.heap.size w7 Y0:=((Below.refl _ _).alloc (Nat.le_refl _) _).trans (hP.to.below (by simp) (fun x hx=>by simp at hx;omega))
     have HY0:Hid (SpS w S X b g6 Y0∧ir Y0 b X∧OG 43 5 Y0 b a ts.length c (tV ts.length fun k=>(fsF ts k).frame)∧Y0.heap[g11]?=some (.cells l.cells 48 (0,0))∧iX Y0 V.heap.size R2∧Alike M' R2∧iw Y0 b l):=⟨HW7.out.1.up hbl,HW7.out.2.1.up hbl,HW7.out.2.2.1.up hbl,(hbl.block _ HW7.out.2.2.2.2.2.2.2).trans HW7.out.2.2.2.1,HW7.out.2.2.2.2.1.up hbl,HW7.out.2.2.2.2.2.1,HW7.out.2.2.2.2.2.2.1.up hbl⟩
     have HL13:Hid (∀ j,j<5→Y0.cell? ⟨w7.heap.size,0+j,none⟩=R2.cells[j]?):=fun j _=>by rw [Nat.zero_add];exact gM hP.blk j
     have H11:Hid (Y0.heap[g11]?=some (.cells l.cells 48 (0,0))):=HY0.out.2.2.2.1
     clear hP hbl HW7 HG13
     go_wp2_with (first | refine gY rfl 46 5 _ Tryz.underlying46 rfl uK (.tmp 13) rfl (w7.heap.size) 0 rfl R2.cells rfl HL13.out ?_ | refine gW rfl 46 (.tmp 76) (.tmp 75) rfl g11 3 rfl (.agg R2.cells) rfl 5 rfl 48 _ H11.out uK (Nat.le_of_ble_eq_true rfl) (by simp [Value.cells,Rnd.cells,Value.oneCell']) ?_)
     intro Y1 hP
     replace hP:Put Y0 Y1 g11 ({ l with R:=R2 }:Lng).cells 48:=hP.cast rfl
     have hL11:g11∉iU X.aL (X.nL*8):=gi
     have HY1:Hid (SpS w S X b g6 Y1∧jU Y1 b X i∧OG 43 5 Y1 b a ts.length c (tV ts.length fun k=>(fsF ts k).frame)∧Y1.heap[g11]?=some (.cells ({ l with R:=R2 }:Lng).cells 48 (0,0))∧Alike M' R2∧TyL Y1 b { l with R:=R2 }∧iw Y1 b l∧iX Y1 V.heap.size R2):=by
      have hk:=HY0.out.2.1.half i
      have hoff:CO [g11] Y0:=fun x hx=>(List.mem_singleton.1 hx)▸⟨_,_,H11.out,by decide,by decide⟩
      refine ⟨HY0.out.1.far H11.out (by decide) HZ.out.2.2.2 hP.to,hk.box H11.out hP.to ⟨by decide,by decide,by decide,by decide⟩ (hk.k.pY H11.out (by decide)) hL11,HY0.out.2.2.1.gX hP.to (fun x hx hy=>HY0.out.2.2.1.lF (by decide) H11.out (by simp at hy;rw [←hy];exact hx)),hP.blk,HY0.out.2.2.2.2.2.1,(HY0.out.2.2.2.2.2.2.g.ty.tg HY0.out.2.2.2.2.1 (Nat.le_of_lt HZ.out.1)).far hP.to hoff,HY0.out.2.2.2.2.2.2.box H11.out (by decide) (by decide) hP.to,HY0.out.2.2.2.2.1.Fk hoff hP.to⟩
     clear hP HL13 H11 HY0
     rcases HHh.out with ⟨hx,hid,hl'⟩ | ⟨cl,hx,hid,hl'⟩
     ·
      --[W2
      subst hx
      have HE:Hid (SpS w S X b g6 Y1∧jU Y1 b X i∧OG 43 5 Y1 b a ts.length c (tV ts.length fun k=>(fsF ts k).frame)∧Y1.heap[g11]?=some (.cells ({ l with R:=R2 }:Lng).cells 48 (0,0))∧iC l' { l with R:=R2 }∧TyL Y1 b { l with R:=R2 }):=⟨HY1.out.1,HY1.out.2.1,HY1.out.2.2.1,HY1.out.2.2.2.1,by rw [hl'];exact ⟨rfl,rfl,rfl,rfl,rfl,rfl,HY1.out.2.2.2.2.1⟩,HY1.out.2.2.2.2.2.1⟩
      clear HY1
      exact fZ
     ·
      --[W3
      subst hx
      obtain ⟨hcl,hL0⟩:=xj HO.out.2.2 HPk.out
      have hnU:=HO.out.2.2.u
      have hOG:OG 27 1 Y1 b l.aU l.nU l.cU (qG l.nU l.uA l.uL l.uC):=HY1.out.2.2.2.2.2.2.1.u
      obtain ⟨gu,curU,eU,kU,szU,ccU⟩:=hOG.at0 (by omega)
      have hcU:∀ k,k<l.nU→curU[k]?=some (.slice (l.uA k) (l.uL k) (l.uC k)):=fun k hk=>(ccU k (by omega)).trans (pg _ _ _ _ k hk)
      obtain ⟨gz,eZ,cz⟩:=(HY1.out.2.2.2.2.2.2.1.z cl (by omega)).some hL0
      have hOZ:OI Y1 b (some ⟨gz,0,none⟩) (l.uL cl) (l.uC cl) (l.uz cl):=by rw [←eZ];exact HY1.out.2.2.2.2.2.2.1.z cl (by omega)
      have hbgu:b≤gu∧gu<V.heap.size:=by
       have:=OG.blk HO.out.1.u gu (by rw [eU];simp [ix])
       exact this
      have c2x:∀ wx:World,(wx.heap[g11]?=some (.cells ({ l with R:=R2 }:Lng).cells 48 (0,0))∧wx.heap[gu]?=some (.cells curU 27 (0,0)))→wx.cell? ⟨g11,2,none⟩=some (.slice (some ⟨gu,0,none⟩) l.nU l.cU):=fun wx h=>by rw [←eU];exact gM h.1 2
      have cux:∀ wx:World,(wx.heap[g11]?=some (.cells ({ l with R:=R2 }:Lng).cells 48 (0,0))∧wx.heap[gu]?=some (.cells curU 27 (0,0)))→wx.cell? ⟨gu,cl,none⟩=some (.slice (some ⟨gz,0,none⟩) (l.uL cl) (l.uC cl)):=fun wx h=>by rw [gM h.2,hcU cl (by omega),eZ]
      have c2:=c2x Y1 ⟨HY1.out.2.2.2.1,kU⟩
      have cu:=cux Y1 ⟨HY1.out.2.2.2.1,kU⟩
      have i1:(cl:Int)<(l.nU:Int):=by omega
      have i0:(0:Int)≤(cl:Int):=by omega
      have i2:(0:Int)<(l.uL cl:Int):=by omega
      have HC2:Hid (∀ wx:World,(wx.heap[g11]?=some (.cells ({ l with R:=R2 }:Lng).cells 48 (0,0))∧wx.heap[gu]?=some (.cells curU 27 (0,0)))→wx.cell? ⟨g11,2,none⟩=some (.slice (some ⟨gu,0,none⟩) l.nU l.cU)):=c2x
      have HCU:Hid (∀ wx:World,(wx.heap[g11]?=some (.cells ({ l with R:=R2 }:Lng).cells 48 (0,0))∧wx.heap[gu]?=some (.cells curU 27 (0,0)))→wx.cell? ⟨gu,cl,none⟩=some (.slice (some ⟨gz,0,none⟩) (l.uL cl) (l.uC cl))):=cux
      have HQ:Hid (cl<2∧l.uL cl≠0∧l.nU=2∧Y1.heap[gu]?=some (.cells curU 27 (0,0))∧l.nU*1≤curU.size∧(∀ k,k<l.nU→curU[k]?=some (.slice (l.uA k) (l.uL k) (l.uC k)))∧OI Y1 b (some ⟨gz,0,none⟩) (l.uL cl) (l.uC cl) (l.uz cl)∧b≤gu∧gu<V.heap.size∧l.aU=some ⟨gu,0,none⟩):=⟨hcl,hL0,hnU,kU,szU,hcU,hOZ,hbgu.1,hbgu.2,eU⟩
      have hrc:∀ wx,(Instr.slice 27 (.slice (some ⟨gz,0,none⟩) (l.uL cl) (l.uC cl)) (some (.int .i64 1)) none none).run Tryz.prog wx=.ok (.slice (some ⟨gz,pZ 0 (l.uC cl),none⟩) (l.uL cl-1) (l.uC cl-1)) wx:=fun wx=>pn gz 0 _ (l.uL cl) (l.uC cl) wx hL0 rfl
      clear hcl hL0 hnU hOG kU szU ccU hcU hOZ hbgu eU eZ c2x cux
      go_wp2_with fail
      clear c2 cu cz
      refine iV (fun wx=>wx.heap[g11]?=some (.cells ({ l with R:=R2 }:Lng).cells 48 (0,0))∧wx.heap[gu]?=some (.cells curU 27 (0,0))) 12 (by kernel_rfl) ?_
      have hd:Below Y1.heap.size Y1 Y1.drew:=(Below.refl _ _).drew
      have HD:Hid (SpS w S X b g6 Y1.drew∧jU Y1.drew b X i∧OG 43 5 Y1.drew b a ts.length c (tV ts.length fun k=>(fsF ts k).frame)∧Y1.drew.heap[g11]?=some (.cells ({ l with R:=R2 }:Lng).cells 48 (0,0))∧TyL Y1.drew b { l with R:=R2 }∧Y1.drew.heap[gu]?=some (.cells curU 27 (0,0))∧OI Y1.drew b (some ⟨gz,0,none⟩) (l.uL cl) (l.uC cl) (l.uz cl)∧iX Y1.drew V.heap.size R2):=⟨HY1.out.1.up hd,HY1.out.2.1.up hd,HY1.out.2.2.1.up hd,(hd.block _ (gO HY1.out.2.2.2.1)).trans HY1.out.2.2.2.1,HY1.out.2.2.2.2.2.1.up hd,(hd.block _ (gO HQ.out.2.2.2.1)).trans HQ.out.2.2.2.1,HQ.out.2.2.2.2.2.2.1.up hd,HY1.out.2.2.2.2.2.2.2.up hd⟩
      have HAl:Hid (Alike M' R2):=HY1.out.2.2.2.2.1
      clear hd HY1
      generalize Y1.drew=D at *
      have hT0:D.heap[g11]?=some (.cells ({ l with R:=R2 }:Lng).cells 48 (0,0))∧D.heap[gu]?=some (.cells curU 27 (0,0)):=⟨HD.out.2.2.2.1,HD.out.2.2.2.2.2.1⟩
      refine tE 0 86 hT0 ?_
      refine ka (i:=1) (some 87) (v:=?_) ?_ hT0 ?_
      rotate_left
      ·
       intro wx hSw
       have c2:=HC2.out wx hSw
       exact du
      try simp only [Act.put,PZ]
      refine tE 2 88 hT0 ?_
      refine tE 4 90 hT0 ?_
      refine ka (i:=5) (some 91) (v:=?_) ?_ hT0 ?_
      rotate_left
      ·
       intro wx hSw
       have c2:=HC2.out wx hSw
       exact du
      try simp only [Act.put,PZ]
      refine tE 6 92 hT0 ?_
      refine tE 7 93 hT0 ?_
      refine ka (i:=8) (some 94) (v:=?_) ?_ hT0 ?_
      rotate_left
      ·
       intro wx hSw
       have cu:=HCU.out wx hSw
       exact du
      try simp only [Act.put,PZ]
      refine ka (i:=9) (some 95) (v:=.slice (some ⟨gz,pZ 0 (l.uC cl),none⟩) (l.uL cl-1) (l.uC cl-1)) ?_ hT0 ?_
      ·
       intro wx hSw
       have hr1:=hrc wx
       exact du
      try simp only [Act.put,PZ]
      refine gT (rs:=[3]) (by kernel_rfl) (by simp) ?_
      refine gR.cons rfl (fun K hK=>?_) gR.nil
      obtain ⟨a',c',W',hrun,oZ,hbW⟩:=Bg HD.out.2.2.2.2.2.2.1 HQ.out.2.1 (HO.out.2.1.z cl (by have:=HQ.out.1;have:=HQ.out.2.2.1;omega))
      obtain ⟨Da,eDa⟩:∃ X,D.alloc (.cells #[] 2)=X:=⟨_,rfl⟩
      have hbD:Below D.heap.size D Da:=by rw [←eDa];exact (Below.refl _ _).alloc (Nat.le_refl _) _
      rw [eDa] at hrun
      go_simp
      clear eDa
      have hT1:Da.heap[g11]?=some (.cells ({ l with R:=R2 }:Lng).cells 48 (0,0))∧Da.heap[gu]?=some (.cells curU 27 (0,0)):=⟨(hbD.block _ (gO hT0.1)).trans hT0.1,(hbD.block _ (gO hT0.2)).trans hT0.2⟩
      refine hK.out _ _ hT1 ?_
      clear hK K
      try simp only [Act.put,PZ]
      refine gT (rs:=[10]) (by kernel_rfl) (by simp) ?_
      refine gR.cons rfl (fun K hK=>?_) gR.nil
      refine k9 (by kernel_rfl) (some 96) rfl (.tmp 89) (.tmp 95) 27 _ _ _ rfl rfl rfl rfl hrun ?_
      have hT2:W'.heap[g11]?=some (.cells ({ l with R:=R2 }:Lng).cells 48 (0,0))∧W'.heap[gu]?=some (.cells curU 27 (0,0)):=⟨(hbW.block _ (gO hT0.1)).trans hT0.1,(hbW.block _ (gO hT0.2)).trans hT0.2⟩
      refine hK.out _ _ hT2 ?_
      clear hK K hrun
      try simp only [Act.put,PZ]
      refine tE 11 97 hT2 ?_
      refine gT (rs:=[12]) (by kernel_rfl) (by simp) ?_
      refine gR.last rfl (fun K hK=>?_)
      refine jP (by kernel_rfl) none rfl 27 (.tmp 97) (.tmp 96) rfl gu cl (by simp [Act.eval]) (.slice a' (l.uL cl-1) c') rfl 1 rfl 27 curU hT2.2 AQ (by have:=HQ.out.2.2.2.2.1;have:=HQ.out.1;have:=HQ.out.2.2.1;omega) (by simp [Value.cells,Value.oneCell']) ?_
      intro Xz hP
      refine hK.out _ _ ?_
      clear hK K
      try simp only [Act.put,PZ]
      refine iH (by kernel_rfl) ?_ _
      replace hP:Put W' Xz gu (lay curU cl #[.slice a' (l.uL cl-1) c']) 27:=hP
      have hzW:=hbW.size
      have hzD:=HD.out.1.size
      have hguS:gu∉iU R2.aS R2.nS:=fun hx=>by
       have h1:=(HD.out.2.2.2.2.2.2.2.s.g.blk gu hx).1
       have h2:=HQ.out.2.2.2.2.2.2.2.2.1
       omega
      have hgL:∀ k,k<X.nL→k≠i→gu∉iU (X.L k).aU (X.L k).nU∧gu∉iU (X.L k).R.aS (X.L k).R.nS:=HV.out.2.1.nu HI.out.1 (by rw [Hel.out,HQ.out.2.2.2.2.2.2.2.2.2];simp [ix])
      have HE:Hid (SpS w S X b g6 Xz∧jU Xz b X i∧OG 43 5 Xz b a ts.length c (tV ts.length fun k=>(fsF ts k).frame)∧Xz.heap[g11]?=some (.cells (l.Ep cl a' c' R2).cells 48 (0,0))∧iC l' (l.Ep cl a' c' R2)∧TyL Xz b (l.Ep cl a' c' R2)):=by
       refine ⟨(HD.out.1.up hbW).far hT2.2 (by decide) HQ.out.2.2.2.2.2.2.2.1 hP.to,(HD.out.2.1.up hbW).DV hT2.2 hP.to hgL,(HD.out.2.2.1.up hbW).gX hP.to (fun x hx hy=>(HD.out.2.2.1.up hbW).lF (by decide) hT2.2 (by simp at hy;rw [←hy];exact hx)),(hP.to.block _ (gO hT2.1) (fun hy=>jW hT2.1 hT2.2 (by decide) (by simpa using hy))).trans hT2.1,?_,(HD.out.2.2.2.2.1.up hbW).Ep HQ.out.2.2.2.2.2.2.2.2.2 hT2.2 (by have:=HQ.out.2.2.2.2.1;omega) (by have:=HQ.out.1;have:=HQ.out.2.2.1;omega) hP (OG.mono (t:=2) (sz:=1) oZ (Nat.le_of_lt hzD)) hguS HQ.out.2.2.2.2.2.1 HQ.out.2.2.2.2.2.2.2.1⟩
       rw [hl']
       exact ⟨rfl,rfl,rfl,rfl,rfl,rfl,HAl.out⟩
      clear hP HD oZ hbW hbD hT0 hT1 hT2 hguS hgL hzW hzD
      exact fZ
   case rest =>
    obtain ⟨e12,l2,HB⟩:=hcut
    subst e12
    have hnn:0<X.nL*8:=by have:=HI.out.1;omega
    obtain ⟨gL',curL',eL',hbL',kL',szL',_⟩:=HB.out.2.1.l.at0 hnn
    have hgg:gL'=gL:=by have:=HLL.out.1;rw [eL'] at this;simpa using this
    subst hgg
    have c14:wc.cell? ⟨g6,14,none⟩=some (.slice (some ⟨gL',0,none⟩) X.nL X.cL):=by rw [←eL'];exact gM HB.out.1.o 14
    have HL11:Hid (∀ q,q<8→wc.cell? ⟨g11,0+q,none⟩=l2.cells[q]?):=fun q _=>by rw [Nat.zero_add];exact gM HB.out.2.2.2.1 q
    have HKL:Hid (wc.heap[gL']?=some (.cells curL' 48 (0,0))∧X.nL*8≤curL'.size):=⟨kL',szL'⟩
    clear eL' hbL' kL' szL' hnn
    go_wp2_with (first | refine gY rfl 48 8 _ Tryz.underlying48 rfl uO (.tmp 11) rfl g11 0 rfl l2.cells rfl HL11.out ?_ | refine gW rfl 48 (.tmp 102) (.tmp 101) rfl gL' (i*8) (by simp [Act.eval]) (.agg l2.cells) rfl 8 rfl 48 _ HKL.out.1 uO (by have:=HKL.out.2;have:=HI.out.1;omega) (Lng.lx _) ?_)
    intro Z1 hP
    replace hP:Put wc Z1 gL' (lay curL' (i*8) l2.cells) 48:=hP
    have HZ1:Hid (SpS w S (X.lane i l2) b g6 Z1∧jU Z1 b (X.lane i l2) X.nL∧OG 43 5 Z1 b a ts.length c (tV ts.length fun k=>(fsF ts k).frame)∧iC l' l2):=by
     have h1:=HB.out.1.far HKL.out.1 (by decide) HLL.out.2.1 hP.to
     exact ⟨⟨h1.a,h1.z,h1.o,h1.bel,h1.lo,h1.hi⟩,HB.out.2.1.Dt HI.out.1 HLL.out.1 HKL.out.1 hP HB.out.2.2.2.2.2,HB.out.2.2.1.gX hP.to (fun x hx hy=>HB.out.2.2.1.lF (by decide) HKL.out.1 (by simp at hy;rw [←hy];exact hx)),HB.out.2.2.2.2.1⟩
    have hSY:=spY (l2:=l2) HI.out.2.1 HI.out.2.2 HV.out.2.1.k.cap HXC.out HZ1.out.2.2.2 HC.out.1 HC.out.2.1 HC.out.2.2.2
    obtain ⟨Y,eY⟩:∃ Y,X.lane i l2=Y:=⟨_,rfl⟩
    rw [eY] at hSY HZ1
    have HY:Hid (SpY S S' Y id ts fs):=hSY
    have HW1:Hid (SpS w S Y b g6 Z1∧jU Z1 b Y Y.nL∧OG 43 5 Z1 b a ts.length c (tV ts.length fun k=>(fsF ts k).frame)):=⟨HZ1.out.1,by
     have h:=HZ1.out.2.1
     rw [show X.nL=Y.nL by rw [←eY];rfl] at h
     exact h,HZ1.out.2.2.1⟩
    clear hP HB HKL HL11 c14 HC HV HLL hSY eY HZ1 HI HXC hi1 hi0 Hel
    rcases HY.out.ax with ⟨hid,hA1,hfs⟩ | ⟨hid,j,hj,hjid,hfs,hrr⟩
    ·
     --[W4
     subst hid
     have HEQ:Hid (hG S' Y∧fs=ts):=⟨hA1,hfs⟩
     clear hA1 hfs
     have HL6:Hid (∀ q,q<17→Z1.cell? ⟨g6,0+q,none⟩=Y.cells[q]?):=fun q _=>by rw [Nat.zero_add];exact gM HW1.out.1.o q
     have HD4:Hid (Z1.heap[w.heap.size+1]?=some (.cells zSw 34 (0,0))):=HW1.out.1.z
     go_wp2_with (first | refine gY rfl 34 17 _ Tryz.underlying34 rfl ij (.tmp 6) rfl g6 0 rfl Y.cells rfl HL6.out ?_ | refine gW rfl 34 (.tmp 4) (.tmp 105) rfl (w.heap.size+1) 0 rfl (.agg Y.cells) rfl 17 rfl 34 _ HD4.out ij (Nat.le_of_ble_eq_true rfl) (Swg.lx _) ?_)
     intro Z2 hP
     replace hP:Put Z1 Z2 (w.heap.size+1) Y.cells 34:=hP.cast rfl
     have HK:Hid (Z2.heap[w.heap.size+1]?=some (.cells Y.cells 34 (0,0))):=hP.blk
     have HFF:=Dr HW1.out.1 HW1.out.2.1 HW1.out.2.2 hP
     have HFF:Hid (jU Z2 w.heap.size Y Y.nL∧OG 43 5 Z2 w.heap.size a ts.length c (tV ts.length fun k=>(fsF ts k).frame)∧Below w.heap.size w Z2):=HFF
     clear hP HL6 HD4
     repeat (first | go_values | go_skip | go_step)
     rw [HEQ.out.2]
     exact bodyPost_ret (jI Tryz.results28 17 _ Tryz.underlying34 rfl ij _ _ (w.heap.size+1) Y.cells rfl 34 HK.out rfl (.slice a ts.length c) rfl) rfl ⟨Y,a,c,rfl,HEQ.out.1,HFF.out.1,HFF.out.2.1,HFF.out.2.2⟩
    ·
     have HJ2:Hid (j<Y.nK∧(Y.K j).id=id∧fs=ts++[Y.K j]∧(((Y.K j).refs≠1∧hG S' { Y with K:=j9 Y.K j })∨((Y.K j).refs=1∧hG S' { Y with nK:=Y.nK-1,K:=rmK Y.K j,N:=kW Y.N (Y.K j).inn (Y.K j).p (-(Y.K j).cl) }))):=⟨hj,hjid,hfs,hrr⟩
     clear hfs hrr hjid
     have HL6:Hid (∀ q,q<17→Z1.cell? ⟨g6,0+q,none⟩=Y.cells[q]?):=fun q _=>by rw [Nat.zero_add];exact gM HW1.out.1.o q
     go_wp2_with (refine gY rfl 34 17 _ Tryz.underlying34 rfl ij (.tmp 6) rfl g6 0 rfl Y.cells rfl HL6.out ?_)
     refine (nM Y id _ HY.out.n HW1.out.2.1.rd.k j hj HJ2.out.2.1 (fun q hq=>by
      have:=HY.out.k.only hj q (by omega) (by omega)
      rw [←HJ2.out.2.1];exact this)).mono ?_
     rintro e Z2 ⟨rfl,hb2⟩
     have HZ2:Hid (SpS w S Y b g6 Z2∧jU Z2 b Y Y.nL∧OG 43 5 Z2 b a ts.length c (tV ts.length fun k=>(fsF ts k).frame)):=⟨HW1.out.1.up hb2,HW1.out.2.1.up hb2,HW1.out.2.2.up hb2⟩
     clear hb2 HW1 HL6
     obtain ⟨gk,curK,eK,hbk,kK,szK,ccK⟩:=HZ2.out.2.1.k.at0 (show 0<Y.nK*8 by omega)
     have c13:Z2.cell? ⟨g6,13,none⟩=some (.slice (some ⟨gk,0,none⟩) Y.nK Y.cK):=by rw [←eK];exact gM HZ2.out.1.o 13
     have HLk:Hid (∀ q,q<8→Z2.cell? ⟨gk,j*8+q,none⟩=(Y.K j).cells[q]?):=fun q hq=>(gM kK _).trans ((ccK (j*8+q) (by omega)).trans (pI Y.K j q hq))
     have hj1:(j:Int)<(Y.nK:Int):=by omega
     have hj0:(0:Int)≤(j:Int):=by omega
     obtain ⟨V7,e7⟩:∃ V,Z2.alloc (.cells (Y.K j).cells 50)=V:=⟨_,rfl⟩
     have hb7:Below Z2.heap.size Z2 V7:=by rw [←e7];exact (Below.refl _ _).alloc (Nat.le_refl _) _
     have HV7:Hid (SpS w S Y b g6 V7∧jU V7 b Y Y.nL∧OG 43 5 V7 b a ts.length c (tV ts.length fun k=>(fsF ts k).frame)∧V7.heap[Z2.heap.size]?=some (.cells (Y.K j).cells 50 (0,0))∧b≤gk∧gk<Z2.heap.size∧Y.aK=some ⟨gk,0,none⟩∧b<Z2.heap.size):=⟨HZ2.out.1.up hb7,HZ2.out.2.1.up hb7,HZ2.out.2.2.up hb7,by rw [←e7];exact gV _ _,hbk,gO kK,eK,HZ2.out.1.size⟩
     have HL7:Hid (∀ q,q<5→V7.cell? ⟨Z2.heap.size,3+q,none⟩=(Y.K j).frame[q]?):=fun q hq=>(gM HV7.out.2.2.2.1 _).trans (Fu (Y.K j) q hq)
     obtain ⟨g1,c3,V8,hrun,hu,ht8,_⟩:=lI 37 43 _ 5 48 xy Tryz.underlying37 rfl (by decide) (by decide) HV7.out.2.2.1 (by
      have h1:ts.length≤fs.length:=by rw [HJ2.out.2.2.1];simp
      have h2:=HM.out.1.len
      omega) (Nat.le_of_lt HV7.out.1.size) (#[.int .i64 (Y.K j).k,.int .i64 (Y.K j).d,.int .i64 (Y.K j).s,.int .i64 (Y.K j).p,.string (Y.K j).b]) rfl (by simp [Value.oneCell'])
     have HV8:Hid (SpS w S Y b g6 V8∧jU V8 b Y Y.nL∧OG 43 5 V8 b (some ⟨g1,0,none⟩) (ts.length+1) c3 (tV (ts.length+1) fun k=>(fsF fs k).frame)∧V8.heap[Z2.heap.size]?=some (.cells (Y.K j).cells 50 (0,0))):=by
      refine ⟨HV7.out.1.mz HV7.out.2.2.1 ht8,HV7.out.2.1.mz HV7.out.2.2.1 ht8,?_,(ht8.block _ (gO HV7.out.2.2.2.1) (HV7.out.2.2.1.lF (by decide) HV7.out.2.2.2.1)).trans HV7.out.2.2.2.1⟩
      rw [HJ2.out.2.2.1,Cx]
      exact hu
     have c72:V8.cell? ⟨Z2.heap.size,2,none⟩=some (.int .i64 (Y.K j).refs):=gM HV8.out.2.2.2 2
     have H17:Hid (V8.heap[Z2.heap.size]?=some (.cells (Y.K j).cells 50 (0,0))):=HV8.out.2.2.2
     have hsm:=HY.out.refs j hj
     have hw1:IntKind.i64.wrap ((Y.K j).refs-1)=(Y.K j).refs-1:=kY _ (by omega) (by omega)
     clear hbk kK szK ccK eK hu ht8 hb7 HZ2 hsm
     go_wp2_with (first | refine gY rfl 50 8 _ Tryz.underlying50 rfl uM (.tmp 113) rfl gk (j*8) (by simp [Act.eval]) (Y.K j).cells rfl HLk.out ?_ | refine iY 50 8 uM rfl (.tmp 17) (.tmp 114) rfl (Y.K j).cells _ rfl rfl rfl rfl rfl (Pkt.one _) (e7▸?_) | refine gY rfl 43 5 _ Tryz.underlying43 rfl qa (.tmp 116) rfl Z2.heap.size 3 rfl #[.int .i64 (Y.K j).k,.int .i64 (Y.K j).d,.int .i64 (Y.K j).s,.int .i64 (Y.K j).p,.string (Y.K j).b] rfl HL7.out ?_ | (at_builtin;refine Lib.wpList_append_run _ rfl _ _ _ _ rfl _ _ rfl rfl _ _ hrun ?_) | refine gW rfl 2 (.tmp 123) (.tmp 122) rfl Z2.heap.size 2 rfl (.int .i64 ((Y.K j).refs-1)) rfl 1 rfl 50 _ H17.out (by kernel_rfl) (Nat.le_of_ble_eq_true rfl) (by simp [Value.cells,Value.oneCell']) ?_)
     intro V9 hP
     replace hP:Put V8 V9 Z2.heap.size ({ Y.K j with refs:=(Y.K j).refs-1 }:Pkt).cells 50:=hP.cast rfl
     have HV9:Hid (SpS w S Y b g6 V9∧jU V9 b Y Y.nL∧OG 43 5 V9 b (some ⟨g1,0,none⟩) (ts.length+1) c3 (tV (ts.length+1) fun k=>(fsF fs k).frame)∧V9.heap[Z2.heap.size]?=some (.cells ({ Y.K j with refs:=(Y.K j).refs-1 }:Pkt).cells 50 (0,0))∧b≤gk∧gk<Z2.heap.size∧Y.aK=some ⟨gk,0,none⟩∧b<Z2.heap.size):=by
      have hgk:=HV7.out.2.2.2.2.2.1
      have hgb:=HV7.out.2.2.2.2.2.2.2
      refine ⟨HV8.out.1.far H17.out (by decide) (by omega) hP.to,HV8.out.2.1.box H17.out hP.to ⟨by decide,by decide,by decide,by decide⟩ (by rw [HV7.out.2.2.2.2.2.2.1];exact Ei (by omega)) (HV8.out.2.1.l.pY H17.out (by decide)),HV8.out.2.2.1.gX hP.to (fun x hx hy=>HV8.out.2.2.1.lF (by decide) H17.out (by simp at hy;rw [←hy];exact hx)),hP.blk,HV7.out.2.2.2.2.1,hgk,HV7.out.2.2.2.2.2.2.1,hgb⟩
     clear hP HV7 HV8 H17 HL7 HLk c72 c13 hrun e7
     obtain ⟨g7,eg7⟩:∃ g,Z2.heap.size=g:=⟨_,rfl⟩
     rw [eg7] at HV9 ⊢
     clear eg7
     obtain ⟨gk',curK',eK',_,kK',szK',_⟩:=HV9.out.2.1.k.at0 (show 0<Y.nK*8 by omega)
     have hgg':gk'=gk:=by have:=HV9.out.2.2.2.2.2.2.1;rw [eK'] at this;simpa using this
     subst hgg'
     have c13:V9.cell? ⟨g6,13,none⟩=some (.slice (some ⟨gk',0,none⟩) Y.nK Y.cK):=by rw [←eK'];exact gM HV9.out.1.o 13
     have HL7:Hid (∀ q,q<8→V9.cell? ⟨g7,0+q,none⟩=({ Y.K j with refs:=(Y.K j).refs-1 }:Pkt).cells[q]?):=fun q _=>by rw [Nat.zero_add];exact gM HV9.out.2.2.2.1 q
     have HKK:Hid (V9.heap[gk']?=some (.cells curK' 50 (0,0))∧Y.nK*8≤curK'.size):=⟨kK',szK'⟩
     clear eK' kK' szK'
     go_wp2_with (first | refine gY rfl 50 8 _ Tryz.underlying50 rfl uM (.tmp 17) rfl g7 0 rfl ({ Y.K j with refs:=(Y.K j).refs-1 }:Pkt).cells rfl HL7.out ?_ | refine gW rfl 50 (.tmp 128) (.tmp 127) rfl gk' (j*8) (by simp [Act.eval]) (.agg ({ Y.K j with refs:=(Y.K j).refs-1 }:Pkt).cells) rfl 8 rfl 50 _ HKK.out.1 uM (by have:=HKK.out.2;omega) (Pkt.one _) ?_)
     intro V10 hP
     replace hP:Put V9 V10 gk' (lay curK' (j*8) ({ Y.K j with refs:=(Y.K j).refs-1 }:Pkt).cells) 50:=hP
     obtain ⟨Y1,eY1⟩:∃ Y1:Swg,{ Y with K:=j9 Y.K j }=Y1:=⟨_,rfl⟩
     have HW:Hid (SpS w S Y1 b g6 V10∧jU V10 b Y1 Y1.nL∧OG 43 5 V10 b (some ⟨g1,0,none⟩) (ts.length+1) c3 (tV (ts.length+1) fun k=>(fsF fs k).frame)):=by
      have h1:=HV9.out.1.far HKK.out.1 (by decide) HV9.out.2.2.2.2.1 hP.to
      rw [←eY1]
      exact ⟨⟨h1.a,h1.z,h1.o,h1.bel,h1.lo,h1.hi⟩,HV9.out.2.1.setK hj HV9.out.2.2.2.2.2.2.1 HKK.out.1 hP (Ec Y.K j),HV9.out.2.2.1.gX hP.to (fun x hx hy=>HV9.out.2.2.1.lF (by decide) HKK.out.1 (by simp at hy;rw [←hy];exact hx))⟩
     have H17:Hid (V10.heap[g7]?=some (.cells ({ Y.K j with refs:=(Y.K j).refs-1 }:Pkt).cells 50 (0,0))):=(hP.to.block _ (gO HV9.out.2.2.2.1) (by have:=HV9.out.2.2.2.2.2.1;simp;omega)).trans HV9.out.2.2.2.1
     have c72:V10.cell? ⟨g7,2,none⟩=some (.int .i64 ((Y.K j).refs-1)):=gM H17.out 2
     have hrr:=HJ2.out.2.2.2
     replace HJ2:Hid (fs.length=ts.length+1):=by rw [Hid,HJ2.out.2.2.1];simp
     have HGK:Hid (b≤gk'∧gk'<g7∧Y.aK=some ⟨gk',0,none⟩∧b<g7):=⟨HV9.out.2.2.2.2.1,HV9.out.2.2.2.2.2.1,HV9.out.2.2.2.2.2.2.1,HV9.out.2.2.2.2.2.2.2⟩
     clear hP HV9 HKK HL7 c13
     rcases hrr with ⟨hr1,hA1⟩ | ⟨hr1,hA1⟩
     ·
      --[W5
      have HAF:Hid (hG S' Y1):=by rw [←eY1];exact hA1
      have hb5:((Y.K j).refs-1 == 0)=false:=by simp;omega
      have hn5:¬ ((Y.K j).refs-1=0):=by omega
      clear hA1 eY1
      have HL6:Hid (∀ q,q<17→V10.cell? ⟨g6,0+q,none⟩=Y1.cells[q]?):=fun q _=>by rw [Nat.zero_add];exact gM HW.out.1.o q
      have HD4:Hid (V10.heap[w.heap.size+1]?=some (.cells zSw 34 (0,0))):=HW.out.1.z
      go_wp2_with (first | refine gY rfl 34 17 _ Tryz.underlying34 rfl ij (.tmp 6) rfl g6 0 rfl Y1.cells rfl HL6.out ?_ | refine gW rfl 34 (.tmp 4) (.tmp 163) rfl (w.heap.size+1) 0 rfl (.agg Y1.cells) rfl 17 rfl 34 _ HD4.out ij (Nat.le_of_ble_eq_true rfl) (Swg.lx _) ?_)
      intro Zf hP
      replace hP:Put V10 Zf (w.heap.size+1) Y1.cells 34:=hP.cast rfl
      have HK:Hid (Zf.heap[w.heap.size+1]?=some (.cells Y1.cells 34 (0,0))):=hP.blk
      have HFF:Hid (jU Zf w.heap.size Y1 Y1.nL∧OG 43 5 Zf w.heap.size (some ⟨g1,0,none⟩) (ts.length+1) c3 (tV (ts.length+1) fun k=>(fsF fs k).frame)∧Below w.heap.size w Zf):=Dr HW.out.1 HW.out.2.1 HW.out.2.2 hP
      clear hP HL6 HD4
      repeat (first | go_values | go_skip | go_step)
      rw [HJ2.out]
      exact bodyPost_ret (jI Tryz.results28 17 _ Tryz.underlying34 rfl ij _ _ (w.heap.size+1) Y1.cells rfl 34 HK.out rfl (.slice (some ⟨g1,0,none⟩) (ts.length+1) c3) rfl) rfl ⟨Y1,some ⟨g1,0,none⟩,c3,rfl,HAF.out,HFF.out.1,HFF.out.2.1,HFF.out.2.2⟩
     ·
      --[W6
      have hb5:((Y.K j).refs-1 == 0)=true:=by simp;omega
      have hn5:(Y.K j).refs-1=0:=by omega
      have HA1:Hid (hG S' { Y with nK:=Y.nK-1,K:=rmK Y.K j,N:=kW Y.N (Y.K j).inn (Y.K j).p (-(Y.K j).cl) }):=hA1
      have HE1:Hid ({ Y with K:=j9 Y.K j }=Y1):=eY1
      have HQ:Hid (Y1.aK=some ⟨gk',0,none⟩∧Y1.nK=Y.nK∧Y1.cK=Y.cK∧Y.nK≤Y.cK∧Y.nK≤1048576∧j<Y.nK):=by rw [Hid,←eY1];exact ⟨HGK.out.2.2.1,rfl,rfl,HY.out.cap,HY.out.n,hj⟩
      have hlo:∀ wx,(Instr.slice 31 (.slice (some ⟨gk',0,none⟩) Y.nK Y.cK) none (some (.int .i64 (j:Int))) none).run Tryz.prog wx=.ok (.slice (some ⟨gk',0,none⟩) j Y.cK) wx:=fun wx=>zT gk' 0 Y.nK Y.cK j wx (by omega) HQ.out.2.2.2.1
      have hhi:∀ wx,(Instr.slice 31 (.slice (some ⟨gk',0,none⟩) Y.nK Y.cK) (some (.int .i64 ((j:Int)+1))) none none).run Tryz.prog wx=.ok (.slice (some ⟨gk',if Y.cK=j+1 then 0 else (j+1)*8,none⟩) (Y.nK-(j+1)) (Y.cK-(j+1))) wx:=fun wx=>by
       have:=yA gk' Y.nK Y.cK (j+1) wx (by omega) HQ.out.2.2.2.1
       rw [show (((j+1:Nat):Int))=(j:Int)+1 by omega] at this
       exact this
      have hwj:IntKind.i64.wrap ((j:Int)+1)=(j:Int)+1:=kY _ (by omega) (by have:=HQ.out.2.2.2.2.1;omega)
      obtain ⟨oH,eoH⟩:∃ o,(if Y.cK=j+1 then 0 else (j+1)*8)=o:=⟨_,rfl⟩
      rw [eoH] at hhi
      have HoH:Hid ((if Y.cK=j+1 then 0 else (j+1)*8)=oH):=eoH
      clear hA1 eY1 hr1 eoH
      go_wp2_with fail
      clear c72
      refine iV (fun wx=>wx.heap[g6]?=some (.cells Y1.cells 34 (0,0))) 13 (by kernel_rfl) ?_
      have hd:Below V10.heap.size V10 V10.drew:=(Below.refl _ _).drew
      have HD:Hid (SpS w S Y1 b g6 V10.drew∧jU V10.drew b Y1 Y1.nL∧OG 43 5 V10.drew b (some ⟨g1,0,none⟩) (ts.length+1) c3 (tV (ts.length+1) fun k=>(fsF fs k).frame)∧V10.drew.heap[g7]?=some (.cells ({ Y.K j with refs:=(Y.K j).refs-1 }:Pkt).cells 50 (0,0))):=⟨HW.out.1.up hd,HW.out.2.1.up hd,HW.out.2.2.up hd,(hd.block _ (gO H17.out)).trans H17.out⟩
      clear hd HW H17
      generalize V10.drew=D at *
      have hT0:D.heap[g6]?=some (.cells Y1.cells 34 (0,0)):=HD.out.1.o
      have HC13:Hid (∀ wx:World,wx.heap[g6]?=some (.cells Y1.cells 34 (0,0))→wx.cell? ⟨g6,13,none⟩=some (.slice (some ⟨gk',0,none⟩) Y.nK Y.cK)):=fun wx h=>by rw [←HQ.out.1,←HQ.out.2.1,←HQ.out.2.2.1];exact gM h 13
      have hrd:mI D (some ⟨gk',0,none⟩) Y.nK Y1.K:=by
       have:=HD.out.2.1.k.g.pks
       rw [HQ.out.1,HQ.out.2.1] at this
       exact this
      obtain ⟨a1,c1,W1,r1,b1,a2,c2,W2,r2,o2,b2⟩:=E4 hrd hj HQ.out.2.2.2.1 HQ.out.2.2.2.2.1
      obtain ⟨Da,eDa⟩:∃ X,D.alloc (.cells #[] 50)=X:=⟨_,rfl⟩
      have hbD:Below D.heap.size D Da:=by rw [←eDa];exact (Below.refl _ _).alloc (Nat.le_refl _) _
      rw [eDa] at r1
      rw [HoH.out] at r2
      have HR1:Hid ((Builtin.append_ #[31,31] 31 #[.slice (some ⟨D.heap.size,0,none⟩) 0 0,.slice (some ⟨gk',0,none⟩) j Y.cK]).run Tryz.prog Da=.ok (.slice a1 j c1) W1):=r1
      have HR2:Hid ((Builtin.append_ #[31,31] 31 #[.slice a1 j c1,.slice (some ⟨gk',oH,none⟩) (Y.nK-(j+1)) (Y.cK-(j+1))]).run Tryz.prog W1=.ok (.slice a2 (Y.nK-1) c2) W2):=r2
      have HO2:Hid (OG 50 8 W2 D.heap.size a2 (Y.nK-1) c2 (oG (Y.nK-1) (rmK Y1.K j))∧Below D.heap.size D W2∧Below D.heap.size D W1∧Below D.heap.size D Da):=⟨o2,b2,b1,hbD⟩
      clear r1 r2 o2 b1 b2 hbD hrd
      refine tE 1 133 hT0 ?_
      refine ka (i:=2) (some 134) (v:=?_) ?_ hT0 ?_
      rotate_left
      ·
       intro wx hSw
       have c13:=HC13.out wx hSw
       exact du
      try simp only [Act.put,PZ]
      refine tE 3 135 hT0 ?_
      refine ka (i:=4) (some 136) (v:=.slice (some ⟨gk',0,none⟩) j Y.cK) ?_ hT0 ?_
      ·
       intro wx hSw
       have hr1:=hlo wx
       exact du
      try simp only [Act.put,PZ]
      refine tE 6 138 hT0 ?_
      refine ka (i:=7) (some 139) (v:=?_) ?_ hT0 ?_
      rotate_left
      ·
       intro wx hSw
       have c13:=HC13.out wx hSw
       exact du
      try simp only [Act.put,PZ]
      refine tE 8 140 hT0 ?_
      refine tE 9 141 hT0 ?_
      refine ka (i:=10) (some 142) (v:=.slice (some ⟨gk',oH,none⟩) (Y.nK-(j+1)) (Y.cK-(j+1))) ?_ hT0 ?_
      ·
       intro wx hSw
       have hr1:=hhi wx
       exact du
      try simp only [Act.put,PZ]
      refine gT (rs:=[0]) (by kernel_rfl) (by simp) ?_
      refine gR.cons rfl (fun K hK=>?_) gR.nil
      go_simp
      clear eDa
      have hT1:Da.heap[g6]?=some (.cells Y1.cells 34 (0,0)):=(HO2.out.2.2.2.block _ (gO hT0)).trans hT0
      refine hK.out _ _ hT1 ?_
      clear hK K
      try simp only [Act.put,PZ]
      refine gT (rs:=[5]) (by kernel_rfl) (by simp) ?_
      refine gR.cons rfl (fun K hK=>?_) gR.nil
      refine k9 (by kernel_rfl) (some 137) rfl (.tmp 132) (.tmp 136) 31 _ _ _ rfl rfl rfl rfl HR1.out ?_
      have hT2:W1.heap[g6]?=some (.cells Y1.cells 34 (0,0)):=(HO2.out.2.2.1.block _ (gO hT0)).trans hT0
      refine hK.out _ _ hT2 ?_
      clear hK K
      try simp only [Act.put,PZ]
      refine gT (rs:=[11]) (by kernel_rfl) (by simp) ?_
      refine gR.cons rfl (fun K hK=>?_) gR.nil
      refine k9 (by kernel_rfl) (some 143) rfl (.tmp 137) (.tmp 142) 31 _ _ _ rfl rfl rfl rfl HR2.out ?_
      have hT3:W2.heap[g6]?=some (.cells Y1.cells 34 (0,0)):=(HO2.out.2.1.block _ (gO hT0)).trans hT0
      refine hK.out _ _ hT3 ?_
      clear hK K
      try simp only [Act.put,PZ]
      refine tE 12 144 hT3 ?_
      refine gT (rs:=[13]) (by kernel_rfl) (by simp) ?_
      refine gR.last rfl (fun K hK=>?_)
      refine jP (by kernel_rfl) none rfl 31 (.tmp 144) (.tmp 143) rfl g6 13 rfl (.slice a2 (Y.nK-1) c2) rfl 1 rfl 34 _ hT3 D6 (Nat.le_of_ble_eq_true rfl) (by simp [Value.cells,Value.oneCell']) ?_
      intro V11 hP
      refine hK.out _ _ ?_
      clear hK K
      try simp only [Act.put,PZ]
      refine iH (by kernel_rfl) ?_ _
      obtain ⟨Y2,eY2⟩:∃ Y2:Swg,{ Y1 with aK:=a2,nK:=Y.nK-1,cK:=c2,K:=rmK Y1.K j }=Y2:=⟨_,rfl⟩
      replace hP:Put W2 V11 g6 Y2.cells 34:=hP.cast (by rw [←eY2];rfl)
      have HU:Hid (SpS w S Y2 b g6 V11∧jU V11 b Y2 Y2.nL∧OG 43 5 V11 b (some ⟨g1,0,none⟩) (ts.length+1) c3 (tV (ts.length+1) fun k=>(fsF fs k).frame)∧V11.heap[g7]?=some (.cells ({ Y.K j with refs:=(Y.K j).refs-1 }:Pkt).cells 50 (0,0))):=by
       have hb2:=HO2.out.2.1
       have hzD:=HD.out.1.size
       have h1:=HD.out.1.up hb2
       have h2:=HD.out.2.1.up hb2
       have h3:jU V11 b Y1 Y1.nL:=h2.box h1.o hP.to ⟨by decide,by decide,by decide,by decide⟩ (h2.k.pY h1.o (by decide)) (h2.l.pY h1.o (by decide))
       have h4:OG 50 8 V11 D.heap.size a2 (Y.nK-1) c2 (oG (Y.nK-1) (rmK Y1.K j)):=HO2.out.1.gX hP.to (fun x hx hy=>HO2.out.1.lF (by decide) h1.o (by simp at hy;rw [←hy];exact hx))
       have h5:=h3.newRow h4 (Nat.le_of_lt hzD)
       rw [eY2] at h5
       refine ⟨h1.put hP,?_,(HD.out.2.2.1.up hb2).gX hP.to (fun x hx hy=>(HD.out.2.2.1.up hb2).lF (by decide) h1.o (by simp at hy;rw [←hy];exact hx)),?_⟩
       ·
        rw [show Y1.nL=Y2.nL by rw [←eY2]] at h5
        exact h5
       have k7:=(hb2.block _ (gO HD.out.2.2.2)).trans HD.out.2.2.2
       exact (hP.to.block _ (gO k7) (fun hy=>jW h1.o k7 (by decide) (by simpa using hy:g7=g6).symm)).trans k7
      have HE2:Hid ({ Y1 with aK:=a2,nK:=Y.nK-1,cK:=c2,K:=rmK Y1.K j }=Y2):=eY2
      clear hP HD HO2 HR1 HR2 hT0 hT1 hT2 hT3 eY2 HC13 hlo hhi hwj hb5 hn5
      go_wp2_with fail
      have HF7:Hid ((Y.K j).nq∧(0≤(Y.K j).inn∧(Y.K j).inn≤Y.C.p-1)):=⟨(HY.out.k.one j hj).2.2,(HY.out.k.one j hj).2.1⟩
      have HN2:Hid (Y2.N=Y.N∧Y2.C=S.C∧Cnt.Ok S.C Y.N∧Cnt.Ok S.C (kW Y.N (Y.K j).inn (Y.K j).p (-(Y.K j).cl))∧Y.C=S.C):=by
       have h1:=HY.out.cn
       have h2:=HY.out.rel j hj
       have h3:=HY.out.c
       rw [h3] at h1 h2
       refine ⟨by rw [←HE2.out,←HE1.out],by rw [←HE2.out,←HE1.out];exact h3,h1,h2,h3⟩
      go_cut [145] (fun _ wx=>∃ M,Hid (iA (kW Y.N (Y.K j).inn (Y.K j).p (-(Y.K j).cl)) M∧SpS w S { Y2 with N:=M } b g6 wx∧jU wx b { Y2 with N:=M } Y2.nL∧OG 43 5 wx b (some ⟨g1,0,none⟩) (ts.length+1) c3 (tV (ts.length+1) fun k=>(fsF fs k).frame)))
      case first =>
       refine qW (fun wx=>wx.heap[w.heap.size]?=some (.cells S.cells 34 (0,0))∧wx.heap[g6]?=some (.cells Y2.cells 34 (0,0))∧wx.heap[g7]?=some (.cells ({ Y.K j with refs:=(Y.K j).refs-1 }:Pkt).cells 50 (0,0))) 18 (by kernel_rfl) ?_
       have hd:Below V11.heap.size V11 V11.drew:=(Below.refl _ _).drew
       have HD:Hid (SpS w S Y2 b g6 V11.drew∧jU V11.drew b Y2 Y2.nL∧OG 43 5 V11.drew b (some ⟨g1,0,none⟩) (ts.length+1) c3 (tV (ts.length+1) fun k=>(fsF fs k).frame)∧V11.drew.heap[g7]?=some (.cells ({ Y.K j with refs:=(Y.K j).refs-1 }:Pkt).cells 50 (0,0))):=⟨HU.out.1.up hd,HU.out.2.1.up hd,HU.out.2.2.1.up hd,(hd.block _ (gO HU.out.2.2.2)).trans HU.out.2.2.2⟩
       clear hd
       generalize V11.drew=D at *
       have hT0:D.heap[w.heap.size]?=some (.cells S.cells 34 (0,0))∧D.heap[g6]?=some (.cells Y2.cells 34 (0,0))∧D.heap[g7]?=some (.cells ({ Y.K j with refs:=(Y.K j).refs-1 }:Pkt).cells 50 (0,0)):=⟨HD.out.1.a,HD.out.1.o,HD.out.2.2.2⟩
       have hwn:IntKind.i64.wrap (-(Y.K j).cl)=-(Y.K j).cl:=kY _ (by have:=HF7.out.1.cl;omega) (by have:=HF7.out.1.cl;omega)
       refine tG 0 146 hT0 ?_
       refine vw (i:=1) (some 147) (v:=.agg S.C.cells) ?_ hT0 ?_
       ·
        intro wx hSw
        exact jn 25 7 _ Tryz.underlying25 rfl AP (.tmp 146) rfl w.heap.size 0 rfl S.C.cells rfl (fun q hq=>by
         rw [Nat.zero_add,gM hSw.1]
         have:q=0∨q=1∨q=2∨q=3∨q=4∨q=5∨q=6:=by omega
         rcases this with rfl | rfl | rfl | rfl | rfl | rfl | rfl <;> rfl)
       try simp only [Act.put,PZ]
       refine tG 2 148 hT0 ?_
       refine vw (i:=3) (some 149) (v:=.agg Y2.N.cells) ?_ hT0 ?_
       ·
        intro wx hSw
        exact jn 30 3 _ Tryz.underlying30 rfl oY (.tmp 148) rfl g6 10 rfl Y2.N.cells rfl (fun q hq=>by
         rw [gM hSw.2.1]
         have:q=0∨q=1∨q=2:=by omega
         rcases this with rfl | rfl | rfl <;> rfl)
       try simp only [Act.put,PZ]
       refine tG 4 150 hT0 ?_
       refine vw (i:=5) (some 151) (v:=?_) ?_ hT0 ?_
       rotate_left
       ·
        intro wx hSw
        have b1:wx.cell? ⟨g7,1,none⟩=some (.int .i64 (Y.K j).inn):=gM hSw.2.2 1
        exact du
       try simp only [Act.put,PZ]
       refine tG 6 152 hT0 ?_
       refine tG 7 153 hT0 ?_
       refine vw (i:=8) (some 154) (v:=?_) ?_ hT0 ?_
       rotate_left
       ·
        intro wx hSw
        have b6:wx.cell? ⟨g7,6,none⟩=some (.int .i64 (Y.K j).p):=gM hSw.2.2 6
        exact du
       try simp only [Act.put,PZ]
       refine tG 9 155 hT0 ?_
       refine vw (i:=10) (some 156) (v:=.agg #[.int .i64 (Y.K j).k,.int .i64 (Y.K j).d,.int .i64 (Y.K j).s,.int .i64 (Y.K j).p,.string (Y.K j).b]) ?_ hT0 ?_
       ·
        intro wx hSw
        exact jn 43 5 _ Tryz.underlying43 rfl qa (.tmp 155) rfl g7 3 rfl #[.int .i64 (Y.K j).k,.int .i64 (Y.K j).d,.int .i64 (Y.K j).s,.int .i64 (Y.K j).p,.string (Y.K j).b] rfl (fun q hq=>(gM hSw.2.2 _).trans (Fu ({ Y.K j with refs:=(Y.K j).refs-1 }:Pkt) q hq))
       try simp only [Act.put,PZ]
       refine jf (rs:=[11]) (by kernel_rfl) (by simp) ?_
       refine iF.cons rfl (fun K hK=>?_) iF.nil
       go_simp
       refine (ja (Y.K j).k (Y.K j).d (Y.K j).s (Y.K j).p (Y.K j).b _ HF7.out.1.le).mono ?_
       rintro e D1 ⟨rfl,hb⟩
       rw [show (((Y.K j).b.size:Int)+9+9) / 10=(Y.K j).cl from rfl]
       have HD1:Hid (SpS w S Y2 b g6 D1∧jU D1 b Y2 Y2.nL∧OG 43 5 D1 b (some ⟨g1,0,none⟩) (ts.length+1) c3 (tV (ts.length+1) fun k=>(fsF fs k).frame)∧D1.heap[g7]?=some (.cells ({ Y.K j with refs:=(Y.K j).refs-1 }:Pkt).cells 50 (0,0))):=⟨HD.out.1.up hb,HD.out.2.1.up hb,HD.out.2.2.1.up hb,(hb.block _ (gO HD.out.2.2.2)).trans HD.out.2.2.2⟩
       have hT1:D1.heap[w.heap.size]?=some (.cells S.cells 34 (0,0))∧D1.heap[g6]?=some (.cells Y2.cells 34 (0,0))∧D1.heap[g7]?=some (.cells ({ Y.K j with refs:=(Y.K j).refs-1 }:Pkt).cells 50 (0,0)):=⟨HD1.out.1.a,HD1.out.1.o,HD1.out.2.2.2⟩
       clear hb hT0 HD
       go_wp2_with fail
       refine hK.out _ _ hT1 ?_
       clear hK K
       try simp only [Act.put,PZ]
       refine tG 12 158 hT1 ?_
       refine jf (rs:=[13]) (by kernel_rfl) (by simp) ?_
       refine iF.cons rfl (fun K hK=>?_) iF.nil
       go_simp
       refine (yV S.C Y2.N (Y.K j).inn (Y.K j).p (-(Y.K j).cl) _ (by rw [HN2.out.1];exact HN2.out.2.2.1) HD1.out.2.1.n.rd (by have:=HF7.out.2;rw [HN2.out.2.2.2.2] at this;exact this) (by have:=HF7.out.1.cl;omega) (by have:=HF7.out.1.cl;omega) (by rw [HN2.out.1];exact HN2.out.2.2.2.1)).mono ?_
       rintro e D2 ⟨M,rfl,oM,hb,aM⟩
       rw [HN2.out.1] at aM
       have hz1:=HD1.out.1.size
       have HD2:Hid (SpS w S Y2 b g6 D2∧jU D2 b Y2 Y2.nL∧OG 43 5 D2 b (some ⟨g1,0,none⟩) (ts.length+1) c3 (tV (ts.length+1) fun k=>(fsF fs k).frame)∧iG D2 D1.heap.size M∧iA (kW Y.N (Y.K j).inn (Y.K j).p (-(Y.K j).cl)) M∧b<D1.heap.size):=⟨HD1.out.1.up hb,HD1.out.2.1.up hb,HD1.out.2.2.1.up hb,oM,aM,hz1⟩
       have hT2:D2.heap[w.heap.size]?=some (.cells S.cells 34 (0,0))∧D2.heap[g6]?=some (.cells Y2.cells 34 (0,0))∧D2.heap[g7]?=some (.cells ({ Y.K j with refs:=(Y.K j).refs-1 }:Pkt).cells 50 (0,0)):=⟨HD2.out.1.a,HD2.out.1.o,(hb.block _ (gO HD1.out.2.2.2)).trans HD1.out.2.2.2⟩
       clear hb hT1 HD1 oM aM hz1
       go_wp2_with fail
       refine hK.out _ _ hT2 ?_
       clear hK K
       try simp only [Act.put,PZ]
       refine tG 14 145 hT2 ?_
       refine tG 15 160 hT2 ?_
       refine tG 17 162 hT2 ?_
       refine jf (rs:=[16,18]) (by kernel_rfl) (by simp) ?_
       refine iF.cons rfl (fun K hK=>?_) (iF.last rfl (fun K hK=>?_))
       ·
        go_simp
        refine hK.out _ _ hT2 ?_
        clear hK K
        try simp only [Act.put,PZ]
        refine jf (rs:=[18]) (by kernel_rfl) (by simp) ?_
        refine iF.last rfl (fun K hK=>?_)
        refine jP (by kernel_rfl) none rfl 30 (.tmp 162) (.tmp 160) rfl g6 10 rfl (.agg M.cells) rfl 3 rfl 34 _ hT2.2.1 oY (Nat.le_of_ble_eq_true rfl) (Cnt.lx _) ?_
        intro D3 hP
        exact fV
       refine jP (by kernel_rfl) none rfl 30 (.tmp 162) (.tmp 160) rfl g6 10 rfl (.agg M.cells) rfl 3 rfl 34 _ hT2.2.1 oY (Nat.le_of_ble_eq_true rfl) (Cnt.lx _) ?_
       intro D3 hP
       refine hK.out _ _ ?_
       clear hK K
       try simp only [Act.put,PZ]
       refine jf (rs:=[16]) (by kernel_rfl) (by simp) ?_
       refine iF.late rfl (by kernel_rfl) (fun K hK=>?_)
       go_simp
       exact fV
      obtain ⟨M,HE⟩:=hcut
      obtain ⟨Y3,eY3⟩:∃ Y3:Swg,{ Y2 with N:=M }=Y3:=⟨_,rfl⟩
      have HW:Hid (SpS w S Y3 b g6 wc∧jU wc b Y3 Y3.nL∧OG 43 5 wc b (some ⟨g1,0,none⟩) (ts.length+1) c3 (tV (ts.length+1) fun k=>(fsF fs k).frame)):=by
       rw [←eY3]
       exact ⟨HE.out.2.1,HE.out.2.2.1,HE.out.2.2.2⟩
      have HAF:Hid (hG S' Y3):=by
       have hA:=HA1.out
       rw [Hid,←eY3,←HE2.out,←HE1.out]
       refine hA.trans ⟨rfl,rfl,rfl,rfl,rfl,HE.out.1,rfl,?_,rfl,fun i _=>iC.refl _,rfl,rfl⟩
       show rmK (j9 Y.K j) j=rmK Y.K j
       exact DC Y.K j
      clear HE eY3 HU HY HE1 HE2 HA1 HN2 HF7
      have HL6:Hid (∀ q,q<17→wc.cell? ⟨g6,0+q,none⟩=Y3.cells[q]?):=fun q _=>by rw [Nat.zero_add];exact gM HW.out.1.o q
      have HD4:Hid (wc.heap[w.heap.size+1]?=some (.cells zSw 34 (0,0))):=HW.out.1.z
      go_wp2_with (first | refine gY rfl 34 17 _ Tryz.underlying34 rfl ij (.tmp 6) rfl g6 0 rfl Y3.cells rfl HL6.out ?_ | refine gW rfl 34 (.tmp 4) (.tmp 163) rfl (w.heap.size+1) 0 rfl (.agg Y3.cells) rfl 17 rfl 34 _ HD4.out ij (Nat.le_of_ble_eq_true rfl) (Swg.lx _) ?_)
      intro Zf hP
      replace hP:Put wc Zf (w.heap.size+1) Y3.cells 34:=hP.cast rfl
      have HK:Hid (Zf.heap[w.heap.size+1]?=some (.cells Y3.cells 34 (0,0))):=hP.blk
      have HFF:Hid (jU Zf w.heap.size Y3 Y3.nL∧OG 43 5 Zf w.heap.size (some ⟨g1,0,none⟩) (ts.length+1) c3 (tV (ts.length+1) fun k=>(fsF fs k).frame)∧Below w.heap.size w Zf):=Dr HW.out.1 HW.out.2.1 HW.out.2.2 hP
      clear hP HL6 HD4
      repeat (first | go_values | go_skip | go_step)
      rw [HJ2.out]
      exact bodyPost_ret (jI Tryz.results28 17 _ Tryz.underlying34 rfl ij _ _ (w.heap.size+1) Y3.cells rfl 34 HK.out rfl (.slice (some ⟨g1,0,none⟩) (ts.length+1) c3) rfl) rfl ⟨Y3,some ⟨g1,0,none⟩,c3,rfl,HAF.out,HFF.out.1,HFF.out.2.1,HFF.out.2.2⟩
def ov (S:Swg) (b:Bool):Swg:=if b then S.iQ none 0 else kQ
theorem xR (S:Swg):ov S true=S.iQ none 0:=rfl
theorem xA (S:Swg) (w:World) (hs:S.Small) (hr:jK w S) (ok:Bool) (hok:ok=true↔S.Ok) (b:Bool) (hb:b=true↔S.Ok∧S.now≠1000000000) :
  Calls Tryz.prog 13 #[.agg S.cells] w fun e w'=>∃ S2,e=.returned (.tuple #[.agg S2.cells,.bool b])∧hG (ov S b) S2∧ir w' w.heap.size S2∧Below w.heap.size w w':=by
 have HO:Hid (ok=true↔S.Ok):=hok
 have HBB:Hid (b=true↔S.Ok∧S.now≠1000000000):=hb
 have HR:Hid (jK w S):=hr
 have HS:Hid S.Small:=hs
 obtain ⟨W,eW⟩:∃ W,(w.alloc (.cells S.cells 34)).alloc (.cells #[.int .i64 0,.int .i64 0,.int .i64 0,.int .i64 0,.int .i64 0,.int .i64 0,.int .i64 0,.int .i64 0,.int .i64 0,.slice none 0 0,.slice none 0 0,.int .i64 0,.slice none 0 0,.slice none 0 0,.slice none 0 0,.int .i64 0,.int .i64 0] 34)=W:=⟨_,rfl⟩
 have HX:Hid (Two w S.cells zSw 34 W):=by rw [←eW];exact Two.start _ _ _ _
 have HL:Hid (∀ j,j<17→W.cell? ⟨w.heap.size,0+j,none⟩=S.cells[j]?):=fun j _=>by rw [Nat.zero_add];exact gM HX.out.a j
 clear hs hr hok hb
 go_enter Tryz.func13,Tryz.ntmps13
 go_wp2_with (refine gY rfl 34 17 _ Tryz.underlying34 rfl ij (.tmp 1) rfl (w.heap.size) 0 rfl S.cells rfl HL.out ?_)
 clear eW HL
 refine (pG S _ HS.out (HR.out.up HX.out.bel) ok HO.out).mono ?_
 rintro e w1 ⟨rfl,hbl⟩
 replace HX:Hid (Two w S.cells zSw 34 w1):=HX.out.up hbl
 clear hbl
 have c7:w1.cell? ⟨w.heap.size,7,none⟩=some (.int .i64 S.now):=gM HX.out.a 7
 have HD:Hid (w1.heap[w.heap.size+1]?=some (.cells zSw 34 (0,0))):=HX.out.b
 cases ok
 ·
  have HF:Hid (b=false):=by
   rw [Hid,Bool.eq_false_iff]
   intro e
   have h:=HBB.out.1 e
   exact absurd (HO.out.2 h.1) (by simp)
  exact fW
 have HOk:Hid S.Ok:=HO.out.1 rfl
 by_cases hnow:S.now=1000000000
 ·
  have HNow:Hid (S.now=1000000000):=hnow
  have hnow':(S.now == 1000000000)=true:=by simp [hnow]
  clear hnow
  have HF:Hid (b=false):=by
   rw [Hid,Bool.eq_false_iff]
   intro e
   have h:=HBB.out.1 e
   exact h.2 HNow.out
  exact fW
 have hnow':(S.now == 1000000000)=false:=by simp [hnow]
 have HNow:Hid (S.now≠1000000000):=hnow
 clear hnow
 have HF:Hid (b=true):=HBB.out.2 ⟨HOk.out,HNow.out⟩
 have HL:Hid (∀ j,j<17→w1.cell? ⟨w.heap.size,0+j,none⟩=S.cells[j]?):=fun j _=>by rw [Nat.zero_add];exact gM HX.out.a j
 obtain ⟨ht1,ht2,ht3,ht4,ht5⟩:=xT HOk.out
 have HTb:Hid (jM S.nE S.e):=ht1
 clear ht1
 go_wp2_with (refine gY rfl 34 17 _ Tryz.underlying34 rfl ij (.tmp 1) rfl (w.heap.size) 0 rfl S.cells rfl HL.out ?_)
 clear HL c7 hnow'
 have HW1:Hid (w.heap.size≤w1.heap.size):=HX.out.bel.size
 refine (sO S _ HS.out ht4 ht5 (HR.out.up HX.out.bel)).mono ?_
 rintro e w2 ⟨P,rfl,aP,oP,hbl⟩
 replace HX:Hid (Two w S.cells zSw 34 w2):=HX.out.up hbl
 have HP:Hid (hG S P∧ir w2 w.heap.size P):=⟨aP,oP.mono HW1.out⟩
 clear aP oP hbl
 have HG:Hid ((w2.alloc (.cells #[.int .i64 0,.int .i64 0,.int .i64 0,.int .i64 0,.int .i64 0,.int .i64 0,.int .i64 0,.int .i64 0,.int .i64 0,.slice none 0 0,.slice none 0 0,.int .i64 0,.slice none 0 0,.slice none 0 0,.slice none 0 0,.int .i64 0,.int .i64 0] 34)).heap[w2.heap.size]?=some (.cells #[.int .i64 0,.int .i64 0,.int .i64 0,.int .i64 0,.int .i64 0,.int .i64 0,.int .i64 0,.int .i64 0,.int .i64 0,.slice none 0 0,.slice none 0 0,.int .i64 0,.slice none 0 0,.slice none 0 0,.slice none 0 0,.int .i64 0,.int .i64 0] 34 (0,0))):=gV _ _
 go_wp2_with (refine gW rfl 34 (.tmp 4) (.tmp 15) rfl (w2.heap.size) 0 rfl (.agg P.cells) rfl 17 rfl 34 _ HG.out ij (Nat.le_of_ble_eq_true rfl) (Swg.lx _) ?_)
 intro X0 hP
 replace hP:Put _ X0 w2.heap.size P.cells 34:=hP.cast rfl
 have hbl:Below w2.heap.size w2 X0:=((Below.refl _ _).alloc (Nat.le_refl _) _).trans (hP.to.below (by simp) (fun x hx=>by simp at hx;omega))
 have kN:=hP.blk
 have hgN:w.heap.size+1<w2.heap.size:=gO HX.out.b
 replace HX:Hid (Two w S.cells zSw 34 X0):=HX.out.up hbl
 replace HP:Hid (hG S P∧ir X0 w.heap.size P):=⟨HP.out.1,HP.out.2.up hbl⟩
 clear hP HG hbl HD
 obtain ⟨gN,eN⟩:∃ g,w2.heap.size=g:=⟨_,rfl⟩
 rw [eN] at kN hgN ⊢
 clear eN
 have HgN:Hid (w.heap.size+1<gN):=hgN
 have HkN:Hid (X0.heap[gN]?=some (.cells P.cells 34 (0,0))):=kN
 clear kN hgN
 go_wp2_with fail
 refine (so P gN w.heap.size _ HkN.out HP.out.2 HX.out.bel.size (by rw [HP.out.1.nE];exact HS.out.e) (by rw [HP.out.1.nE,HP.out.1.e];exact HTb.out) (by rw [HP.out.1.now];exact ht2) (by rw [HP.out.1.now];have:=HNow.out;omega)).mono ?_
 rintro e X1 ⟨⟨v,rfl⟩,aE,cE,kN,oN,tN⟩
 replace HX:Hid (Two w S.cells zSw 34 X1):=⟨(tN.block _ (gO HX.out.a) (by have:=HgN.out;simp;omega)).trans HX.out.a,(tN.block _ (gO HX.out.b) (by have:=HgN.out;simp;omega)).trans HX.out.b,HX.out.bel.trans (tN.below HX.out.bel.size (fun x hx=>by have:=HgN.out;simp at hx;omega))⟩
 have HN:Hid (hG (ov S b) (P.iQ aE cE)∧ir X1 w.heap.size (P.iQ aE cE)):=⟨by rw [HF.out,xR];exact HP.out.1.tick _ _ _ _,oN⟩
 have HL:Hid (∀ j,j<17→X1.cell? ⟨gN,0+j,none⟩=(P.iQ aE cE).cells[j]?):=fun j _=>by rw [Nat.zero_add];exact gM kN j
 have HD:Hid (X1.heap[w.heap.size+1]?=some (.cells zSw 34 (0,0))):=HX.out.b
 clear kN oN tN HP HkN
 go_wp2_with (first | refine gY rfl 34 17 _ Tryz.underlying34 rfl ij (.tmp 4) rfl (gN) 0 rfl (P.iQ aE cE).cells rfl HL.out ?_ | refine gW rfl 34 (.tmp 2) (.tmp 17) rfl (w.heap.size+1) 0 rfl (.agg (P.iQ aE cE).cells) rfl 17 rfl 34 _ HD.out ij (Nat.le_of_ble_eq_true rfl) (Swg.lx _) ?_)
 intro X hP
 replace hP:Put X1 X (w.heap.size+1) (P.iQ aE cE).cells 34:=hP.cast rfl
 have HK:Hid (X.heap[w.heap.size+1]?=some (.cells (P.iQ aE cE).cells 34 (0,0))):=hP.blk
 have HFF:Hid (ir X w.heap.size (P.iQ aE cE)∧Below w.heap.size w X):=⟨HN.out.2.off HD.out hP.to,HX.out.bel.trans (hP.to.below HX.out.bel.size (fun x hx=>by simp at hx;omega))⟩
 clear hP HL HD
 go_wp2_with fail
 rw [HF.out] at HN ⊢
 exact bodyPost_ret (jI Tryz.results13 17 _ Tryz.underlying34 rfl ij _ _ (w.heap.size+1) (P.iQ aE cE).cells rfl 34 HK.out rfl (.bool true) rfl) rfl ⟨P.iQ aE cE,rfl,HN.out.1,HFF.out.1,HFF.out.2⟩
open Go.ChangeShapes Go.WideShapes Go.ChangeAt Go.RowKit
theorem own:ownKnob Tryz.prog.godebug=none:=by kernel_rfl
theorem laidOut:laidOutB Tryz.prog=true:=by kernel_rfl
theorem Eh {w:World} {a:Addr} {v:Value} (h:w.cell? a=some v):a.block<w.heap.size:=by
 unfold World.cell? at h
 split at h
 ·
  rename_i heq
  exact (Array.getElem?_eq_some_iff.1 heq).1
 cases h
theorem yJ {H:Type} {enc:TypeId × Value→H} {W:World} {held:Bool} {a:Option Addr} {len cap:Nat} {d:DataW H} {p:List MemPlace}
  (h:DataW.Trod enc Tryz.prog W 0 (fun _=>true) held 22 (.slice a len cap) d p):len≤maxLen∧(len≤1048576→Code W.heap.size (.slice a len cap) len W):=by
 obtain ⟨fuel,hf⟩:=h
 rcases open_ints Tryz.underlying22 Tryz.underlying5 (by kernel_rfl) hf with ⟨hcs,_⟩ | ⟨x,l,c,zs,hcs,_,hl,hm,hz,_,hcell,hwz⟩
 ·
  simp [Value.cells] at hcs
  obtain ⟨rfl,rfl,rfl⟩:=hcs
  exact ⟨Nat.zero_le _,fun _=>.inl ⟨⟨_,_,rfl⟩,rfl⟩⟩
 simp [Value.cells] at hcs
 obtain ⟨rfl,rfl,rfl⟩:=hcs
 refine ⟨by omega,fun hs=>?_⟩
 by_cases h0:len=0
 ·
  subst h0
  exact .inl ⟨⟨_,_,rfl⟩,rfl⟩
 obtain ⟨b,off,spot⟩:=x
 have hz':zs.length=cap:=by simpa using hz
 have hc0:=hcell 0 (by omega)
 have hspot:spot=none:=by simpa [Addr.add] using World.cell?_spot hc0
 subst hspot
 have hb:b<W.heap.size:=by
  have:=Eh hc0
  simpa [Addr.add] using this
 refine .inr ⟨b,off,cap,rfl,hb,hs,fun i hi=>?_⟩
 have hci:=hcell i (by omega)
 have hw:(Lit.int .u8 (zs.getD i 0)).wf=true:=by
  refine hwz _ ?_
  rw [List.getD_eq_getElem?_getD,List.getElem?_eq_getElem (by omega)]
  exact List.getElem_mem _
 have hx:0≤zs.getD i 0∧zs.getD i 0≤255:=by simpa [Lit.wf,IntKind.min,IntKind.max,IntKind.signed,IntKind.bits] using hw
 refine ⟨(zs.getD i 0).toNat,by omega,?_⟩
 rw [show (((zs.getD i 0).toNat:Nat):Int)=zs.getD i 0 by omega]
 have e:(⟨b,off,none⟩:Addr).add i=⟨b,off+i,none⟩:=by unfold Addr.add;split <;> simp_all
 rw [e] at hci
 exact hci
theorem ko (a1 a2:Option Addr) (n c1 c2:Nat) (f:Nat→Int) (w:World) (hn:n≤1048576) (h1:iq w a1 n fun i=>.int .i64 (f i)) (h2:iq w a2 n fun i=>.int .i64 (f i)) :
  Calls Tryz.prog 44 #[.slice a1 n c1,.slice a2 n c2] w fun e w'=>e=.returned (.bool true)∧Same w w':=by
 go_enter Tryz.func44,Tryz.ntmps44
 exact fY
theorem uf (a1 a2:Option Addr) (n c1 c2:Nat) (f:Nat→Bool) (w:World) (hn:n≤1048576) (h1:iq w a1 n fun i=>.bool (f i)) (h2:iq w a2 n fun i=>.bool (f i)) :
  Calls Tryz.prog 45 #[.slice a1 n c1,.slice a2 n c2] w fun e w'=>e=.returned (.bool true)∧Same w w':=by
 go_enter Tryz.func45,Tryz.ntmps45
 exact fY
theorem ox (A B:Cnt) (w:World) (hs:A.Small) (hA:lJ w A) (hB:lJ w B) (h:iA A B) :
  Calls Tryz.prog 17 #[.agg A.cells,.agg B.cells] w fun e w'=>e=.returned (.bool true)∧Below w.heap.size w w':=by
 obtain ⟨aU,nU,cU,u,lo,aP,nP,cP,p⟩:=A
 obtain ⟨bU,nU',dU,u',lo',bP,nP',dP,p'⟩:=B
 obtain ⟨h1,h2,h3,h4,h5⟩:=h
 dsimp only at h1 h2 h3 h4 h5
 subst h1 h2 h3 h4 h5
 have hs1:nU'≤1048576:=hs.u
 have hs2:nP'≤1048576:=hs.p
 obtain ⟨w2,hw2⟩:∃ w2,w2=(w.alloc (.cells #[.slice aU nU' cU,.int .i64 lo',.slice aP nP' cP] 30)).alloc (.cells #[.slice bU nU' dU,.int .i64 lo',.slice bP nP' dP] 30):=⟨_,rfl⟩
 have k1:w2.heap[w.heap.size]?=some (.cells #[.slice aU nU' cU,.int .i64 lo',.slice aP nP' cP] 30 (0,0)):=by rw [hw2];exact (iv _ (by simp)).trans (gV _ _)
 have k2:w2.heap[w.heap.size+1]?=some (.cells #[.slice bU nU' dU,.int .i64 lo',.slice bP nP' dP] 30 (0,0)):=by
  rw [hw2]
  have:=gV (w.alloc (.cells #[.slice aU nU' cU,.int .i64 lo',.slice aP nP' cP] 30)) (.cells #[.slice bU nU' dU,.int .i64 lo',.slice bP nP' dP] 30)
  simpa using this
 have B2:Below w.heap.size w w2:=by rw [hw2];go_grown
 have HU1:Hid (iq w2 aU nU' fun i=>.int .i64 (u' i)):=hA.u.up B2
 have HU2:Hid (iq w2 bU nU' fun i=>.int .i64 (u' i)):=hB.u.up B2
 have HP1:Hid (iq w2 aP nP' fun i=>.bool (p' i)):=hA.p.up B2
 have HP2:Hid (iq w2 bP nP' fun i=>.bool (p' i)):=hB.p.up B2
 have c1:=gM k1
 have c2:=gM k2
 rw [hw2] at c1 c2
 clear hs hA hB
 unfold Cnt.cells
 dsimp only
 go_enter Tryz.func17,Tryz.ntmps17
 go_wp2_with fail
 rw [←hw2]
 clear hw2 c1 c2
 refine (ko aU bU nU' cU dU u' _ hs1 HU1.out HU2.out).mono ?_
 rintro e w3 ⟨rfl,hS⟩
 have c1:=gM ((congrArg (·[w.heap.size]?) hS.heap).trans k1)
 have c2:=gM ((congrArg (·[w.heap.size+1]?) hS.heap).trans k2)
 have b3:=hS.below w2.heap.size
 have B3:=B2.trans (b3.mono B2.size)
 have HP13:Hid (iq w3 aP nP' fun i=>.bool (p' i)):=HP1.out.up b3
 have HP23:Hid (iq w3 bP nP' fun i=>.bool (p' i)):=HP2.out.up b3
 clear hS k1 k2 b3 B2 HU1 HU2 HP1 HP2
 go_wp2_with fail
 refine (uf aP bP nP' cP dP p' _ hs2 HP13.out HP23.out).mono ?_
 rintro e w4 ⟨rfl,hS⟩
 have B4:=B3.trans ((hS.below w3.heap.size).mono B3.size)
 clear hS B3 HP13 HP23 c1 c2
 go_wp2_with fail
 go_ret
 exact ⟨rfl,B4⟩
theorem yr (a:Option Addr) (len cap:Nat) (w:World) (h:len≤maxLen) :
  Calls Tryz.prog 5 #[.slice a len cap] w fun e w'=>e=.returned (.bool (decide (1048576<(len:Int))))∧w'=w:=by
 have hm:(len:Int)≤9223372036854775807:=by unfold maxLen at h;omega
 go_enter Tryz.func5,Tryz.ntmps5
 go_wp2
 go_ret
 exact ⟨rfl,rfl⟩
end Go.Proofs.YthicmlolanifhaaGreat
