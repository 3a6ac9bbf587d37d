import Derived.Test.YtjippgbmmlcgoaaGreatDoorB36
namespace Go.Proofs.YtjippgbmmlcgoaaGreatDoor
set_option maxRecDepth 100000
set_option maxHeartbeats 9000000
open Go.RowKit
set_option linter.unusedVariables false
set_option linter.unusedSimpArgs false
variable {x:Ent} {i:Nat} {p:Prop} {S:Swg}
theorem H8 (h:p:=by
 refine ah (hK _ _) ?_
 clear hK K
 refine nh (by kernel_rfl) ?_ _
 replace hP:Put D2 D3 g6 ({ Y2 with N:=M }:Swg).cells 34:=hP.cast rfl
 have HE:Hid (iR (lq Y.N (Y.K j).inn (Y.K j).p (-(Y.K j).cl)) M∧SpS w S { Y2 with N:=M } b g6 D3∧kj D3 b { Y2 with N:=M } Y2.nL∧OG 36 5 D3 b (some ⟨g1,0,none⟩) (ts.length+1) c3 (tV (ts.length+1) fun k=>(fsF fs k).frame)):=⟨HD2.2.2.2.2.1,HD2.1.put hP,((HD2.2.1.box HD2.1.o hP.to ⟨by decide,by decide,by decide,by decide⟩ (HD2.2.1.k.qH HD2.1.o (by decide)) (HD2.2.1.l.qH HD2.1.o (by decide))).Gp (HD2.2.2.2.1.Gm HD2.1.o (by decide) (by decide) hP.to) (Nat.le_of_lt HD2.2.2.2.2.2)),HD2.2.2.1.iu hP.to (fun x hx hy=>HD2.2.2.1.lM (by decide) HD2.1.o (by simp at hy;rw [←hy];exact hx))⟩
 clear hP HD2 hT2 HU HY HE1 HE2 HA1
 go_wp2_with fail
 go_meet
 case rel=>exact ⟨M,HE⟩):p:=h
theorem gF (h:p:=by
 go_wp2_with fail
 go_loopw [5] (fun i wr=>∃ k:Nat,k≤n∧i=.int .i64 k∧Same w wr) (fun i _=>n-(intOf i).toNat)
 case atStart=>exact ⟨0,Nat.zero_le _,rfl,Same.refl _⟩
 obtain ⟨k,hk,rfl,hS⟩:=hrel
 by_cases hlt:k<n
 ·
  obtain ⟨g1,o1,rfl,e1⟩:=h1 k hlt
  obtain ⟨g2,o2,rfl,e2⟩:=h2 k hlt
  rw [←hS.cell] at e1 e2
  dsimp only at e1 e2
  have hbb:(f k != f k)=false:=by simp
  clear h1 h2
  have hlt':(k:Int)<n:=by omega
  go_wp2_with fail
  go_quiet (fail)
  go_wp2_with fail
  go_roundw
  case rel=>exact ⟨k+1,by omega,by go_num,hS.drewN _⟩
  case measure=>simp [intOf];omega
 obtain rfl:k=n:=by omega
 go_wp2_with fail
 go_ret
 exact ⟨rfl,hS⟩):p:=h
theorem gG (h:p:=by
 go_wp2_with fail
 go_meet
 case rel=>exact ⟨by rw [hid],_,HE⟩):p:=h
theorem gH (h:p:=by
 rw [HLL.1]
 unfold ku
 split
 ·
  simp
 have:=HZ.2.2.1
 simp;omega):p:=h
theorem gI (h:p:=by
 go_wp2_with fail
 go_meet
 case rel=>exact ⟨by rw [hd],rfl⟩):p:=h
theorem gJ (h:p:=by
 rw [if_pos (by omega)]
 omega):p:=h
theorem zX (S S':Swg) (fs:List Pkt) (i:Nat) (w:World) (hs:S.Small) (hr:lr w S) (hok:S.Ok) (hi:i<S.nL) (hm:rF S S' i fs) :
  Calls Tryz.prog 78 #[.agg S.cells,.int .i64 (i:Int)] w fun e w'=>∃ S2 a c,e=.returned (.tuple #[.agg S2.cells,.slice a fs.length c])∧iw S' S2∧kj w' w.heap.size S2 S2.nL∧OG 36 5 w' w.heap.size a fs.length c (tV fs.length fun i=>(fsF fs i).frame)∧Below w.heap.size w w':=by
 have HM:Hid (rF S S' i fs∧i<S.nL∧S.Ok):=⟨hm,hi,hok⟩
 have HR:=aa hr
 have HS:=aa hs
 obtain ⟨_,_,_,ht4,ht5⟩:=yK hok
 have hiU:i<S.N.nU:=by have:=hok.nl;have:=hok.n.nU;omega
 have hiP:i<S.N.nP:=by have:=hok.nl;have:=hok.n.nP;omega
 obtain ⟨W,eW⟩:∃ W,(w.alloc (.cells S.cells 34)).alloc (.cells ab 34)=W:=⟨_,rfl⟩
 have HX:Hid (Two w S.cells zSw 34 W):=by rw [←eW];exact Two.start _ _ _ _
 have HL:Hid (∀ j,j<17→W.cell? ⟨w.heap.size,0+j,none⟩=S.cells[j]?):=fun j _=>by rw [Nat.zero_add];exact ie HX.a j
 clear hs hr hok hm hi
 go_enter Tryz.func78,Tryz.ntmps78
 go_wp2_with (refine ir rfl 34 17 _ Tryz.underlying34 rfl iA (.tmp 2) rfl (w.heap.size) 0 rfl S.cells rfl HL.out ?_)
 clear eW HL
 refine (qJ S _ HS ht4 ht5 (HR.up HX.bel)).mono ?_
 rintro e w3 ⟨P,rfl,aP,oP,hbl⟩
 replace HX:Hid (Two w S.cells zSw 34 w3∧w.heap.size+1<W.heap.size∧W.heap.size≤w3.heap.size):=⟨HX.up hbl,ig HX.b,hbl.size⟩
 have HP:Hid (iw S P∧iG w3 W.heap.size P):=⟨aP,oP⟩
 clear aP oP hbl
 obtain ⟨b,eb⟩:∃ b,W.heap.size=b:=⟨_,rfl⟩
 rw [eb] at HX HP
 clear eb
 have HG:Hid ((w3.alloc (.cells ab 34)).heap[w3.heap.size]?=some (.cells ab 34 (0,0))):=im _ _
 go_wp2_with (refine iq rfl 34 (.tmp 6) (.tmp 19) rfl (w3.heap.size) 0 rfl (.agg P.cells) rfl 17 rfl 34 _ HG iA (Nat.le_of_ble_eq_true rfl) (Swg.lF _) ?_)
 intro X0 hP
 replace hP:Put _ X0 w3.heap.size P.cells 34:=hP.cast rfl
 have hbl:Below w3.heap.size w3 X0:=((Below.refl _ _).alloc (Nat.le_refl _) _).trans (hP.to.below (by simp) (fun x hx=>by simp at hx;omega))
 have hT:=HX.1.up hbl
 have HX0:Hid (SpS w S P b w3.heap.size X0∧iG X0 b P):=⟨⟨hT.a,hT.b,hP.blk,hT.bel,HX.2.1,HX.2.2⟩,HP.2.up hbl⟩
 have HPA:=aa HP.1
 clear hP HG hbl hT HX HP
 obtain ⟨g6,e6⟩:∃ g,w3.heap.size=g:=⟨_,rfl⟩
 rw [e6] at HX0 ⊢
 clear e6
 obtain ⟨X1,e1⟩:∃ V,X0.alloc (.cells #[] 36)=V:=⟨_,rfl⟩
 have HX1:Hid (SpS w S P b g6 X1∧iG X1 b P∧OG 36 5 X1 b (some ⟨X0.heap.size,0,none⟩) 0 0 []):=by
  rw [←e1]
  have hb:Below X0.heap.size X0 (X0.alloc (.cells #[] 36)):=(Below.refl _ _).alloc (Nat.le_refl _) _
  exact ⟨HX0.1.up hb,HX0.2.up hb,OG.new _ _ _ _ (Nat.le_of_lt HX0.1.size)⟩
 clear HX0
 have HLc:Hid (∀ j,j<7→X1.cell? ⟨w.heap.size,0+j,none⟩=S.C.cells[j]?):=fun j hj=>by
  rw [Nat.zero_add,ie HX1.1.a]
  have:j=0∨j=1∨j=2∨j=3∨j=4∨j=5∨j=6:=by omega
  rcases this with rfl | rfl | rfl | rfl | rfl | rfl | rfl <;> rfl
 have HLn:Hid (∀ j,j<3→X1.cell? ⟨w.heap.size,10+j,none⟩=S.N.cells[j]?):=fun j hj=>by
  rw [ie HX1.1.a]
  have:j=0∨j=1∨j=2:=by omega
  rcases this with rfl | rfl | rfl <;> rfl
 go_wp2_with (first | refine ir rfl 25 7 _ Tryz.underlying25 rfl BR (.tmp 22) rfl (w.heap.size) 0 rfl S.C.cells rfl HLc.out ?_ | refine ir rfl 30 3 _ Tryz.underlying30 rfl pB (.tmp 24) rfl (w.heap.size) 10 rfl S.N.cells rfl HLn.out ?_)
 clear HLc HLn e1
 refine (zY S.C S.N i _ hiU hiP HS.n (HR.n.up HX1.1.bel)).mono ?_
 rintro e w5 ⟨M,rfl,oM,hb5,aM⟩
 obtain ⟨fl,efl⟩:∃ f,flN S.C S.N i=f:=⟨_,rfl⟩
 rw [efl]
 have Hfl:=aa efl
 clear efl
 obtain ⟨gl,el⟩:∃ g,X0.heap.size=g:=⟨_,rfl⟩
 rw [el] at HX1 ⊢
 clear el
 have hz1:=HX1.1.size
 have HX5:Hid (SpS w S P b g6 w5∧iG w5 b { P with N:=M }∧OG 36 5 w5 b (some ⟨gl,0,none⟩) 0 0 []∧iR (nC S.C S.N i) M):=⟨HX1.1.up hb5,(HX1.2.1.up hb5).Gp HX1.2.1 oM (by omega),HX1.2.2.up hb5,aM⟩
 clear HX1 oM hb5 aM hz1 hiU hiP ht4 ht5
 have HG8:Hid ((w5.alloc (.cells ag 30)).heap[w5.heap.size]?=some (.cells ag 30 (0,0))):=im _ _
 go_wp2_with (refine iq rfl 30 (.tmp 8) (.tmp 28) rfl (w5.heap.size) 0 rfl (.agg M.cells) rfl 3 rfl 30 _ HG8 pB (Nat.le_of_ble_eq_true rfl) (Cnt.lF _) ?_)
 intro X2 hP
 replace hP:Put _ X2 w5.heap.size M.cells 30:=hP.cast rfl
 have hbl:Below w5.heap.size w5 X2:=((Below.refl _ _).alloc (Nat.le_refl _) _).trans (hP.to.below (by simp) (fun x hx=>by simp at hx;omega))
 have HX2:Hid (SpS w S P b g6 X2∧iG X2 b { P with N:=M }∧OG 36 5 X2 b (some ⟨gl,0,none⟩) 0 0 []∧iR (nC S.C S.N i) M∧X2.heap[w5.heap.size]?=some (.cells M.cells 30 (0,0))):=⟨HX5.1.up hbl,HX5.2.1.up hbl,HX5.2.2.1.up hbl,HX5.2.2.2,hP.blk⟩
 clear hP hbl HX5 HG8
 obtain ⟨g8,e8⟩:∃ g,w5.heap.size=g:=⟨_,rfl⟩
 rw [e8] at HX2 ⊢
 clear e8
 have HL8:Hid (∀ j,j<3→X2.cell? ⟨g8,0+j,none⟩=M.cells[j]?):=fun j _=>by rw [Nat.zero_add];exact ie HX2.2.2.2.2 j
 have HO6:=aa HX2.1.o
 go_wp2_with (first | refine ir rfl 30 3 _ Tryz.underlying30 rfl pB (.tmp 8) rfl g8 0 rfl M.cells rfl HL8.out ?_ | refine iq rfl 30 (.tmp 31) (.tmp 30) rfl g6 10 rfl (.agg M.cells) rfl 3 rfl 34 _ HO6 pB (Nat.le_of_ble_eq_true rfl) (Cnt.lF _) ?_)
 intro X3 hP
 replace hP:Put X2 X3 g6 ({ P with N:=M }:Swg).cells 34:=hP.cast rfl
 have hAX:iw (S.flip i) { P with N:=M }:=by
  have h:=HPA.out
  exact ⟨h.c,h.now,h.nx,h.nE,h.e,HX2.2.2.2.1,h.nK,h.k,h.nL,h.l,h.dr,h.lst⟩
 obtain ⟨X,eX⟩:∃ X:Swg,{ P with N:=M }=X:=⟨_,rfl⟩
 have eXN:X.N=M:=by rw [←eX]
 have HX3:Hid (SpS w S X b g6 X3∧iG X3 b X∧OG 36 5 X3 b (some ⟨gl,0,none⟩) 0 0 []):=by
  rw [←eX]
  exact ⟨HX2.1.put hP,HX2.2.1.off HX2.1.o hP.to,HX2.2.2.1.iu hP.to (fun x hx hy=>HX2.2.2.1.lM (by decide) HX2.1.o (by simp at hy;rw [←hy];exact hx))⟩
 have HN8:Hid (X3.heap[g8]?=some (.cells X.N.cells 30 (0,0))∧iR (nC S.C S.N i) X.N∧iw (S.flip i) X):=by
  rw [eXN,←eX]
  exact ⟨(hP.to.block g8 (ig HX2.2.2.2.2) (fun hy=>rY HX2.1.o HX2.2.2.2.2 (by decide) (by simpa using hy:g8=g6).symm)).trans HX2.2.2.2.2,HX2.2.2.2.1,hAX⟩
 clear hP HX2 HL8 HO6 hAX eX eXN
 go_upto_if 32 with fail
 go_cut [7,10] (fun s7 _ wc=>∃ a c,s7=.slice a (px S.C S.N i).length c∧Hid (SpS w S X b g6 wc∧iG wc b X∧OG 36 5 wc b a (px S.C S.N i).length c (tV (px S.C S.N i).length fun k=>(fsF (px S.C S.N i) k).frame)))
 case first =>
  cases fl
  ·
   have e1:px S.C S.N i=[]:=by unfold px;rw [Hfl.out];simp
   go_wp2_with fail
   go_meet
   case rel=>rw [e1];exact ⟨_,_,rfl,HX3.out⟩
  obtain ⟨pb,epb⟩:∃ b,jh S.C (S.N.u i) (S.N.p i)=b:=⟨_,rfl⟩
  have e1:px S.C S.N i=[GW pb]:=by unfold px;rw [if_pos Hfl.out,epb]
  have hpi:i<X.N.nP:=by
   rw [HN8.2.1.nP]
   show i<S.N.nP
   have:=HM.2.2.nl
   have:=HM.2.2.n.nP
   have:=HM.2.1
   omega
  have hpi':(i:Int)<(X.N.nP:Int):=by omega
  have hp0:(0:Int)≤(i:Int):=by omega
  have epv:X.N.p i=pb:=by
   rw [HN8.2.1.p]
   show (if i=i then jh S.C (S.N.u i) (S.N.p i) else S.N.p i)=pb
   rw [if_pos rfl,epb]
  obtain ⟨V,eV⟩:∃ V,X3.alloc (.cells #[.int .i64 3,.int .i64 0,.int .i64 0,.int .i64 2,.string ⟨#[]⟩] 36)=V:=⟨_,rfl⟩
  have HV:Hid (SpS w S X b g6 V∧iG V b X∧OG 36 5 V b (some ⟨gl,0,none⟩) 0 0 []∧V.heap[g8]?=some (.cells X.N.cells 30 (0,0))∧V.heap[X3.heap.size]?=some (.cells #[.int .i64 3,.int .i64 0,.int .i64 0,.int .i64 2,.string ⟨#[]⟩] 36 (0,0))∧gl<X3.heap.size∧g8<X3.heap.size):=by
   have hb:Below X3.heap.size X3 V:=by rw [←eV];exact (Below.refl _ _).alloc (Nat.le_refl _) _
   exact ⟨HX3.1.up hb,HX3.2.1.up hb,HX3.2.2.up hb,(hb.block _ (ig HN8.1)).trans HN8.1,by rw [←eV];exact im _ _,(HX3.2.2.blk gl (by simp [iI])).2,ig HN8.1⟩
  rcases HV.2.1.n.p with e | ⟨gp,eP,hbp,pa,p1,p2,p3⟩
  ·
   omega
  have c82:V.cell? ⟨g8,2,none⟩=some (.slice (some ⟨gp,0,none⟩) X.N.nP X.N.cP):=by rw [←eP];exact ie HV.2.2.2.1 2
  have cp:V.cell? ⟨gp,i,none⟩=some (.bool pb):=by rw [←epv];exact (ie p1 i).trans (p3 i hpi)
  have HX3s:=aa HX3.1.size
  clear p1 p2 p3 hbp eP epv epb Hfl HX3 HN8
  cases pb
  ·
   have HLf:Hid (∀ j,j<5→V.cell? ⟨X3.heap.size,0+j,none⟩=(#[.int .i64 3,.int .i64 0,.int .i64 0,.int .i64 2,.string ⟨#[]⟩]:Array Value)[j]?):=fun j _=>by rw [Nat.zero_add];exact ie HV.2.2.2.2.1 j
   obtain ⟨g1,c3,Y,hrun,hu,ht,hg⟩:=lH 83 36 _ 5 48 yi Tryz.underlying83 rfl (by decide) (by decide) HV.2.2.1 (by omega) (Nat.le_of_lt HV.1.size) (#[.int .i64 3,.int .i64 0,.int .i64 0,.int .i64 2,.string ⟨#[]⟩]) rfl (by simp [Value.oneCell'])
   have HY:Hid (SpS w S X b g6 Y∧iG Y b X∧OG 36 5 Y b (some ⟨g1,0,none⟩) (0+1) c3 ([]++[.int .i64 3,.int .i64 0,.int .i64 0,.int .i64 2,.string ⟨#[]⟩])):=⟨HV.1.ru HV.2.2.1 ht,HV.2.1.ru HV.2.2.1 ht,hu⟩
   clear hu ht hg
   go_wp2_with (first | refine jo 36 5 qM rfl (.tmp 10) (.tmp 33) rfl #[.int .i64 3,.int .i64 0,.int .i64 0,.int .i64 2,.string ⟨#[]⟩] _ rfl rfl rfl rfl rfl (by simp [Value.oneCell']) (eV▸?_) | refine ir rfl 36 5 _ Tryz.underlying36 rfl qM (.tmp 10) rfl X3.heap.size 0 rfl #[.int .i64 3,.int .i64 0,.int .i64 0,.int .i64 2,.string ⟨#[]⟩] rfl HLf.out ?_ | (at_builtin;refine Lib.wpList_append_run _ rfl _ _ _ _ rfl _ _ rfl rfl _ _ hrun ?_))
   go_meet
   case rel=>rw [e1];exact ⟨_,_,rfl,HY.out⟩
  have HLf:=aa HV.2.2.2.2.1
  go_wp2_with (first | refine jo 36 5 qM rfl (.tmp 10) (.tmp 33) rfl #[.int .i64 3,.int .i64 0,.int .i64 0,.int .i64 2,.string ⟨#[]⟩] _ rfl rfl rfl rfl rfl (by simp [Value.oneCell']) (eV▸?_) | refine iq rfl 2 (.tmp 39) (.const (.int .i64 2)) rfl X3.heap.size 0 rfl (.int .i64 2) rfl 1 rfl 36 _ HLf (by kernel_rfl) (Nat.le_of_ble_eq_true rfl) (by simp [Value.cells,Value.oneCell']) ?_)
  intro V2 hP
  replace hP:Put V V2 X3.heap.size #[.int .i64 2,.int .i64 0,.int .i64 0,.int .i64 2,.string ⟨#[]⟩] 36:=hP.cast rfl
  have HV2:Hid (SpS w S X b g6 V2∧iG V2 b X∧OG 36 5 V2 b (some ⟨gl,0,none⟩) 0 0 []∧∀ j,j<5→V2.cell? ⟨X3.heap.size,0+j,none⟩=(#[.int .i64 2,.int .i64 0,.int .i64 0,.int .i64 2,.string ⟨#[]⟩]:Array Value)[j]?):=by
   have hz:=HV.2.2.2.2.2.1
   refine ⟨HV.1.far HLf (by decide) (by have:=HX3s.out;omega) hP.to,HV.2.1.FU HLf hP.to,HV.2.2.1.iu hP.to (fun x hx hy=>by simp [iI] at hx hy;omega),fun j _=>by rw [Nat.zero_add];exact ie hP.blk j⟩
  clear hP HV c82 cp HLf
  obtain ⟨g1,c3,Y,hrun,hu,ht,hg⟩:=lH 83 36 _ 5 48 yi Tryz.underlying83 rfl (by decide) (by decide) HV2.2.2.1 (by omega) (Nat.le_of_lt HV2.1.size) (#[.int .i64 2,.int .i64 0,.int .i64 0,.int .i64 2,.string ⟨#[]⟩]) rfl (by simp [Value.oneCell'])
  have HY:Hid (SpS w S X b g6 Y∧iG Y b X∧OG 36 5 Y b (some ⟨g1,0,none⟩) (0+1) c3 ([]++[.int .i64 2,.int .i64 0,.int .i64 0,.int .i64 2,.string ⟨#[]⟩])):=⟨HV2.1.ru HV2.2.2.1 ht,HV2.2.1.ru HV2.2.2.1 ht,hu⟩
  clear hu ht hg
  go_wp2_with (first | refine ir rfl 36 5 _ Tryz.underlying36 rfl qM (.tmp 10) rfl X3.heap.size 0 rfl #[.int .i64 2,.int .i64 0,.int .i64 0,.int .i64 2,.string ⟨#[]⟩] rfl HV2.2.2.2 ?_ | (at_builtin;refine Lib.wpList_append_run _ rfl _ _ _ _ rfl _ _ rfl rfl _ _ hrun ?_))
  go_meet
  case rel=>rw [e1];exact ⟨_,_,rfl,HY.out⟩
 case rest =>
  obtain ⟨a,c,e7,HA⟩:=hcut
  subst e7
  obtain ⟨gs,hn,efs⟩:=HM.1.next
  obtain ⟨X',hnX,hAX'⟩:=hn.vN HM.2.1 HN8.2.2
  obtain ⟨l',id,ht,hcase⟩:=hnX
  have hiX:i<X.nL:=by rw [HN8.2.2.nL];exact HM.2.1
  have HI:Hid (i<X.nL∧X.Ok∧X.Small):=⟨hiX,HN8.2.2.ok1 (HM.2.2.flip i),HN8.2.2.small ⟨HS.e,⟨HS.n.u,HS.n.p⟩,HS.k,HS.b,HS.l,HS.ls⟩⟩
  have HC:Hid (fs=px S.C S.N i++gs∧iw S' X'∧sX (X.L i) l' id∧((id=0∧X'=X.lane i l'∧gs=[])∨(id≠0∧∃ j,j<X.nK∧(X.K j).id=id∧gs=[X.K j]∧(((X.K j).refs≠1∧X'={ X.lane i l' with K:=lf X.K j })∨((X.K j).refs=1∧X'={ X.lane i l' with nK:=X.nK-1,K:=rmK X.K j,N:=lq X.N (X.K j).inn (X.K j).p (-(X.K j).cl) }))))):=⟨efs,hAX',ht,hcase⟩
  obtain ⟨ts,ets⟩:∃ l,px S.C S.N i=l:=⟨_,rfl⟩
  rw [ets] at HA HC ⊢
  obtain ⟨gL,curL,eL,hbL,kL,hszL,hcL⟩:=HA.2.1.Bt hiX
  have HLL:Hid (X.aL=some ⟨gL,0,none⟩∧b≤gL∧gL<wc.heap.size):=⟨eL,hbL,ig kL⟩
  have c14:wc.cell? ⟨g6,14,none⟩=some (.slice (some ⟨gL,0,none⟩) X.nL X.cL):=by rw [←eL];exact ie HA.1.o 14
  have HLl:Hid (∀ q,q<8→wc.cell? ⟨gL,i*8+q,none⟩=(X.L i).cells[q]?):=fun q hq=>(ie kL _).trans (hcL i hiX q hq)
  have hi1:(i:Int)<(X.nL:Int):=by omega
  have hi0:(0:Int)≤(i:Int):=by omega
  obtain ⟨V,eV⟩:∃ V,wc.alloc (.cells (X.L i).cells 47)=V:=⟨_,rfl⟩
  have hbV:Below wc.heap.size wc V:=by rw [←eV];exact (Below.refl _ _).alloc (Nat.le_refl _) _
  have HV:Hid (SpS w S X b g6 V∧iG V b X∧OG 36 5 V b a ts.length c (tV ts.length fun k=>(fsF ts k).frame)∧V.heap[wc.heap.size]?=some (.cells (X.L i).cells 47 (0,0))∧b≤wc.heap.size):=⟨HA.1.up hbV,HA.2.1.up hbV,HA.2.2.up hbV,by rw [←eV];exact im _ _,Nat.le_of_lt HA.1.size⟩
  have HXC:=aa HN8.2.2.c
  clear eL hbL kL hszL hcL hn efs hAX' ht hcase ets hbV HA HX3 HN8 hiX
  go_upto_region 12 with (first | refine ir rfl 47 8 _ Tryz.underlying47 rfl vr (.tmp 47) rfl gL (i*8) (by simp [Act.eval]) (X.L i).cells rfl HLl.out ?_ | refine jo 47 8 vr rfl (.tmp 11) (.tmp 48) rfl (X.L i).cells _ rfl rfl rfl rfl rfl (Lng.lF _) (eV▸?_))
  obtain ⟨g11,e11⟩:∃ g,wc.heap.size=g:=⟨_,rfl⟩
  rw [e11] at HV HLL ⊢
  clear e11 eV c14 HLl
  obtain ⟨l,el⟩:∃ l,X.L i=l:=⟨_,rfl⟩
  have Hel:=aa el
  rw [el] at HV HC
  clear el
  go_cut [57] (fun v wx=>v=.bool (decide (0<l.nT∧l.st=false))∧V=wx)
  case first =>
   have c0:V.cell? ⟨g11,0,none⟩=some (.bool l.st):=ie HV.2.2.2.1 0
   have c1:V.cell? ⟨g11,1,none⟩=some (.slice l.aT l.nT l.cT):=ie HV.2.2.2.1 1
   by_cases h1:0<l.nT
   ·
    have h1':(0:Int)<(l.nT:Int):=by omega
    cases hst:l.st
    ·
     rw [hst] at c0
     have hd:decide (0<l.nT∧l.st=false)=true:=by simp [h1,hst]
     exact gI
    rw [hst] at c0
    have hd:decide (0<l.nT∧l.st=false)=false:=by simp [hst]
    exact gI
   have h0:l.nT=0:=by omega
   rw [h0] at c1
   have hd:decide (0<l.nT∧l.st=false)=false:=by simp [h0]
   exact gI
  case rest =>
   obtain ⟨e57,rfl⟩:=hcut
   subst e57
   go_upto_if 57 with fail
   go_cut [12,13,14,15] (fun s12 _ _ _ wd=>s12=.int .i64 id∧∃ l2,Hid (SpS w S X b g6 wd∧kj wd b X i∧OG 36 5 wd b a ts.length c (tV ts.length fun k=>(fsF ts k).frame)∧wd.heap[g11]?=some (.cells l2.cells 47 (0,0))∧iO l' l2∧TyL wd b l2))
   case first =>
    have hOl:iK V b l:=by rw [←Hel.out];exact HV.2.1.l.ls i HI.1
    have hsl:l.Small:=by rw [←Hel.out];exact HI.2.2.ls i HI.1
    have hlk:nN X.nK X.K l:=by rw [←Hel.out];exact HI.2.1.l i HI.1
    have HO:Hid (iK V b l∧l.Small∧nN X.nK X.K l):=⟨hOl,hsl,hlk⟩
    have c1:V.cell? ⟨g11,1,none⟩=some (.slice l.aT l.nT l.cT):=ie HV.2.2.2.1 1
    have hzV:b<V.heap.size:=HV.1.size
    have h11:g11<V.heap.size:=ig HV.2.2.2.1
    have HZ:Hid (b<V.heap.size∧g11<V.heap.size∧gL<g11∧b≤g11):=⟨hzV,h11,HLL.2.2,HV.2.2.2.2⟩
    clear hOl hsl hlk hzV h11
    rcases HC.2.2.1 with ⟨h1,h2,hid,hl'⟩ | ⟨hno,M',x,s,hp,hh⟩
    ·
     --[W1
     have hd:decide (0<l.nT∧l.st=false)=true:=by simp [h1,h2]
     rw [hd]
     obtain ⟨gt,eT,ct0⟩:=HO.1.t.some (by omega)
     have hOT:OI V b (some ⟨gt,0,none⟩) l.nT l.cT l.t:=by rw [←eT];exact HO.1.t
     obtain ⟨a',c',W',hrun,oT,hbW⟩:=Cy hOT (by omega) HO.2.1.t
     rw [eT] at c1
     have h1':(0:Int)<(l.nT:Int):=by omega
     have hrc:∀ wx,(Instr.slice 27 (.slice (some ⟨gt,0,none⟩) l.nT l.cT) (some (.int .i64 1)) none none).run Tryz.prog wx=.ok (.slice (some ⟨gt,zO 0 l.cT,none⟩) (l.nT-1) (l.cT-1)) wx:=fun wx=>yN gt 0 _ l.nT l.cT wx (by omega) rfl
     obtain ⟨Va,eVa⟩:∃ Va,V.alloc (.cells #[] 2)=Va:=⟨_,rfl⟩
     have c1a:Va.cell? ⟨g11,1,none⟩=some (.slice (some ⟨gt,0,none⟩) l.nT l.cT):=by
      rw [←eVa,ie ((iH _ HZ.2.1).trans HV.2.2.2.1) 1,←eT];rfl
     rw [eVa] at hrun
     have k11:W'.heap[g11]?=some (.cells l.cells 47 (0,0)):=(hbW.block _ HZ.2.1).trans HV.2.2.2.1
     have HK:Hid (W'.heap[g11]?=some (.cells l.cells 47 (0,0))∧SpS w S X b g6 W'∧kj W' b X i∧OG 36 5 W' b a ts.length c (tV ts.length fun k=>(fsF ts k).frame)∧TyL W' b { l with aT:=a',nT:=l.nT-1,cT:=c',t:=fun k=>l.t (k+1) }):=⟨k11,HV.1.up hbW,(HV.2.1.half i).up hbW,HV.2.2.1.up hbW,(HO.1.g.ty.up hbW).E7 (OG.mono (t:=2) (sz:=1) oT (Nat.le_of_lt HZ.1))⟩
     clear hbW oT k11 hOT eT hd
     go_wp2_with (first | (at_builtin;refine Lib.wpList_append_run _ rfl _ _ _ _ rfl _ _ rfl rfl _ _ hrun ?_) | refine iq rfl 27 (.tmp 67) (.tmp 66) rfl g11 1 rfl (.slice a' (l.nT-1) c') rfl 1 rfl 47 _ HK.1 BU (Nat.le_of_ble_eq_true rfl) (by simp [Value.cells,Value.oneCell']) ?_)
     intro W2 hP
     replace hP:Put W' W2 g11 ({ l with aT:=a',nT:=l.nT-1,cT:=c',t:=fun k=>l.t (k+1) }:Lng).cells 47:=hP.cast rfl
     have HE:Hid (SpS w S X b g6 W2∧kj W2 b X i∧OG 36 5 W2 b a ts.length c (tV ts.length fun k=>(fsF ts k).frame)∧W2.heap[g11]?=some (.cells ({ l with aT:=a',nT:=l.nT-1,cT:=c',t:=fun k=>l.t (k+1) }:Lng).cells 47 (0,0))∧iO l' { l with aT:=a',nT:=l.nT-1,cT:=c',t:=fun k=>l.t (k+1) }∧TyL W2 b { l with aT:=a',nT:=l.nT-1,cT:=c',t:=fun k=>l.t (k+1) }):=by
      refine ⟨HK.2.1.far HK.1 (by decide) HZ.2.2.2 hP.to,HK.2.2.1.box HK.1 hP.to ⟨by decide,by decide,by decide,by decide⟩ (HK.2.2.1.k.qH HK.1 (by decide)) ?_,HK.2.2.2.1.iu hP.to (fun x hx hy=>HK.2.2.2.1.lM (by decide) HK.1 (by simp at hy;rw [←hy];exact hx)),hP.blk,?_,HK.2.2.2.2.far hP.to (fun x hx=>(List.mem_singleton.1 hx)▸⟨_,_,HK.1,by decide,by decide⟩)⟩
      · exact gH
      rw [hl']
      exact ⟨rfl,rfl,rfl,rfl,rfl,rfl,Alike.refl _⟩
     clear hP HK
     exact gG
    ·
     have hd:decide (0<l.nT∧l.st=false)=false:=by simp only [decide_eq_false_iff_not];exact hno
     rw [hd]
     have HLr:=aa (rdR HV.2.2.2.1)
     have HPk:=aa hp
     have HHh:=aa hh
     clear hd hp hh c1 hno
     go_wp2_with (refine ir rfl 45 5 _ Tryz.underlying45 rfl vo (.tmp 69) rfl g11 3 rfl l.R.cells rfl HLr.out ?_)
     refine (vk l.R M' x s _ HO.2.1.r HO.1.g.rd.r HO.2.2.r HPk).mono ?_
     rintro e w7 ⟨R2,rfl,oR,hb7,aR⟩
     have z7:=hb7.size
     have HW7:Hid (SpS w S X b g6 w7∧iG w7 b X∧OG 36 5 w7 b a ts.length c (tV ts.length fun k=>(fsF ts k).frame)∧w7.heap[g11]?=some (.cells l.cells 47 (0,0))∧jy w7 V.heap.size R2∧Alike M' R2∧iK w7 b l∧g11<w7.heap.size):=⟨HV.1.up hb7,HV.2.1.up hb7,HV.2.2.1.up hb7,(hb7.block _ HZ.2.1).trans HV.2.2.2.1,oR,aR,HO.1.up hb7,by have:=HZ.2.1;omega⟩
     clear oR aR hb7 z7 HLr
     have HG13:Hid ((w7.alloc (.cells ae 45)).heap[w7.heap.size]?=some (.cells ae 45 (0,0))):=im _ _
     go_wp2_with (refine iq rfl 45 (.tmp 13) (.tmp 72) rfl (w7.heap.size) 0 rfl (.agg R2.cells) rfl 5 rfl 45 _ HG13 vo (Nat.le_of_ble_eq_true rfl) (by simp [Value.cells,Rnd.cells,Value.oneCell']) ?_)
     intro Y0 hP
     replace hP:Put _ Y0 w7.heap.size R2.cells 45:=hP.cast rfl
     have hbl:Below w7.heap.size w7 Y0:=((Below.refl _ _).alloc (Nat.le_refl _) _).trans (hP.to.below (by simp) (fun x hx=>by simp at hx;omega))
     have HY0:Hid (SpS w S X b g6 Y0∧iG Y0 b X∧OG 36 5 Y0 b a ts.length c (tV ts.length fun k=>(fsF ts k).frame)∧Y0.heap[g11]?=some (.cells l.cells 47 (0,0))∧jy Y0 V.heap.size R2∧Alike M' R2∧iK Y0 b l):=⟨HW7.1.up hbl,HW7.2.1.up hbl,HW7.2.2.1.up hbl,(hbl.block _ HW7.2.2.2.2.2.2.2).trans HW7.2.2.2.1,HW7.2.2.2.2.1.up hbl,HW7.2.2.2.2.2.1,HW7.2.2.2.2.2.2.1.up hbl⟩
     have HL13:Hid (∀ j,j<5→Y0.cell? ⟨w7.heap.size,0+j,none⟩=R2.cells[j]?):=fun j _=>by rw [Nat.zero_add];exact ie hP.blk j
     have H11:=aa HY0.2.2.2.1
     clear hP hbl HW7 HG13
     go_wp2_with (first | refine ir rfl 45 5 _ Tryz.underlying45 rfl vo (.tmp 13) rfl (w7.heap.size) 0 rfl R2.cells rfl HL13.out ?_ | refine iq rfl 45 (.tmp 76) (.tmp 75) rfl g11 3 rfl (.agg R2.cells) rfl 5 rfl 47 _ H11 vo (Nat.le_of_ble_eq_true rfl) (by simp [Value.cells,Rnd.cells,Value.oneCell']) ?_)
     intro Y1 hP
     replace hP:Put Y0 Y1 g11 ({ l with R:=R2 }:Lng).cells 47:=hP.cast rfl
     have hL11:g11∉ku X.aL (X.nL*8):=gH
     have HY1:Hid (SpS w S X b g6 Y1∧kj Y1 b X i∧OG 36 5 Y1 b a ts.length c (tV ts.length fun k=>(fsF ts k).frame)∧Y1.heap[g11]?=some (.cells ({ l with R:=R2 }:Lng).cells 47 (0,0))∧Alike M' R2∧TyL Y1 b { l with R:=R2 }∧iK Y1 b l∧jy Y1 V.heap.size R2):=by
      have hk:=HY0.2.1.half i
      have hoff:DX [g11] Y0:=fun x hx=>(List.mem_singleton.1 hx)▸⟨_,_,H11.out,by decide,by decide⟩
      refine ⟨HY0.1.far H11 (by decide) HZ.2.2.2 hP.to,hk.box H11 hP.to ⟨by decide,by decide,by decide,by decide⟩ (hk.k.qH H11 (by decide)) hL11,HY0.2.2.1.iu hP.to (fun x hx hy=>HY0.2.2.1.lM (by decide) H11 (by simp at hy;rw [←hy];exact hx)),hP.blk,HY0.2.2.2.2.2.1,(HY0.2.2.2.2.2.2.g.ty.ub HY0.2.2.2.2.1 (Nat.le_of_lt HZ.1)).far hP.to hoff,HY0.2.2.2.2.2.2.box H11 (by decide) (by decide) hP.to,HY0.2.2.2.2.1.Gn hoff hP.to⟩
     clear hP HL13 H11 HY0
     rcases HHh.out with ⟨hx,hid,hl'⟩ | ⟨cl,hx,hid,hl'⟩
     ·
      --[W2
      subst hx
      have HE:Hid (SpS w S X b g6 Y1∧kj Y1 b X i∧OG 36 5 Y1 b a ts.length c (tV ts.length fun k=>(fsF ts k).frame)∧Y1.heap[g11]?=some (.cells ({ l with R:=R2 }:Lng).cells 47 (0,0))∧iO l' { l with R:=R2 }∧TyL Y1 b { l with R:=R2 }):=⟨HY1.1,HY1.2.1,HY1.2.2.1,HY1.2.2.2.1,by rw [hl'];exact ⟨rfl,rfl,rfl,rfl,rfl,rfl,HY1.2.2.2.2.1⟩,HY1.2.2.2.2.2.1⟩
      clear HY1
      exact gG
     ·
      --[W3
      subst hx
      obtain ⟨hcl,hL0⟩:=xY HO.2.2 HPk.out
      have hnU:=HO.2.2.u
      have hOG:OG 27 1 Y1 b l.aU l.nU l.cU (rB l.nU l.uA l.uL l.uC):=HY1.2.2.2.2.2.2.1.u
      obtain ⟨gu,curU,eU,kU,szU,ccU⟩:=hOG.at0 (by omega)
      have hcU:∀ k,k<l.nU→curU[k]?=some (.slice (l.uA k) (l.uL k) (l.uC k)):=fun k hk=>(ccU k (by omega)).trans (oL _ _ _ _ k hk)
      obtain ⟨gz,eZ,cz⟩:=(HY1.2.2.2.2.2.2.1.z cl (by omega)).some hL0
      have hOZ:OI Y1 b (some ⟨gz,0,none⟩) (l.uL cl) (l.uC cl) (l.uz cl):=by rw [←eZ];exact HY1.2.2.2.2.2.2.1.z cl (by omega)
      have hbgu:b≤gu∧gu<V.heap.size:=by
       have:=OG.blk HO.1.u gu (by rw [eU];simp [iI])
       exact this
      have c2x:∀ wx:World,(wx.heap[g11]?=some (.cells ({ l with R:=R2 }:Lng).cells 47 (0,0))∧wx.heap[gu]?=some (.cells curU 27 (0,0)))→wx.cell? ⟨g11,2,none⟩=some (.slice (some ⟨gu,0,none⟩) l.nU l.cU):=fun wx h=>by rw [←eU];exact ie h.1 2
      have cux:∀ wx:World,(wx.heap[g11]?=some (.cells ({ l with R:=R2 }:Lng).cells 47 (0,0))∧wx.heap[gu]?=some (.cells curU 27 (0,0)))→wx.cell? ⟨gu,cl,none⟩=some (.slice (some ⟨gz,0,none⟩) (l.uL cl) (l.uC cl)):=fun wx h=>by rw [ie h.2,hcU cl (by omega),eZ]
      have c2:=c2x Y1 ⟨HY1.2.2.2.1,kU⟩
      have cu:=cux Y1 ⟨HY1.2.2.2.1,kU⟩
      have i1:(cl:Int)<(l.nU:Int):=by omega
      have i0:(0:Int)≤(cl:Int):=by omega
      have i2:(0:Int)<(l.uL cl:Int):=by omega
      have HC2:=aa c2x
      have HCU:=aa cux
      have HQ:Hid (cl<2∧l.uL cl≠0∧l.nU=2∧Y1.heap[gu]?=some (.cells curU 27 (0,0))∧l.nU*1≤curU.size∧(∀ k,k<l.nU→curU[k]?=some (.slice (l.uA k) (l.uL k) (l.uC k)))∧OI Y1 b (some ⟨gz,0,none⟩) (l.uL cl) (l.uC cl) (l.uz cl)∧b≤gu∧gu<V.heap.size∧l.aU=some ⟨gu,0,none⟩):=⟨hcl,hL0,hnU,kU,szU,hcU,hOZ,hbgu.1,hbgu.2,eU⟩
      have hrc:∀ wx,(Instr.slice 27 (.slice (some ⟨gz,0,none⟩) (l.uL cl) (l.uC cl)) (some (.int .i64 1)) none none).run Tryz.prog wx=.ok (.slice (some ⟨gz,zO 0 (l.uC cl),none⟩) (l.uL cl-1) (l.uC cl-1)) wx:=fun wx=>yN gz 0 _ (l.uL cl) (l.uC cl) wx hL0 rfl
      clear hcl hL0 hnU hOG kU szU ccU hcU hOZ hbgu eU eZ c2x cux
      go_wp2_with fail
      clear c2 cu cz
      refine jc (fun wx=>wx.heap[g11]?=some (.cells ({ l with R:=R2 }:Lng).cells 47 (0,0))∧wx.heap[gu]?=some (.cells curU 27 (0,0))) 12 (by kernel_rfl) ?_
      have hd:Below Y1.heap.size Y1 Y1.drew:=(Below.refl _ _).drew
      have HD:Hid (SpS w S X b g6 Y1.drew∧kj Y1.drew b X i∧OG 36 5 Y1.drew b a ts.length c (tV ts.length fun k=>(fsF ts k).frame)∧Y1.drew.heap[g11]?=some (.cells ({ l with R:=R2 }:Lng).cells 47 (0,0))∧TyL Y1.drew b { l with R:=R2 }∧Y1.drew.heap[gu]?=some (.cells curU 27 (0,0))∧OI Y1.drew b (some ⟨gz,0,none⟩) (l.uL cl) (l.uC cl) (l.uz cl)∧jy Y1.drew V.heap.size R2):=⟨HY1.1.up hd,HY1.2.1.up hd,HY1.2.2.1.up hd,(hd.block _ (ig HY1.2.2.2.1)).trans HY1.2.2.2.1,HY1.2.2.2.2.2.1.up hd,(hd.block _ (ig HQ.2.2.2.1)).trans HQ.2.2.2.1,HQ.2.2.2.2.2.2.1.up hd,HY1.2.2.2.2.2.2.2.up hd⟩
      have HAl:=aa HY1.2.2.2.2.1
      clear hd HY1
      generalize Y1.drew=D at *
      have hT0:D.heap[g11]?=some (.cells ({ l with R:=R2 }:Lng).cells 47 (0,0))∧D.heap[gu]?=some (.cells curU 27 (0,0)):=⟨HD.2.2.2.1,HD.2.2.2.2.2.1⟩
      refine tE 0 86 hT0 ?_
      refine kE (i:=1) (some 87) (v:=?_) ?_ hT0 ?_
      rotate_left
      ·
       intro wx hSw
       have c2:=HC2 wx hSw
       exact dH
      try simp only [Act.put,PZ]
      refine tE 2 88 hT0 ?_
      refine tE 4 90 hT0 ?_
      refine kE (i:=5) (some 91) (v:=?_) ?_ hT0 ?_
      rotate_left
      ·
       intro wx hSw
       have c2:=HC2 wx hSw
       exact dH
      try simp only [Act.put,PZ]
      refine tE 6 92 hT0 ?_
      refine tE 7 93 hT0 ?_
      refine kE (i:=8) (some 94) (v:=?_) ?_ hT0 ?_
      rotate_left
      ·
       intro wx hSw
       have cu:=HCU wx hSw
       exact dH
      try simp only [Act.put,PZ]
      refine kE (i:=9) (some 95) (v:=.slice (some ⟨gz,zO 0 (l.uC cl),none⟩) (l.uL cl-1) (l.uC cl-1)) ?_ hT0 ?_
      ·
       intro wx hSw
       have hr1:=hrc wx
       exact dH
      try simp only [Act.put,PZ]
      refine il (rs:=[3]) (by kernel_rfl) (by simp) ?_
      refine ij.cons rfl (fun K hK=>?_) ij.nil
      obtain ⟨a',c',W',hrun,oZ,hbW⟩:=Cy HD.2.2.2.2.2.2.1 HQ.2.1 (HO.2.1.z cl (by have:=HQ.1;have:=HQ.2.2.1;omega))
      obtain ⟨Da,eDa⟩:∃ X,D.alloc (.cells #[] 2)=X:=⟨_,rfl⟩
      have hbD:Below D.heap.size D Da:=by rw [←eDa];exact (Below.refl _ _).alloc (Nat.le_refl _) _
      rw [eDa] at hrun
      go_simp
      clear eDa
      have hT1:Da.heap[g11]?=some (.cells ({ l with R:=R2 }:Lng).cells 47 (0,0))∧Da.heap[gu]?=some (.cells curU 27 (0,0)):=⟨(hbD.block _ (ig hT0.1)).trans hT0.1,(hbD.block _ (ig hT0.2)).trans hT0.2⟩
      refine hK _ _ hT1 ?_
      clear hK K
      try simp only [Act.put,PZ]
      refine il (rs:=[10]) (by kernel_rfl) (by simp) ?_
      refine ij.cons rfl (fun K hK=>?_) ij.nil
      refine kg (by kernel_rfl) (some 96) rfl (.tmp 89) (.tmp 95) 27 _ _ _ rfl rfl rfl rfl hrun ?_
      have hT2:W'.heap[g11]?=some (.cells ({ l with R:=R2 }:Lng).cells 47 (0,0))∧W'.heap[gu]?=some (.cells curU 27 (0,0)):=⟨(hbW.block _ (ig hT0.1)).trans hT0.1,(hbW.block _ (ig hT0.2)).trans hT0.2⟩
      refine hK _ _ hT2 ?_
      clear hK K hrun
      try simp only [Act.put,PZ]
      refine tE 11 97 hT2 ?_
      refine il (rs:=[12]) (by kernel_rfl) (by simp) ?_
      refine ij.last rfl (fun K hK=>?_)
      refine jn (by kernel_rfl) none rfl 27 (.tmp 97) (.tmp 96) rfl gu cl (by simp [Act.eval]) (.slice a' (l.uL cl-1) c') rfl 1 rfl 27 curU hT2.2 BU (by have:=HQ.2.2.2.2.1;have:=HQ.1;have:=HQ.2.2.1;omega) (by simp [Value.cells,Value.oneCell']) ?_
      intro Xz hP
      refine ah (hK _ _) ?_
      clear hK K
      refine iQ (by kernel_rfl) ?_ _
      replace hP:Put W' Xz gu (lay curU cl #[.slice a' (l.uL cl-1) c']) 27:=hP
      have hzW:=hbW.size
      have hzD:=HD.1.size
      have hguS:gu∉ku R2.aS R2.nS:=fun hx=>by
       have h1:=(HD.2.2.2.2.2.2.2.s.g.blk gu hx).1
       have h2:=HQ.2.2.2.2.2.2.2.2.1
       omega
      have hgL:∀ k,k<X.nL→k≠i→gu∉ku (X.L k).aU (X.L k).nU∧gu∉ku (X.L k).R.aS (X.L k).R.nS:=HV.2.1.oK HI.1 (by rw [Hel.out,HQ.2.2.2.2.2.2.2.2.2];simp [iI])
      have HE:Hid (SpS w S X b g6 Xz∧kj Xz b X i∧OG 36 5 Xz b a ts.length c (tV ts.length fun k=>(fsF ts k).frame)∧Xz.heap[g11]?=some (.cells (l.Fp cl a' c' R2).cells 47 (0,0))∧iO l' (l.Fp cl a' c' R2)∧TyL Xz b (l.Fp cl a' c' R2)):=by
       refine ⟨(HD.1.up hbW).far hT2.2 (by decide) HQ.2.2.2.2.2.2.2.1 hP.to,(HD.2.1.up hbW).EX hT2.2 hP.to hgL,(HD.2.2.1.up hbW).iu hP.to (fun x hx hy=>(HD.2.2.1.up hbW).lM (by decide) hT2.2 (by simp at hy;rw [←hy];exact hx)),(hP.to.block _ (ig hT2.1) (fun hy=>rY hT2.1 hT2.2 (by decide) (by simpa using hy))).trans hT2.1,?_,(HD.2.2.2.2.1.up hbW).Fp HQ.2.2.2.2.2.2.2.2.2 hT2.2 (by have:=HQ.2.2.2.2.1;omega) (by have:=HQ.1;have:=HQ.2.2.1;omega) hP (OG.mono (t:=2) (sz:=1) oZ (Nat.le_of_lt hzD)) hguS HQ.2.2.2.2.2.1 HQ.2.2.2.2.2.2.2.1⟩
       rw [hl']
       exact ⟨rfl,rfl,rfl,rfl,rfl,rfl,HAl⟩
      clear hP HD oZ hbW hbD hT0 hT1 hT2 hguS hgL hzW hzD
      exact gG
   case rest =>
    obtain ⟨e12,l2,HB⟩:=hcut
    subst e12
    have hnn:0<X.nL*8:=by have:=HI.1;omega
    obtain ⟨gL',curL',eL',hbL',kL',szL',_⟩:=HB.2.1.l.at0 hnn
    have hgg:gL'=gL:=by have:=HLL.1;rw [eL'] at this;simpa using this
    subst hgg
    have c14:wc.cell? ⟨g6,14,none⟩=some (.slice (some ⟨gL',0,none⟩) X.nL X.cL):=by rw [←eL'];exact ie HB.1.o 14
    have HL11:Hid (∀ q,q<8→wc.cell? ⟨g11,0+q,none⟩=l2.cells[q]?):=fun q _=>by rw [Nat.zero_add];exact ie HB.2.2.2.1 q
    have HKL:Hid (wc.heap[gL']?=some (.cells curL' 47 (0,0))∧X.nL*8≤curL'.size):=⟨kL',szL'⟩
    clear eL' hbL' kL' szL' hnn
    go_wp2_with (first | refine ir rfl 47 8 _ Tryz.underlying47 rfl vr (.tmp 11) rfl g11 0 rfl l2.cells rfl HL11.out ?_ | refine iq rfl 47 (.tmp 102) (.tmp 101) rfl gL' (i*8) (by simp [Act.eval]) (.agg l2.cells) rfl 8 rfl 47 _ HKL.1 vr (by have:=HKL.2;have:=HI.1;omega) (Lng.lF _) ?_)
    intro Z1 hP
    replace hP:Put wc Z1 gL' (lay curL' (i*8) l2.cells) 47:=hP
    have HZ1:Hid (SpS w S (X.lane i l2) b g6 Z1∧kj Z1 b (X.lane i l2) X.nL∧OG 36 5 Z1 b a ts.length c (tV ts.length fun k=>(fsF ts k).frame)∧iO l' l2):=by
     have h1:=HB.1.far HKL.1 (by decide) HLL.2.1 hP.to
     exact ⟨⟨h1.a,h1.z,h1.o,h1.bel,h1.lo,h1.hi⟩,HB.2.1.EE HI.1 HLL.1 HKL.1 hP HB.2.2.2.2.2,HB.2.2.1.iu hP.to (fun x hx hy=>HB.2.2.1.lM (by decide) HKL.1 (by simp at hy;rw [←hy];exact hx)),HB.2.2.2.2.1⟩
    have hSY:=spY (l2:=l2) HI.2.1 HI.2.2 HV.2.1.k.cap HXC HZ1.2.2.2 HC.1 HC.2.1 HC.2.2.2
    obtain ⟨Y,eY⟩:∃ Y,X.lane i l2=Y:=⟨_,rfl⟩
    rw [eY] at hSY HZ1
    have HY:=aa hSY
    have HW1:Hid (SpS w S Y b g6 Z1∧kj Z1 b Y Y.nL∧OG 36 5 Z1 b a ts.length c (tV ts.length fun k=>(fsF ts k).frame)):=⟨HZ1.1,by
     have h:=HZ1.2.1
     rw [show X.nL=Y.nL by rw [←eY];rfl] at h
     exact h,HZ1.2.2.1⟩
    clear hP HB HKL HL11 c14 HC HV HLL hSY eY HZ1 HI HXC hi1 hi0 Hel
    rcases HY.ax with ⟨hid,hA1,hfs⟩ | ⟨hid,j,hj,hjid,hfs,hrr⟩
    ·
     --[W4
     subst hid
     have HEQ:Hid (iw S' Y∧fs=ts):=⟨hA1,hfs⟩
     clear hA1 hfs
     have HL6:Hid (∀ q,q<17→Z1.cell? ⟨g6,0+q,none⟩=Y.cells[q]?):=fun q _=>by rw [Nat.zero_add];exact ie HW1.1.o q
     have HD4:=aa HW1.1.z
     go_wp2_with (first | refine ir rfl 34 17 _ Tryz.underlying34 rfl iA (.tmp 6) rfl g6 0 rfl Y.cells rfl HL6.out ?_ | refine iq rfl 34 (.tmp 4) (.tmp 105) rfl (w.heap.size+1) 0 rfl (.agg Y.cells) rfl 17 rfl 34 _ HD4 iA (Nat.le_of_ble_eq_true rfl) (Swg.lF _) ?_)
     intro Z2 hP
     replace hP:Put Z1 Z2 (w.heap.size+1) Y.cells 34:=hP.cast rfl
     have HK:=aa hP.blk
     have HFF:=EB HW1.1 HW1.2.1 HW1.2.2 hP
     have HFF:=aa HFF
     clear hP HL6 HD4
     repeat (first | go_values | go_skip | go_step)
     rw [HEQ.2]
     exact bodyPost_ret (jO Tryz.results78 17 _ Tryz.underlying34 rfl iA _ _ (w.heap.size+1) Y.cells rfl 34 HK.out rfl (.slice a ts.length c) rfl) rfl ⟨Y,a,c,rfl,HEQ.1,HFF.1,HFF.2.1,HFF.2.2⟩
    ·
     have HJ2:Hid (j<Y.nK∧(Y.K j).id=id∧fs=ts++[Y.K j]∧(((Y.K j).refs≠1∧iw S' { Y with K:=lf Y.K j })∨((Y.K j).refs=1∧iw S' { Y with nK:=Y.nK-1,K:=rmK Y.K j,N:=lq Y.N (Y.K j).inn (Y.K j).p (-(Y.K j).cl) }))):=⟨hj,hjid,hfs,hrr⟩
     clear hfs hrr hjid
     have HL6:Hid (∀ q,q<17→Z1.cell? ⟨g6,0+q,none⟩=Y.cells[q]?):=fun q _=>by rw [Nat.zero_add];exact ie HW1.1.o q
     go_wp2_with (refine ir rfl 34 17 _ Tryz.underlying34 rfl iA (.tmp 6) rfl g6 0 rfl Y.cells rfl HL6.out ?_)
     refine (oy Y id _ HY.n HW1.2.1.rd.k j hj HJ2.2.1 (fun q hq=>by
      have:=HY.k.only hj q (by omega) (by omega)
      rw [←HJ2.2.1];exact this)).mono ?_
     rintro e Z2 ⟨rfl,hb2⟩
     have HZ2:Hid (SpS w S Y b g6 Z2∧kj Z2 b Y Y.nL∧OG 36 5 Z2 b a ts.length c (tV ts.length fun k=>(fsF ts k).frame)):=⟨HW1.1.up hb2,HW1.2.1.up hb2,HW1.2.2.up hb2⟩
     clear hb2 HW1 HL6
     obtain ⟨gk,curK,eK,hbk,kK,szK,ccK⟩:=HZ2.2.1.k.at0 (show 0<Y.nK*8 by omega)
     have c13:Z2.cell? ⟨g6,13,none⟩=some (.slice (some ⟨gk,0,none⟩) Y.nK Y.cK):=by rw [←eK];exact ie HZ2.1.o 13
     have HLk:Hid (∀ q,q<8→Z2.cell? ⟨gk,j*8+q,none⟩=(Y.K j).cells[q]?):=fun q hq=>(ie kK _).trans ((ccK (j*8+q) (by omega)).trans (qj Y.K j q hq))
     have hj1:(j:Int)<(Y.nK:Int):=by omega
     have hj0:(0:Int)≤(j:Int):=by omega
     obtain ⟨V7,e7⟩:∃ V,Z2.alloc (.cells (Y.K j).cells 51)=V:=⟨_,rfl⟩
     have hb7:Below Z2.heap.size Z2 V7:=by rw [←e7];exact (Below.refl _ _).alloc (Nat.le_refl _) _
     have HV7:Hid (SpS w S Y b g6 V7∧kj V7 b Y Y.nL∧OG 36 5 V7 b a ts.length c (tV ts.length fun k=>(fsF ts k).frame)∧V7.heap[Z2.heap.size]?=some (.cells (Y.K j).cells 51 (0,0))∧b≤gk∧gk<Z2.heap.size∧Y.aK=some ⟨gk,0,none⟩∧b<Z2.heap.size):=⟨HZ2.1.up hb7,HZ2.2.1.up hb7,HZ2.2.2.up hb7,by rw [←e7];exact im _ _,hbk,ig kK,eK,HZ2.1.size⟩
     have HL7:Hid (∀ q,q<5→V7.cell? ⟨Z2.heap.size,3+q,none⟩=(Y.K j).frame[q]?):=fun q hq=>(ie HV7.2.2.2.1 _).trans (Gx (Y.K j) q hq)
     obtain ⟨g1,c3,V8,hrun,hu,ht8,_⟩:=lH 83 36 _ 5 48 yi Tryz.underlying83 rfl (by decide) (by decide) HV7.2.2.1 (by
      have h1:ts.length≤fs.length:=by rw [HJ2.2.2.1];simp
      have h2:=HM.1.len
      omega) (Nat.le_of_lt HV7.1.size) (#[.int .i64 (Y.K j).k,.int .i64 (Y.K j).d,.int .i64 (Y.K j).s,.int .i64 (Y.K j).p,.string (Y.K j).b]) rfl (by simp [Value.oneCell'])
     have HV8:Hid (SpS w S Y b g6 V8∧kj V8 b Y Y.nL∧OG 36 5 V8 b (some ⟨g1,0,none⟩) (ts.length+1) c3 (tV (ts.length+1) fun k=>(fsF fs k).frame)∧V8.heap[Z2.heap.size]?=some (.cells (Y.K j).cells 51 (0,0))):=by
      refine ⟨HV7.1.ru HV7.2.2.1 ht8,HV7.2.1.ru HV7.2.2.1 ht8,?_,(ht8.block _ (ig HV7.2.2.2.1) (HV7.2.2.1.lM (by decide) HV7.2.2.2.1)).trans HV7.2.2.2.1⟩
      rw [HJ2.2.2.1,Dy]
      exact hu
     have c72:V8.cell? ⟨Z2.heap.size,2,none⟩=some (.int .i64 (Y.K j).refs):=ie HV8.2.2.2 2
     have H17:=aa HV8.2.2.2
     have hsm:=HY.refs j hj
     have hw1:IntKind.i64.wrap ((Y.K j).refs-1)=(Y.K j).refs-1:=jS _ (by omega) (by omega)
     clear hbk kK szK ccK eK hu ht8 hb7 HZ2 hsm
     go_wp2_with (first | refine ir rfl 51 8 _ Tryz.underlying51 rfl vq (.tmp 113) rfl gk (j*8) (by simp [Act.eval]) (Y.K j).cells rfl HLk.out ?_ | refine jo 51 8 vq rfl (.tmp 17) (.tmp 114) rfl (Y.K j).cells _ rfl rfl rfl rfl rfl (Pkt.one _) (e7▸?_) | refine ir rfl 36 5 _ Tryz.underlying36 rfl qM (.tmp 116) rfl Z2.heap.size 3 rfl #[.int .i64 (Y.K j).k,.int .i64 (Y.K j).d,.int .i64 (Y.K j).s,.int .i64 (Y.K j).p,.string (Y.K j).b] rfl HL7.out ?_ | (at_builtin;refine Lib.wpList_append_run _ rfl _ _ _ _ rfl _ _ rfl rfl _ _ hrun ?_) | refine iq rfl 2 (.tmp 123) (.tmp 122) rfl Z2.heap.size 2 rfl (.int .i64 ((Y.K j).refs-1)) rfl 1 rfl 51 _ H17 (by kernel_rfl) (Nat.le_of_ble_eq_true rfl) (by simp [Value.cells,Value.oneCell']) ?_)
     intro V9 hP
     replace hP:Put V8 V9 Z2.heap.size ({ Y.K j with refs:=(Y.K j).refs-1 }:Pkt).cells 51:=hP.cast rfl
     have HV9:Hid (SpS w S Y b g6 V9∧kj V9 b Y Y.nL∧OG 36 5 V9 b (some ⟨g1,0,none⟩) (ts.length+1) c3 (tV (ts.length+1) fun k=>(fsF fs k).frame)∧V9.heap[Z2.heap.size]?=some (.cells ({ Y.K j with refs:=(Y.K j).refs-1 }:Pkt).cells 51 (0,0))∧b≤gk∧gk<Z2.heap.size∧Y.aK=some ⟨gk,0,none⟩∧b<Z2.heap.size):=by
      have hgk:=HV7.2.2.2.2.2.1
      have hgb:=HV7.2.2.2.2.2.2.2
      refine ⟨HV8.1.far H17 (by decide) (by omega) hP.to,HV8.2.1.box H17 hP.to ⟨by decide,by decide,by decide,by decide⟩ (by rw [HV7.2.2.2.2.2.2.1];exact Fg (by omega)) (HV8.2.1.l.qH H17 (by decide)),HV8.2.2.1.iu hP.to (fun x hx hy=>HV8.2.2.1.lM (by decide) H17 (by simp at hy;rw [←hy];exact hx)),hP.blk,HV7.2.2.2.2.1,hgk,HV7.2.2.2.2.2.2.1,hgb⟩
     clear hP HV7 HV8 H17 HL7 HLk c72 c13 hrun e7
     obtain ⟨g7,eg7⟩:∃ g,Z2.heap.size=g:=⟨_,rfl⟩
     rw [eg7] at HV9 ⊢
     clear eg7
     obtain ⟨gk',curK',eK',_,kK',szK',_⟩:=HV9.2.1.k.at0 (show 0<Y.nK*8 by omega)
     have hgg':gk'=gk:=by have:=HV9.2.2.2.2.2.2.1;rw [eK'] at this;simpa using this
     subst hgg'
     have c13:V9.cell? ⟨g6,13,none⟩=some (.slice (some ⟨gk',0,none⟩) Y.nK Y.cK):=by rw [←eK'];exact ie HV9.1.o 13
     have HL7:Hid (∀ q,q<8→V9.cell? ⟨g7,0+q,none⟩=({ Y.K j with refs:=(Y.K j).refs-1 }:Pkt).cells[q]?):=fun q _=>by rw [Nat.zero_add];exact ie HV9.2.2.2.1 q
     have HKK:Hid (V9.heap[gk']?=some (.cells curK' 51 (0,0))∧Y.nK*8≤curK'.size):=⟨kK',szK'⟩
     clear eK' kK' szK'
     go_wp2_with (first | refine ir rfl 51 8 _ Tryz.underlying51 rfl vq (.tmp 17) rfl g7 0 rfl ({ Y.K j with refs:=(Y.K j).refs-1 }:Pkt).cells rfl HL7.out ?_ | refine iq rfl 51 (.tmp 128) (.tmp 127) rfl gk' (j*8) (by simp [Act.eval]) (.agg ({ Y.K j with refs:=(Y.K j).refs-1 }:Pkt).cells) rfl 8 rfl 51 _ HKK.1 vq (by have:=HKK.2;omega) (Pkt.one _) ?_)
     intro V10 hP
     replace hP:Put V9 V10 gk' (lay curK' (j*8) ({ Y.K j with refs:=(Y.K j).refs-1 }:Pkt).cells) 51:=hP
     obtain ⟨Y1,eY1⟩:∃ Y1:Swg,{ Y with K:=lf Y.K j }=Y1:=⟨_,rfl⟩
     have HW:Hid (SpS w S Y1 b g6 V10∧kj V10 b Y1 Y1.nL∧OG 36 5 V10 b (some ⟨g1,0,none⟩) (ts.length+1) c3 (tV (ts.length+1) fun k=>(fsF fs k).frame)):=by
      have h1:=HV9.1.far HKK.1 (by decide) HV9.2.2.2.2.1 hP.to
      rw [←eY1]
      exact ⟨⟨h1.a,h1.z,h1.o,h1.bel,h1.lo,h1.hi⟩,HV9.2.1.setK hj HV9.2.2.2.2.2.2.1 HKK.1 hP (E6 Y.K j),HV9.2.2.1.iu hP.to (fun x hx hy=>HV9.2.2.1.lM (by decide) HKK.1 (by simp at hy;rw [←hy];exact hx))⟩
     have H17:Hid (V10.heap[g7]?=some (.cells ({ Y.K j with refs:=(Y.K j).refs-1 }:Pkt).cells 51 (0,0))):=(hP.to.block _ (ig HV9.2.2.2.1) (by have:=HV9.2.2.2.2.2.1;simp;omega)).trans HV9.2.2.2.1
     have c72:V10.cell? ⟨g7,2,none⟩=some (.int .i64 ((Y.K j).refs-1)):=ie H17 2
     have hrr:=HJ2.2.2.2
     replace HJ2:Hid (fs.length=ts.length+1):=by rw [Hid,HJ2.2.2.1];simp
     have HGK:Hid (b≤gk'∧gk'<g7∧Y.aK=some ⟨gk',0,none⟩∧b<g7):=⟨HV9.2.2.2.2.1,HV9.2.2.2.2.2.1,HV9.2.2.2.2.2.2.1,HV9.2.2.2.2.2.2.2⟩
     clear hP HV9 HKK HL7 c13
     rcases hrr with ⟨hr1,hA1⟩ | ⟨hr1,hA1⟩
     ·
      --[W5
      have HAF:Hid (iw S' Y1):=by rw [←eY1];exact hA1
      have hb5:((Y.K j).refs-1 == 0)=false:=by simp;omega
      have hn5:¬ ((Y.K j).refs-1=0):=by omega
      clear hA1 eY1
      have HL6:Hid (∀ q,q<17→V10.cell? ⟨g6,0+q,none⟩=Y1.cells[q]?):=fun q _=>by rw [Nat.zero_add];exact ie HW.1.o q
      have HD4:=aa HW.1.z
      go_wp2_with (first | refine ir rfl 34 17 _ Tryz.underlying34 rfl iA (.tmp 6) rfl g6 0 rfl Y1.cells rfl HL6.out ?_ | refine iq rfl 34 (.tmp 4) (.tmp 163) rfl (w.heap.size+1) 0 rfl (.agg Y1.cells) rfl 17 rfl 34 _ HD4 iA (Nat.le_of_ble_eq_true rfl) (Swg.lF _) ?_)
      intro Zf hP
      replace hP:Put V10 Zf (w.heap.size+1) Y1.cells 34:=hP.cast rfl
      have HK:=aa hP.blk
      have HFF:=aa (EB HW.1 HW.2.1 HW.2.2 hP)
      clear hP HL6 HD4
      repeat (first | go_values | go_skip | go_step)
      rw [HJ2.out]
      exact bodyPost_ret (jO Tryz.results78 17 _ Tryz.underlying34 rfl iA _ _ (w.heap.size+1) Y1.cells rfl 34 HK.out rfl (.slice (some ⟨g1,0,none⟩) (ts.length+1) c3) rfl) rfl ⟨Y1,some ⟨g1,0,none⟩,c3,rfl,HAF,HFF.1,HFF.2.1,HFF.2.2⟩
     ·
      --[W6
      have hb5:((Y.K j).refs-1 == 0)=true:=by simp;omega
      have hn5:(Y.K j).refs-1=0:=by omega
      have HA1:=aa hA1
      have HE1:=aa eY1
      have HQ:Hid (Y1.aK=some ⟨gk',0,none⟩∧Y1.nK=Y.nK∧Y1.cK=Y.cK∧Y.nK≤Y.cK∧Y.nK≤1048576∧j<Y.nK):=by rw [Hid,←eY1];exact ⟨HGK.2.2.1,rfl,rfl,HY.cap,HY.n,hj⟩
      have hlo:∀ wx,(Instr.slice 31 (.slice (some ⟨gk',0,none⟩) Y.nK Y.cK) none (some (.int .i64 (j:Int))) none).run Tryz.prog wx=.ok (.slice (some ⟨gk',0,none⟩) j Y.cK) wx:=fun wx=>A7 gk' 0 Y.nK Y.cK j wx (by omega) HQ.2.2.2.1
      have hhi:∀ wx,(Instr.slice 31 (.slice (some ⟨gk',0,none⟩) Y.nK Y.cK) (some (.int .i64 ((j:Int)+1))) none none).run Tryz.prog wx=.ok (.slice (some ⟨gk',if Y.cK=j+1 then 0 else (j+1)*8,none⟩) (Y.nK-(j+1)) (Y.cK-(j+1))) wx:=fun wx=>by
       have:=zy gk' Y.nK Y.cK (j+1) wx (by omega) HQ.2.2.2.1
       rw [show (((j+1:Nat):Int))=(j:Int)+1 by omega] at this
       exact this
      have hwj:IntKind.i64.wrap ((j:Int)+1)=(j:Int)+1:=jS _ (by omega) (by have:=HQ.2.2.2.2.1;omega)
      obtain ⟨oH,eoH⟩:∃ o,(if Y.cK=j+1 then 0 else (j+1)*8)=o:=⟨_,rfl⟩
      rw [eoH] at hhi
      have HoH:=aa eoH
      clear hA1 eY1 hr1 eoH
      go_wp2_with fail
      clear c72
      refine jc (fun wx=>wx.heap[g6]?=some (.cells Y1.cells 34 (0,0))) 13 (by kernel_rfl) ?_
      have hd:Below V10.heap.size V10 V10.drew:=(Below.refl _ _).drew
      have HD:Hid (SpS w S Y1 b g6 V10.drew∧kj V10.drew b Y1 Y1.nL∧OG 36 5 V10.drew b (some ⟨g1,0,none⟩) (ts.length+1) c3 (tV (ts.length+1) fun k=>(fsF fs k).frame)∧V10.drew.heap[g7]?=some (.cells ({ Y.K j with refs:=(Y.K j).refs-1 }:Pkt).cells 51 (0,0))):=⟨HW.1.up hd,HW.2.1.up hd,HW.2.2.up hd,(hd.block _ (ig H17.out)).trans H17.out⟩
      clear hd HW H17
      generalize V10.drew=D at *
      have hT0:D.heap[g6]?=some (.cells Y1.cells 34 (0,0)):=HD.1.o
      have HC13:Hid (∀ wx:World,wx.heap[g6]?=some (.cells Y1.cells 34 (0,0))→wx.cell? ⟨g6,13,none⟩=some (.slice (some ⟨gk',0,none⟩) Y.nK Y.cK)):=fun wx h=>by rw [←HQ.1,←HQ.2.1,←HQ.2.2.1];exact ie h 13
      have hrd:pI D (some ⟨gk',0,none⟩) Y.nK Y1.K:=by
       have:=HD.2.1.k.g.pks
       rw [HQ.1,HQ.2.1] at this
       exact this
      obtain ⟨a1,c1,W1,r1,b1,a2,c2,W2,r2,o2,b2⟩:=F8 hrd hj HQ.2.2.2.1 HQ.2.2.2.2.1
      obtain ⟨Da,eDa⟩:∃ X,D.alloc (.cells #[] 51)=X:=⟨_,rfl⟩
      have hbD:Below D.heap.size D Da:=by rw [←eDa];exact (Below.refl _ _).alloc (Nat.le_refl _) _
      rw [eDa] at r1
      rw [HoH.out] at r2
      have HR1:=aa r1
      have HR2:=aa r2
      have HO2:Hid (OG 51 8 W2 D.heap.size a2 (Y.nK-1) c2 (oe (Y.nK-1) (rmK Y1.K j))∧Below D.heap.size D W2∧Below D.heap.size D W1∧Below D.heap.size D Da):=⟨o2,b2,b1,hbD⟩
      clear r1 r2 o2 b1 b2 hbD hrd
      refine tE 1 133 hT0 ?_
      refine kE (i:=2) (some 134) (v:=?_) ?_ hT0 ?_
      rotate_left
      ·
       intro wx hSw
       have c13:=HC13 wx hSw
       exact dH
      try simp only [Act.put,PZ]
      refine tE 3 135 hT0 ?_
      refine kE (i:=4) (some 136) (v:=.slice (some ⟨gk',0,none⟩) j Y.cK) ?_ hT0 ?_
      ·
       intro wx hSw
       have hr1:=hlo wx
       exact dH
      try simp only [Act.put,PZ]
      refine tE 6 138 hT0 ?_
      refine kE (i:=7) (some 139) (v:=?_) ?_ hT0 ?_
      rotate_left
      ·
       intro wx hSw
       have c13:=HC13 wx hSw
       exact dH
      try simp only [Act.put,PZ]
      refine tE 8 140 hT0 ?_
      refine tE 9 141 hT0 ?_
      refine kE (i:=10) (some 142) (v:=.slice (some ⟨gk',oH,none⟩) (Y.nK-(j+1)) (Y.cK-(j+1))) ?_ hT0 ?_
      ·
       intro wx hSw
       have hr1:=hhi wx
       exact dH
      try simp only [Act.put,PZ]
      refine il (rs:=[0]) (by kernel_rfl) (by simp) ?_
      refine ij.cons rfl (fun K hK=>?_) ij.nil
      go_simp
      clear eDa
      have hT1:Da.heap[g6]?=some (.cells Y1.cells 34 (0,0)):=(HO2.2.2.2.block _ (ig hT0)).trans hT0
      refine hK _ _ hT1 ?_
      clear hK K
      try simp only [Act.put,PZ]
      refine il (rs:=[5]) (by kernel_rfl) (by simp) ?_
      refine ij.cons rfl (fun K hK=>?_) ij.nil
      refine kg (by kernel_rfl) (some 137) rfl (.tmp 132) (.tmp 136) 31 _ _ _ rfl rfl rfl rfl HR1.out ?_
      have hT2:W1.heap[g6]?=some (.cells Y1.cells 34 (0,0)):=(HO2.2.2.1.block _ (ig hT0)).trans hT0
      refine hK _ _ hT2 ?_
      clear hK K
      try simp only [Act.put,PZ]
      refine il (rs:=[11]) (by kernel_rfl) (by simp) ?_
      refine ij.cons rfl (fun K hK=>?_) ij.nil
      refine kg (by kernel_rfl) (some 143) rfl (.tmp 137) (.tmp 142) 31 _ _ _ rfl rfl rfl rfl HR2.out ?_
      have hT3:W2.heap[g6]?=some (.cells Y1.cells 34 (0,0)):=(HO2.2.1.block _ (ig hT0)).trans hT0
      refine hK _ _ hT3 ?_
      clear hK K
      try simp only [Act.put,PZ]
      refine tE 12 144 hT3 ?_
      refine il (rs:=[13]) (by kernel_rfl) (by simp) ?_
      refine ij.last rfl (fun K hK=>?_)
      refine jn (by kernel_rfl) none rfl 31 (.tmp 144) (.tmp 143) rfl g6 13 rfl (.slice a2 (Y.nK-1) c2) rfl 1 rfl 34 _ hT3 E3 (Nat.le_of_ble_eq_true rfl) (by simp [Value.cells,Value.oneCell']) ?_
      intro V11 hP
      refine ah (hK _ _) ?_
      clear hK K
      refine iQ (by kernel_rfl) ?_ _
      obtain ⟨Y2,eY2⟩:∃ Y2:Swg,{ Y1 with aK:=a2,nK:=Y.nK-1,cK:=c2,K:=rmK Y1.K j }=Y2:=⟨_,rfl⟩
      replace hP:Put W2 V11 g6 Y2.cells 34:=hP.cast (by rw [←eY2];rfl)
      have HU:Hid (SpS w S Y2 b g6 V11∧kj V11 b Y2 Y2.nL∧OG 36 5 V11 b (some ⟨g1,0,none⟩) (ts.length+1) c3 (tV (ts.length+1) fun k=>(fsF fs k).frame)∧V11.heap[g7]?=some (.cells ({ Y.K j with refs:=(Y.K j).refs-1 }:Pkt).cells 51 (0,0))):=by
       have hb2:=HO2.2.1
       have hzD:=HD.1.size
       have h1:=HD.1.up hb2
       have h2:=HD.2.1.up hb2
       have h3:kj V11 b Y1 Y1.nL:=h2.box h1.o hP.to ⟨by decide,by decide,by decide,by decide⟩ (h2.k.qH h1.o (by decide)) (h2.l.qH h1.o (by decide))
       have h4:OG 51 8 V11 D.heap.size a2 (Y.nK-1) c2 (oe (Y.nK-1) (rmK Y1.K j)):=HO2.1.iu hP.to (fun x hx hy=>HO2.1.lM (by decide) h1.o (by simp at hy;rw [←hy];exact hx))
       have h5:=h3.newRow h4 (Nat.le_of_lt hzD)
       rw [eY2] at h5
       refine ⟨h1.put hP,?_,(HD.2.2.1.up hb2).iu hP.to (fun x hx hy=>(HD.2.2.1.up hb2).lM (by decide) h1.o (by simp at hy;rw [←hy];exact hx)),?_⟩
       ·
        rw [show Y1.nL=Y2.nL by rw [←eY2]] at h5
        exact h5
       have k7:=(hb2.block _ (ig HD.2.2.2)).trans HD.2.2.2
       exact (hP.to.block _ (ig k7) (fun hy=>rY h1.o k7 (by decide) (by simpa using hy:g7=g6).symm)).trans k7
      have HE2:=aa eY2
      clear hP HD HO2 HR1 HR2 hT0 hT1 hT2 hT3 eY2 HC13 hlo hhi hwj hb5 hn5
      go_wp2_with fail
      have HF7:Hid ((Y.K j).nR∧(0≤(Y.K j).inn∧(Y.K j).inn≤Y.C.p-1)):=⟨(HY.k.one j hj).2.2,(HY.k.one j hj).2.1⟩
      have HN2:Hid (Y2.N=Y.N∧Y2.C=S.C∧Cnt.Ok S.C Y.N∧Cnt.Ok S.C (lq Y.N (Y.K j).inn (Y.K j).p (-(Y.K j).cl))∧Y.C=S.C):=by
       have h1:=HY.cn
       have h2:=HY.rel j hj
       have h3:=HY.c
       rw [h3] at h1 h2
       refine ⟨by rw [←HE2.out,←HE1.out],by rw [←HE2.out,←HE1.out];exact h3,h1,h2,h3⟩
      go_cut [145] (fun _ wx=>∃ M,Hid (iR (lq Y.N (Y.K j).inn (Y.K j).p (-(Y.K j).cl)) M∧SpS w S { Y2 with N:=M } b g6 wx∧kj wx b { Y2 with N:=M } Y2.nL∧OG 36 5 wx b (some ⟨g1,0,none⟩) (ts.length+1) c3 (tV (ts.length+1) fun k=>(fsF fs k).frame)))
      case first =>
       refine ng (fun wx=>wx.heap[w.heap.size]?=some (.cells S.cells 34 (0,0))∧wx.heap[g6]?=some (.cells Y2.cells 34 (0,0))∧wx.heap[g7]?=some (.cells ({ Y.K j with refs:=(Y.K j).refs-1 }:Pkt).cells 51 (0,0))) 18 (by kernel_rfl) ?_
       have hd:Below V11.heap.size V11 V11.drew:=(Below.refl _ _).drew
       have HD:Hid (SpS w S Y2 b g6 V11.drew∧kj V11.drew b Y2 Y2.nL∧OG 36 5 V11.drew b (some ⟨g1,0,none⟩) (ts.length+1) c3 (tV (ts.length+1) fun k=>(fsF fs k).frame)∧V11.drew.heap[g7]?=some (.cells ({ Y.K j with refs:=(Y.K j).refs-1 }:Pkt).cells 51 (0,0))):=⟨HU.1.up hd,HU.2.1.up hd,HU.2.2.1.up hd,(hd.block _ (ig HU.2.2.2)).trans HU.2.2.2⟩
       clear hd
       generalize V11.drew=D at *
       have hT0:D.heap[w.heap.size]?=some (.cells S.cells 34 (0,0))∧D.heap[g6]?=some (.cells Y2.cells 34 (0,0))∧D.heap[g7]?=some (.cells ({ Y.K j with refs:=(Y.K j).refs-1 }:Pkt).cells 51 (0,0)):=⟨HD.1.a,HD.1.o,HD.2.2.2⟩
       have hwn:IntKind.i64.wrap (-(Y.K j).cl)=-(Y.K j).cl:=jS _ (by have:=HF7.1.cl;omega) (by have:=HF7.1.cl;omega)
       refine tG 0 146 hT0 ?_
       refine tc (i:=1) (some 147) (v:=.agg S.C.cells) ?_ hT0 ?_
       ·
        intro wx hSw
        exact jg 25 7 _ Tryz.underlying25 rfl BR (.tmp 146) rfl w.heap.size 0 rfl S.C.cells rfl (fun q hq=>by
         rw [Nat.zero_add,ie hSw.1]
         have:q=0∨q=1∨q=2∨q=3∨q=4∨q=5∨q=6:=by omega
         rcases this with rfl | rfl | rfl | rfl | rfl | rfl | rfl <;> rfl)
       try simp only [Act.put,PZ]
       refine tG 2 148 hT0 ?_
       refine tc (i:=3) (some 149) (v:=.agg Y2.N.cells) ?_ hT0 ?_
       ·
        intro wx hSw
        exact jg 30 3 _ Tryz.underlying30 rfl pB (.tmp 148) rfl g6 10 rfl Y2.N.cells rfl (fun q hq=>by
         rw [ie hSw.2.1]
         have:q=0∨q=1∨q=2:=by omega
         rcases this with rfl | rfl | rfl <;> rfl)
       try simp only [Act.put,PZ]
       refine tG 4 150 hT0 ?_
       refine tc (i:=5) (some 151) (v:=?_) ?_ hT0 ?_
       rotate_left
       ·
        intro wx hSw
        have b1:wx.cell? ⟨g7,1,none⟩=some (.int .i64 (Y.K j).inn):=ie hSw.2.2 1
        exact dH
       try simp only [Act.put,PZ]
       refine tG 6 152 hT0 ?_
       refine tG 7 153 hT0 ?_
       refine tc (i:=8) (some 154) (v:=?_) ?_ hT0 ?_
       rotate_left
       ·
        intro wx hSw
        have b6:wx.cell? ⟨g7,6,none⟩=some (.int .i64 (Y.K j).p):=ie hSw.2.2 6
        exact dH
       try simp only [Act.put,PZ]
       refine tG 9 155 hT0 ?_
       refine tc (i:=10) (some 156) (v:=.agg #[.int .i64 (Y.K j).k,.int .i64 (Y.K j).d,.int .i64 (Y.K j).s,.int .i64 (Y.K j).p,.string (Y.K j).b]) ?_ hT0 ?_
       ·
        intro wx hSw
        exact jg 36 5 _ Tryz.underlying36 rfl qM (.tmp 155) rfl g7 3 rfl #[.int .i64 (Y.K j).k,.int .i64 (Y.K j).d,.int .i64 (Y.K j).s,.int .i64 (Y.K j).p,.string (Y.K j).b] rfl (fun q hq=>(ie hSw.2.2 _).trans (Gx ({ Y.K j with refs:=(Y.K j).refs-1 }:Pkt) q hq))
       try simp only [Act.put,PZ]
       refine iF (rs:=[11]) (by kernel_rfl) (by simp) ?_
       refine iz.cons rfl (fun K hK=>?_) iz.nil
       go_simp
       refine (jr (Y.K j).k (Y.K j).d (Y.K j).s (Y.K j).p (Y.K j).b _ HF7.1.le).mono ?_
       rintro e D1 ⟨rfl,hb⟩
       rw [show (((Y.K j).b.size:Int)+9+9) / 10=(Y.K j).cl from rfl]
       have HD1:Hid (SpS w S Y2 b g6 D1∧kj D1 b Y2 Y2.nL∧OG 36 5 D1 b (some ⟨g1,0,none⟩) (ts.length+1) c3 (tV (ts.length+1) fun k=>(fsF fs k).frame)∧D1.heap[g7]?=some (.cells ({ Y.K j with refs:=(Y.K j).refs-1 }:Pkt).cells 51 (0,0))):=⟨HD.1.up hb,HD.2.1.up hb,HD.2.2.1.up hb,(hb.block _ (ig HD.2.2.2)).trans HD.2.2.2⟩
       have hT1:D1.heap[w.heap.size]?=some (.cells S.cells 34 (0,0))∧D1.heap[g6]?=some (.cells Y2.cells 34 (0,0))∧D1.heap[g7]?=some (.cells ({ Y.K j with refs:=(Y.K j).refs-1 }:Pkt).cells 51 (0,0)):=⟨HD1.1.a,HD1.1.o,HD1.2.2.2⟩
       clear hb hT0 HD
       go_wp2_with fail
       refine hK _ _ hT1 ?_
       clear hK K
       try simp only [Act.put,PZ]
       refine tG 12 158 hT1 ?_
       refine iF (rs:=[13]) (by kernel_rfl) (by simp) ?_
       refine iz.cons rfl (fun K hK=>?_) iz.nil
       go_simp
       refine (zZ S.C Y2.N (Y.K j).inn (Y.K j).p (-(Y.K j).cl) _ (by rw [HN2.1];exact HN2.2.2.1) HD1.2.1.n.rd (by have:=HF7.2;rw [HN2.2.2.2.2] at this;exact this) (by have:=HF7.1.cl;omega) (by have:=HF7.1.cl;omega) (by rw [HN2.1];exact HN2.2.2.2.1)).mono ?_
       rintro e D2 ⟨M,rfl,oM,hb,aM⟩
       rw [HN2.1] at aM
       have hz1:=HD1.1.size
       have HD2:Hid (SpS w S Y2 b g6 D2∧kj D2 b Y2 Y2.nL∧OG 36 5 D2 b (some ⟨g1,0,none⟩) (ts.length+1) c3 (tV (ts.length+1) fun k=>(fsF fs k).frame)∧iN D2 D1.heap.size M∧iR (lq Y.N (Y.K j).inn (Y.K j).p (-(Y.K j).cl)) M∧b<D1.heap.size):=⟨HD1.1.up hb,HD1.2.1.up hb,HD1.2.2.1.up hb,oM,aM,hz1⟩
       have hT2:D2.heap[w.heap.size]?=some (.cells S.cells 34 (0,0))∧D2.heap[g6]?=some (.cells Y2.cells 34 (0,0))∧D2.heap[g7]?=some (.cells ({ Y.K j with refs:=(Y.K j).refs-1 }:Pkt).cells 51 (0,0)):=⟨HD2.1.a,HD2.1.o,(hb.block _ (ig HD1.2.2.2)).trans HD1.2.2.2⟩
       clear hb hT1 HD1 oM aM hz1
       go_wp2_with fail
       refine hK _ _ hT2 ?_
       clear hK K
       try simp only [Act.put,PZ]
       refine tG 14 145 hT2 ?_
       refine tG 15 160 hT2 ?_
       refine tG 17 162 hT2 ?_
       refine iF (rs:=[16,18]) (by kernel_rfl) (by simp) ?_
       refine iz.cons rfl (fun K hK=>?_) (iz.last rfl (fun K hK=>?_))
       ·
        go_simp
        refine hK _ _ hT2 ?_
        clear hK K
        try simp only [Act.put,PZ]
        refine iF (rs:=[18]) (by kernel_rfl) (by simp) ?_
        refine iz.last rfl (fun K hK=>?_)
        refine jn (by kernel_rfl) none rfl 30 (.tmp 162) (.tmp 160) rfl g6 10 rfl (.agg M.cells) rfl 3 rfl 34 _ hT2.2.1 pB (Nat.le_of_ble_eq_true rfl) (Cnt.lF _) ?_
        intro D3 hP
        exact H8
       refine jn (by kernel_rfl) none rfl 30 (.tmp 162) (.tmp 160) rfl g6 10 rfl (.agg M.cells) rfl 3 rfl 34 _ hT2.2.1 pB (Nat.le_of_ble_eq_true rfl) (Cnt.lF _) ?_
       intro D3 hP
       refine ah (hK _ _) ?_
       clear hK K
       refine iF (rs:=[16]) (by kernel_rfl) (by simp) ?_
       refine iz.late rfl (by kernel_rfl) (fun K hK=>?_)
       go_simp
       exact H8
      obtain ⟨M,HE⟩:=hcut
      obtain ⟨Y3,eY3⟩:∃ Y3:Swg,{ Y2 with N:=M }=Y3:=⟨_,rfl⟩
      have HW:Hid (SpS w S Y3 b g6 wc∧kj wc b Y3 Y3.nL∧OG 36 5 wc b (some ⟨g1,0,none⟩) (ts.length+1) c3 (tV (ts.length+1) fun k=>(fsF fs k).frame)):=by
       rw [←eY3]
       exact ⟨HE.2.1,HE.2.2.1,HE.2.2.2⟩
      have HAF:Hid (iw S' Y3):=by
       have hA:=HA1.out
       rw [Hid,←eY3,←HE2.out,←HE1.out]
       refine hA.trans ⟨rfl,rfl,rfl,rfl,rfl,HE.1,rfl,?_,rfl,fun i _=>iO.refl _,rfl,rfl⟩
       show rmK (lf Y.K j) j=rmK Y.K j
       exact EK Y.K j
      clear HE eY3 HU HY HE1 HE2 HA1 HN2 HF7
      have HL6:Hid (∀ q,q<17→wc.cell? ⟨g6,0+q,none⟩=Y3.cells[q]?):=fun q _=>by rw [Nat.zero_add];exact ie HW.1.o q
      have HD4:=aa HW.1.z
      go_wp2_with (first | refine ir rfl 34 17 _ Tryz.underlying34 rfl iA (.tmp 6) rfl g6 0 rfl Y3.cells rfl HL6.out ?_ | refine iq rfl 34 (.tmp 4) (.tmp 163) rfl (w.heap.size+1) 0 rfl (.agg Y3.cells) rfl 17 rfl 34 _ HD4 iA (Nat.le_of_ble_eq_true rfl) (Swg.lF _) ?_)
      intro Zf hP
      replace hP:Put wc Zf (w.heap.size+1) Y3.cells 34:=hP.cast rfl
      have HK:=aa hP.blk
      have HFF:=aa (EB HW.1 HW.2.1 HW.2.2 hP)
      clear hP HL6 HD4
      repeat (first | go_values | go_skip | go_step)
      rw [HJ2.out]
      exact bodyPost_ret (jO Tryz.results78 17 _ Tryz.underlying34 rfl iA _ _ (w.heap.size+1) Y3.cells rfl 34 HK.out rfl (.slice (some ⟨g1,0,none⟩) (ts.length+1) c3) rfl) rfl ⟨Y3,some ⟨g1,0,none⟩,c3,rfl,HAF,HFF.1,HFF.2.1,HFF.2.2⟩
def AX (S:Swg) (b:Bool):Swg:=if b then S.jZ none 0 else lY
theorem CN (S:Swg):AX S true=S.jZ none 0:=rfl
theorem xW (y:Ent) (r:List Ent) (mac t:Int):oW (y :: r) mac t=if y.m=mac then (if t-y.t≤20 then y.p else -1) else oW r mac t:=by
 unfold oW CE atM
 by_cases e:y.m=mac
 ·
  simp [e]
 simp [e]
theorem Af {L:List Ent} :x∈jl L x:=by
 unfold jl
 split <;> exact nv.2 (.inl rfl)
theorem si {x:Ent}:∀ {L:List Ent},jB L→x∈L→oW L x.m x.t=x.p
 | [],_,h=>by simp at h
 | y :: r,hs,h=>by
  have hr:jB r:=(List.pairwise_cons.1 hs).2
  have hy:∀ z∈r,y.m<z.m:=(List.pairwise_cons.1 hs).1
  rw [xW]
  rcases List.mem_cons.1 h with e | hm
  ·
   subst e
   rw [if_pos rfl,if_pos (by omega)]
  rw [if_neg (by have:=hy x hm;omega)]
  exact si hr hm
theorem ze (src:Int):∀ n:Nat,(kY (-1) src n:Int)=n-if 0≤src∧src<n then 1 else 0
 | 0=>by
  rw [if_neg (by omega)];rfl
 | n+1=>by
  have ih:=ze src n
  show ((kY (-1) src n+if jj n (-1) src=true then 1 else 0:Nat):Int)=_
  unfold jj
  rw [if_pos rfl]
  by_cases e:(n:Int)=src
  ·
   rw [if_neg (by simp [e])]
   rw [if_neg (by omega)] at ih
   exact gJ
  rw [if_pos (by simp [e])]
  by_cases h:0≤src∧src<(n:Int)
  ·
   rw [if_pos h] at ih
   exact gJ
  rw [if_neg h] at ih
  rw [if_neg (by omega)]
  omega
theorem zd {dst:Int} (hd:dst≠-1) (src:Int):∀ n:Nat,(kY dst src n:Int)=if 0≤dst∧dst<n then 1 else 0
 | 0=>by
  rw [if_neg (by omega)];rfl
 | n+1=>by
  have ih:=zd hd src n
  show ((kY dst src n+if jj n dst src=true then 1 else 0:Nat):Int)=_
  unfold jj
  rw [if_neg hd]
  by_cases e:(n:Int)=dst
  ·
   rw [if_pos (by simp [e])]
   rw [if_neg (by omega)] at ih
   exact gJ
  rw [if_neg (by simp [e])]
  by_cases h:0≤dst∧dst<(n:Int)
  ·
   rw [if_pos h] at ih
   exact gJ
  rw [if_neg h] at ih
  rw [if_neg (by omega)]
  omega
structure ArD (S S':Swg) (i:Nat) (x:Pkt) (code:Int) (tq:Int):Prop where
 src:xC S'.nE S'.e x.s S'.now i
 dst:xC S'.nE S'.e x.d S'.now tq
 lt:S'.nE≤8
 not:code≠0→(code=4∨code=3)∧S'.nK=S.nK∧iR S.N S'.N∧(code=4→S'.dr+S'.lst=S.dr+S.lst)∧(code=3→S.dr+S.lst<S'.dr+S'.lst)∧S'.dr+S'.lst≤200∧S.dr+S.lst≤100∧S.dr≠1000000000∧S.lst≠1000000000
 yes:code=0→tq≠i∧S'.nK=S.nK+1∧S'.K S.nK=S.pkt i x (kY tq i S.nL)∧((tq<0∧(kY tq i S.nL:Int)=S.C.p-1)∨(0≤tq∧(kY tq i S.nL:Int)=1))
theorem yT (h:S.Ok) (hi:i<S.nL) {x:Pkt} (hx:x.nR) (mac:Int):xC (S.lrL i x).length (fun j=>(S.lrL i x).getD j default) mac S.now (oW (S.lrL i x) mac S.now) :=
 ⟨fun _ _=>by rw [kO],fun hn=>absurd ⟨((h.jm hi hx none 0).seen).1,h.nums.now⟩ hn⟩
theorem qS.ard {S':Swg} {x:Pkt} {code:Int} (h:S.Ok) (hl:S.Low) (hi:i<S.nL) (hx:x.nR) (hm:qS S S' i x code):ArD S S' i x code (S.toP i x):=by
 have e0:=yT h hi hx x.s
 have e1:=yT h hi hx x.d
 have hs:=h.jm hi hx none 0
 have hsrc:oW (S.lrL i x) x.s S.now=i:=by
  refine si (x:=⟨x.s,i,S.now⟩) ?_ Af
  have q:=(hs.seen).1
  have:=kM q.2
  rw [show iD (S.jm i x none 0).nE (S.jm i x none 0).e=S.lrL i x from kO _] at this
  exact this
 rw [hsrc] at e0
 have h8:(S.lrL i x).length≤8:=(hs.seen).1.1
 obtain ⟨l1,l2,l3⟩:=hl
 rcases hm with ⟨ht,rfl,rfl⟩ | ⟨ht,hno,rfl,rfl⟩ | ⟨ht,hc,hnx,rfl,rfl⟩
 ·
  exact ⟨e0,e1,h8,fun _=>⟨.inl rfl,rfl,iR.refl _,fun _=>rfl,fun h=>by omega,by show S.dr+S.lst≤_;omega,by omega,by omega,by omega⟩,fun h=>by omega⟩
 ·
  have q:∀ P:Swg,0≤P.dr→0≤P.lst→P.dr+P.lst≤100→(P.lG x.p).nE=P.nE∧(P.lG x.p).e=P.e∧(P.lG x.p).now=P.now∧(P.lG x.p).nK=P.nK∧(P.lG x.p).N=P.N∧(P.lG x.p).dr+(P.lG x.p).lst=P.dr+P.lst+1:=by
   intro P h1 h2 h3
   unfold Swg.lG
   split
   ·
    refine ⟨rfl,rfl,rfl,rfl,rfl,?_⟩
    show P.dr+min (P.lst+1) 1000000000=_
    omega
   refine ⟨rfl,rfl,rfl,rfl,rfl,?_⟩
   show min (P.dr+1) 1000000000+P.lst=_
   omega
  obtain ⟨q1,q2,q3,q4,q5,q6⟩:=q (S.jm i x none 0) l1 l2 l3
  have q7:(S.jm i x none 0).dr+(S.jm i x none 0).lst=S.dr+S.lst:=rfl
  refine ⟨by rw [q1,q2,q3];exact e0,by rw [q1,q2,q3];exact e1,by rw [q1];exact h8,fun _=>⟨.inr rfl,q4,by rw [q5];exact iR.refl _,fun h=>by omega,fun _=>by omega,by omega,by omega,by omega,by omega⟩,fun h=>by omega⟩
 have hr:=h.GI hi hx
 have hp:=h.n.c.num.p
 have hnl:=h.nl
 refine ⟨e0,e1,h8,fun h=>absurd rfl h,fun _=>⟨ht,rfl,if_pos rfl,?_⟩⟩
 rcases hr with e | ⟨r1,r2⟩
 ·
  refine .inl ⟨by omega,?_⟩
  have q:=ze (i:Int) S.nL
  rw [if_pos (by omega)] at q
  rw [e]
  omega
 refine .inr ⟨r1,?_⟩
 have q:=zd (dst:=S.toP i x) (by omega) (i:Int) S.nL
 rw [if_pos (by omega)] at q
 exact q
theorem kH (a1 a2:Option Addr) (n c1 c2:Nat) (f:Nat→Int) (w:World) (hn:n≤1048576) (h1:iP w a1 n fun i=>.int .i64 (f i)) (h2:iP w a2 n fun i=>.int .i64 (f i)) :
  Calls Tryz.prog 36 #[.slice a1 n c1,.slice a2 n c2] w fun e w'=>e=.returned (.bool true)∧Same w w':=by
 go_enter Tryz.func36,Tryz.ntmps36
 exact gF
theorem uJ (a1 a2:Option Addr) (n c1 c2:Nat) (f:Nat→Bool) (w:World) (hn:n≤1048576) (h1:iP w a1 n fun i=>.bool (f i)) (h2:iP w a2 n fun i=>.bool (f i)) :
  Calls Tryz.prog 37 #[.slice a1 n c1,.slice a2 n c2] w fun e w'=>e=.returned (.bool true)∧Same w w':=by
 go_enter Tryz.func37,Tryz.ntmps37
 exact gF
theorem pc (A B:Cnt) (w:World) (hs:A.Small) (hA:my w A) (hB:my w B) (h:iR A B) :
  Calls Tryz.prog 11 #[.agg A.cells,.agg B.cells] w fun e w'=>e=.returned (.bool true)∧Below w.heap.size w w':=by
 obtain ⟨aU,nU,cU,u,lo,aP,nP,cP,p⟩:=A
 obtain ⟨bU,nU',dU,u',lo',bP,nP',dP,p'⟩:=B
 obtain ⟨h1,h2,h3,h4,h5⟩:=h
 dsimp only at h1 h2 h3 h4 h5
 subst h1 h2 h3 h4 h5
 have hs1:nU'≤1048576:=hs.u
 have hs2:nP'≤1048576:=hs.p
 obtain ⟨w2,hw2⟩:∃ w2,w2=(w.alloc (.cells #[.slice aU nU' cU,.int .i64 lo',.slice aP nP' cP] 30)).alloc (.cells #[.slice bU nU' dU,.int .i64 lo',.slice bP nP' dP] 30):=⟨_,rfl⟩
 have k1:w2.heap[w.heap.size]?=some (.cells #[.slice aU nU' cU,.int .i64 lo',.slice aP nP' cP] 30 (0,0)):=by rw [hw2];exact (iH _ (by simp)).trans (im _ _)
 have k2:w2.heap[w.heap.size+1]?=some (.cells #[.slice bU nU' dU,.int .i64 lo',.slice bP nP' dP] 30 (0,0)):=by
  rw [hw2]
  have:=im (w.alloc (.cells #[.slice aU nU' cU,.int .i64 lo',.slice aP nP' cP] 30)) (.cells #[.slice bU nU' dU,.int .i64 lo',.slice bP nP' dP] 30)
  simpa using this
 have B2:Below w.heap.size w w2:=by rw [hw2];go_grown
 have HU1:=aa (hA.u.up B2)
 have HU2:=aa (hB.u.up B2)
 have HP1:=aa (hA.p.up B2)
 have HP2:=aa (hB.p.up B2)
 have c1:=ie k1
 have c2:=ie k2
 rw [hw2] at c1 c2
 clear hs hA hB
 unfold Cnt.cells
 dsimp only
 go_enter Tryz.func11,Tryz.ntmps11
 go_wp2_with fail
 rw [←hw2]
 clear hw2 c1 c2
 refine (kH aU bU nU' cU dU u' _ hs1 HU1 HU2).mono ?_
 rintro e w3 ⟨rfl,hS⟩
 have c1:=ie ((congrArg (·[w.heap.size]?) hS.heap).trans k1)
 have c2:=ie ((congrArg (·[w.heap.size+1]?) hS.heap).trans k2)
 have b3:=hS.below w2.heap.size
 have B3:=B2.trans (b3.mono B2.size)
 have HP13:=aa (HP1.up b3)
 have HP23:=aa (HP2.up b3)
 clear hS k1 k2 b3 B2 HU1 HU2 HP1 HP2
 go_wp2_with fail
 refine (uJ aP bP nP' cP dP p' _ hs2 HP13 HP23).mono ?_
 rintro e w4 ⟨rfl,hS⟩
 have B4:=B3.trans ((hS.below w3.heap.size).mono B3.size)
 clear hS B3 HP13 HP23 c1 c2
 go_wp2_with fail
 go_ret
 exact ⟨rfl,B4⟩
theorem zm (a:Option Addr) (len cap:Nat) (w:World) (h:len≤maxLen) :
  Calls Tryz.prog 4 #[.slice a len cap] w fun e w'=>e=.returned (.bool (decide (1048576<(len:Int))))∧w'=w:=by
 have hm:(len:Int)≤9223372036854775807:=by unfold maxLen at h;omega
 go_enter Tryz.func4,Tryz.ntmps4
 go_wp2
 exact fu
