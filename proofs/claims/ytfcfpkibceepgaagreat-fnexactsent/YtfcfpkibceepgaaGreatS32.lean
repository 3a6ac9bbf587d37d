import Derived.Test.YtfcfpkibceepgaaGreatRows
import Derived.Test.YtfcfpkibceepgaaGreatS31
import Derived.Below
import Derived.ChangeOld
import Derived.Deep.Grids
import Derived.Deep.Matrix
import Derived.Deep.Slices
import Derived.OpenShut
import Derived.ProofKit
import Derived.ShutString
namespace Go.Proofs.YtfcfpkibceepgaaGreat
set_option maxRecDepth 100000
set_option maxHeartbeats 8000000
open Go.RowKit
set_option linter.unusedVariables false
set_option linter.unusedSimpArgs false
theorem fv {p:Prop} (h:p:=by
 refine hK.out _ _ ?_
 clear hK K
 try simp only [Act.put,PZ]
 refine pd (by kernel_rfl) ?_ _
 replace hP:Put D2 D3 g6 ({ Y2 with N:=M }:Swg).cells 40:=hP.cast rfl
 have HE:Hid (gx (kF Y.N (Y.K j).inn (Y.K j).p (-(Y.K j).cl)) M∧SpS w S { Y2 with N:=M } b g6 D3∧jd D3 b { Y2 with N:=M } Y2.nL∧OG 74 5 D3 b (some ⟨g1,0,none⟩) (ts.length+1) c3 (tV (ts.length+1) fun k=>(fsF fs k).frame)):=⟨HD2.out.2.2.2.2.1,HD2.out.1.put hP,((HD2.out.2.1.box HD2.out.1.o hP.to ⟨by decide,by decide,by decide,by decide⟩ (HD2.out.2.1.k.nW HD2.out.1.o (by decide)) (HD2.out.2.1.l.nW HD2.out.1.o (by decide))).Ds (HD2.out.2.2.2.1.Dq HD2.out.1.o (by decide) (by decide) hP.to) (Nat.le_of_lt HD2.out.2.2.2.2.2)),HD2.out.2.2.1.fK hP.to (fun x hx hy=>HD2.out.2.2.1.j7 (by decide) HD2.out.1.o (by simp at hy;rw [←hy];exact hx))⟩
 clear hP HD2 hT2 HU HY HE1 HE2 HA1
 go_wp2_with fail
 go_meet
 case rel=>exact ⟨M,HE⟩):p:=h
theorem fw {p:Prop} (h:p:=by
 go_wp2_with fail
 go_meet
 case rel=>exact ⟨by rw [hid],_,HE⟩):p:=h
theorem fy {p:Prop} (h:p:=by
 rw [HLL.out.1]
 unfold gF
 split
 ·
  simp
 have:=HZ.out.2.2.1
 simp;omega):p:=h
theorem fA {p:Prop} (h:p:=by
 go_wp2_with fail
 go_meet
 case rel=>exact ⟨by rw [hd],rfl⟩):p:=h
theorem BQ {n:Nat} {K K':Nat→Pkt} (h:∀ i,i<n→K i=K' i):nN n K=nN n K':=by
 induction n with
 | zero=>rfl
 | succ n ih=>rw [kQ,kQ,ih (fun i hi=>h i (by omega)),h n (by omega)]
theorem yI (K:Nat→Pkt) (j:Nat):∀ m,nN j K++nN m (fun q=>K (j+1+q))=nN (j+m) (rmK K j)
 | 0=>by
  show nN j K++[]=nN j (rmK K j)
  rw [List.append_nil]
  exact BQ (fun i hi=>(oo hi).symm)
 | m+1=>by
  rw [kQ,←List.append_assoc,yI K j m,show j+(m+1)=j+m+1 by omega,kQ,pq (show j≤j+m by omega),show j+1+m=j+m+1 by omega]
theorem xk (gk n c k:Nat) (w:World) (hk:k≤n) (hc:n≤c) :
  (Instr.slice 37 (.slice (some ⟨gk,0,none⟩) n c) (some (.int .i64 (k:Int))) none none).run Tryz.prog w=.ok (.slice (some ⟨gk,if c=k then 0 else k*8,none⟩) (n-k) (c-k)) w:=by
 have h1:(k:Int)≤(n:Int):=by omega
 have h3:(0:Int)≤(k:Int):=by omega
 have h4:(n:Int)≤(c:Int):=by omega
 by_cases h5:c=k
 ·
  have h2:c-k=0:=by omega
  simp [go_sem,h1,h2,h3,h4,h5]
 have h2:¬ c-k=0:=by omega
 simp [go_sem,h1,h2,h3,h4,h5]
theorem zq:(Tryz.prog.info? 97).map (fun i=>(i.zero,i.size,i.bytes))=some (some (.agg zPk.cells),8,72):=by kernel_rfl
theorem jN.tail {w:World} {gk n j m:Nat} {K:Nat→Pkt} (h:jN w (some ⟨gk,0,none⟩) n K) (hm:j+1+m≤n):jN w (some ⟨gk,(j+1)*8,none⟩) m (fun q=>K (j+1+q)):=fun i hi =>
 ⟨gk,(j+1)*8,rfl,fun q hq=>by
  have:=h.cell (i:=j+1+i) (by omega) q hq
  rw [show 0+(j+1+i)*8+q=(j+1)*8+i*8+q by omega] at this
  exact this⟩
theorem CY {D:World} {gk n c j:Nat} {K:Nat→Pkt} (h:jN D (some ⟨gk,0,none⟩) n K) (hj:j<n) (hc:n≤c) (hn:n≤1048576) :
  ∃ a1 c1 W1,(Builtin.append_ #[37,37] 37 #[.slice (some ⟨D.heap.size,0,none⟩) 0 0,.slice (some ⟨gk,0,none⟩) j c]).run Tryz.prog (D.alloc (.cells #[] 97))=.ok (.slice a1 j c1) W1∧Below D.heap.size D W1 ∧
  ∃ a2 c2 W2,(Builtin.append_ #[37,37] 37 #[.slice a1 j c1,.slice (some ⟨gk,if c=j+1 then 0 else (j+1)*8,none⟩) (n-(j+1)) (c-(j+1))]).run Tryz.prog W1=.ok (.slice a2 (n-1) c2) W2∧OG 97 8 W2 D.heap.size a2 (n-1) c2 (nN (n-1) (rmK K j))∧Below D.heap.size D W2:=by
 have hlo:jN D (some ⟨gk,0,none⟩) j K:=fun i hi=>h i (by omega)
 obtain ⟨a1,c1,W1,r1,o1,b1⟩:=kt (V:=D) (c:=c) 37 97 _ 8 72 zq Tryz.underlying37 rfl (by decide) (by decide) (by omega) (ke j K) hlo.cs (oQ j K)
 refine ⟨a1,c1,W1,r1,b1,?_⟩
 have hrd:yl W1 (some ⟨gk,if c=j+1 then 0 else (j+1)*8,none⟩) (nN (n-(j+1)) (fun q=>K (j+1+q))):=by
  by_cases e:n=j+1
  ·
   rw [show n-(j+1)=0 by omega]
   intro q u hq
   simp [nN] at hq
  rw [if_neg (by omega)]
  exact ((h.up b1).tail (by omega)).cs
 obtain ⟨a2,c2,W2,r2,o2,t2,_⟩:=n9 (c:=c-(j+1)) 37 97 _ 8 72 zq Tryz.underlying37 rfl (by decide) (by decide) o1 b1.size (by omega) (ke _ _) hrd (oQ _ _)
 rw [yI] at o2
 rw [show j+(n-(j+1))=n-1 by omega] at r2 o2
 exact ⟨a2,c2,W2,r2,o2,b1.trans (t2.below b1.size (fun x hx=>(o1.blk x hx).1))⟩
theorem Bg (ts:List Pkt) (x:Pkt):(tV (ts.length+1) fun k=>(fsF (ts++[x]) k).frame)=(tV ts.length fun k=>(fsF ts k).frame)++x.frame.toList:=by
 rw [nI]
 congr 1
 ·
  exact CE (fun q hq=>by unfold fsF;rw [List.getElem?_append_left hq])
 unfold fsF;simp
theorem BK {w:World} {S Y:Swg} {b g6 n c:Nat} {Z1 Z2:World} {a:Option Addr} {xs:List Value} {cs:Array Value} (h:SpS w S Y b g6 Z1) (hh:jd Z1 b Y Y.nL) (ho:OG 74 5 Z1 b a n c xs) (hP:Put Z1 Z2 (w.heap.size+1) cs 40):jd Z2 w.heap.size Y Y.nL∧OG 74 5 Z2 w.heap.size a n c xs∧Below w.heap.size w Z2:=by
 have hlo:=h.lo
 exact ⟨(hh.box h.z hP.to ⟨by decide,by decide,by decide,by decide⟩ (hh.k.nW h.z (by decide)) (hh.l.nW h.z (by decide))).mono (by omega),(ho.fK hP.to (fun x hx hy=>ho.j7 (by decide) h.z (by simp at hy;rw [←hy];exact hx))).mono (by omega),h.bel.trans (hP.to.below h.bel.size (fun x hx=>by simp at hx;omega))⟩
structure SpY (S S' Y:Swg) (id:Int) (ts fs:List Pkt):Prop where
 n:Y.nK≤1048576
 cap:Y.nK≤Y.cK
 k:iT Y.nx Y.C.p Y.nK Y.K
 refs:∀ j,j<Y.nK→1≤(Y.K j).refs∧(Y.K j).refs≤12000
 cn:Cnt.Ok Y.C Y.N
 rel:∀ j,j<Y.nK→Cnt.Ok Y.C (kF Y.N (Y.K j).inn (Y.K j).p (-(Y.K j).cl))
 c:Y.C=S.C
 ax:(id=0∧ga S' Y∧fs=ts)∨(id≠0∧∃ j,j<Y.nK∧(Y.K j).id=id∧fs=ts++[Y.K j]∧(((Y.K j).refs≠1∧ga S' { Y with K:=kq Y.K j })∨((Y.K j).refs=1∧ga S' { Y with nK:=Y.nK-1,K:=rmK Y.K j,N:=kF Y.N (Y.K j).inn (Y.K j).p (-(Y.K j).cl) })))
theorem spY {S S' X X':Swg} {l' l2:Lng} {i:Nat} {id:Int} {ts gs fs:List Pkt} (hok:X.Ok) (hs:X.Small) (hcap:X.nK≤X.cK) (hC:X.C=S.C) (hal:gy l' l2) (efs:fs=ts++gs) (hA:ga S' X')
  (hc:(id=0∧X'=X.lane i l'∧gs=[])∨(id≠0∧∃ j,j<X.nK∧(X.K j).id=id∧gs=[X.K j]∧(((X.K j).refs≠1∧X'={ X.lane i l' with K:=kq X.K j })∨((X.K j).refs=1∧X'={ X.lane i l' with nK:=X.nK-1,K:=rmK X.K j,N:=kF X.N (X.K j).inn (X.K j).p (-(X.K j).cl) })))):SpY S S' (X.lane i l2) id ts fs:=by
 have HLA:=kW (ga.refl X) i hal
 refine ⟨hs.k,hcap,hok.k,fun j hj=>?_,hok.n,fun j hj=>(hok.rel hj).2,hC,?_⟩
 ·
  have h1:=hok.qt hj
  have h2:(X.nL:Int)≤4:=by rw [hok.nl];exact hok.n.c.num.p.2
  exact ⟨h1.1,by have:=h1.2;show (X.K j).refs≤12000;omega⟩
 rcases hc with ⟨q1,q2,q3⟩ | ⟨q1,j,q2,q3,q4,⟨q5,q6⟩ | ⟨q5,q6⟩⟩
 ·
  exact .inl ⟨q1,by rw [q2] at hA;exact hA.trans HLA,by rw [efs,q3,List.append_nil]⟩
 ·
  refine .inr ⟨q1,j,q2,q3,by rw [efs,q4];rfl,.inl ⟨q5,?_⟩⟩
  rw [q6] at hA
  exact hA.trans ⟨HLA.c,HLA.now,HLA.nx,HLA.nE,HLA.e,HLA.n,HLA.nK,rfl,HLA.nL,HLA.l,HLA.dr,HLA.lst⟩
 refine .inr ⟨q1,j,q2,q3,by rw [efs,q4];rfl,.inr ⟨q5,?_⟩⟩
 rw [q6] at hA
 exact hA.trans ⟨HLA.c,HLA.now,HLA.nx,HLA.nE,HLA.e,gx.refl _,rfl,rfl,HLA.nL,HLA.l,HLA.dr,HLA.lst⟩
theorem jd.newRow {w:World} {base b2 i n c:Nat} {Y:Swg} {a:Option Addr} {K:Nat→Pkt} (h:jd w base Y i) (ho:OG 97 8 w b2 a n c (nN n K)) (hb:base≤b2):jd w base { Y with aK:=a,nK:=n,cK:=c,K:=K } i :=
 ⟨h.e,h.n,(ho.vt (fun i hi=>s9 _ _ i hi)).mono hb,h.l,h.ls⟩
theorem jd.Ds {w:World} {base b2 i:Nat} {Y:Swg} {M:Cnt} (h:jd w base Y i) (hM:gR w b2 M) (hb:base≤b2):jd w base { Y with N:=M } i:=⟨h.e,hM.mono hb,h.k,h.l,h.ls⟩
theorem Cq (K:Nat→Pkt) (j:Nat):∀ q,kq K j q=if q=j then { K j with refs:=(K j).refs-1 } else K q:=fun q=>by
 unfold kq
 by_cases e:q=j
 ·
  subst e;rw [if_pos rfl]
 rw [if_neg e,if_neg e]
theorem Cw {g gk n:Nat} (h:g≠gk):g∉gF (some ⟨gk,0,none⟩) n:=by
 unfold gF
 split
 ·
  simp
 simp;exact h
theorem gR.Dq {w w':World} {base g:Nat} {N:Cnt} {cs:Array Value} {t:TypeId} (h:gR w base N) (hg:w.heap[g]?=some (.cells cs t (0,0))) (h2:2≠t) (h4:4≠t) (ht:Touch [g] w w'):gR w' base N :=
 ⟨h.u.fK ht (fun x hx hy=>h.u.nW hg h2 ((List.mem_singleton.1 hy)▸hx)),h.p.fK ht (fun x hx hy=>h.p.nW hg h4 ((List.mem_singleton.1 hy)▸hx))⟩
theorem xH (S S':Swg) (fs:List Pkt) (i:Nat) (w:World) (hs:S.Small) (hr:j4 w S) (hok:S.Ok) (hi:i<S.nL) (hm:lJ S S' i fs) :
  Calls Tryz.prog 20 #[.agg S.cells,.int .i64 (i:Int)] w fun e w'=>∃ S2 a c,e=.returned (.tuple #[.agg S2.cells,.slice a fs.length c])∧ga S' S2∧jd w' w.heap.size S2 S2.nL∧OG 74 5 w' w.heap.size a fs.length c (tV fs.length fun i=>(fsF fs i).frame)∧Below w.heap.size w w':=by
 have HM:Hid (lJ S S' i fs∧i<S.nL∧S.Ok):=⟨hm,hi,hok⟩
 have HR:Hid (j4 w S):=hr
 have HS:Hid S.Small:=hs
 obtain ⟨_,_,_,ht4,ht5⟩:=Bp hok
 have hiU:i<S.N.nU:=by have:=hok.nl;have:=hok.n.nU;omega
 have hiP:i<S.N.nP:=by have:=hok.nl;have:=hok.n.nP;omega
 obtain ⟨W,eW⟩:∃ W,(w.alloc (.cells S.cells 40)).alloc (.cells #[.int .i64 0,.int .i64 0,.int .i64 0,.int .i64 0,.int .i64 0,.int .i64 0,.int .i64 0,.int .i64 0,.int .i64 0,.slice none 0 0,.slice none 0 0,.int .i64 0,.slice none 0 0,.slice none 0 0,.slice none 0 0,.int .i64 0,.int .i64 0] 40)=W:=⟨_,rfl⟩
 have HX:Hid (Two w S.cells zSw 40 W):=by rw [←eW];exact Two.start _ _ _ _
 have HL:Hid (∀ j,j<17→W.cell? ⟨w.heap.size,0+j,none⟩=S.cells[j]?):=fun j _=>by rw [Nat.zero_add];exact fG HX.out.a j
 clear hs hr hok hm hi
 go_enter Tryz.func20,Tryz.ntmps20
 go_wp2_with (refine fP rfl 40 17 _ Tryz.underlying40 rfl fZ (.tmp 2) rfl (w.heap.size) 0 rfl S.cells rfl HL.out ?_)
 clear eW HL
 refine (xI S _ HS.out ht4 ht5 (HR.out.up HX.out.bel)).mono ?_
 rintro e w3 ⟨P,rfl,aP,oP,hbl⟩
 replace HX:Hid (Two w S.cells zSw 40 w3∧w.heap.size+1<W.heap.size∧W.heap.size≤w3.heap.size):=⟨HX.out.up hbl,fH HX.out.b,hbl.size⟩
 have HP:Hid (ga S P∧ic w3 W.heap.size P):=⟨aP,oP⟩
 clear aP oP hbl
 obtain ⟨b,eb⟩:∃ b,W.heap.size=b:=⟨_,rfl⟩
 rw [eb] at HX HP
 clear eb
 have HG:Hid ((w3.alloc (.cells #[.int .i64 0,.int .i64 0,.int .i64 0,.int .i64 0,.int .i64 0,.int .i64 0,.int .i64 0,.int .i64 0,.int .i64 0,.slice none 0 0,.slice none 0 0,.int .i64 0,.slice none 0 0,.slice none 0 0,.slice none 0 0,.int .i64 0,.int .i64 0] 40)).heap[w3.heap.size]?=some (.cells #[.int .i64 0,.int .i64 0,.int .i64 0,.int .i64 0,.int .i64 0,.int .i64 0,.int .i64 0,.int .i64 0,.int .i64 0,.slice none 0 0,.slice none 0 0,.int .i64 0,.slice none 0 0,.slice none 0 0,.slice none 0 0,.int .i64 0,.int .i64 0] 40 (0,0))):=fL _ _
 go_wp2_with (refine fJ rfl 40 (.tmp 6) (.tmp 19) rfl (w3.heap.size) 0 rfl (.agg P.cells) rfl 17 rfl 40 _ HG.out fZ (Nat.le_of_ble_eq_true rfl) (Swg.lL _) ?_)
 intro X0 hP
 replace hP:Put _ X0 w3.heap.size P.cells 40:=hP.cast rfl
 have hbl:Below w3.heap.size w3 X0:=((Below.refl _ _).alloc (Nat.le_refl _) _).trans (hP.to.below (by simp) (fun x hx=>by simp at hx;omega))
 have hT:=HX.out.1.up hbl
 have HX0:Hid (SpS w S P b w3.heap.size X0∧ic X0 b P):=⟨⟨hT.a,hT.b,hP.blk,hT.bel,HX.out.2.1,HX.out.2.2⟩,HP.out.2.up hbl⟩
 have HPA:Hid (ga S P):=HP.out.1
 clear hP HG hbl hT HX HP
 obtain ⟨g6,e6⟩:∃ g,w3.heap.size=g:=⟨_,rfl⟩
 rw [e6] at HX0 ⊢
 clear e6
 obtain ⟨X1,e1⟩:∃ V,X0.alloc (.cells #[] 74)=V:=⟨_,rfl⟩
 have HX1:Hid (SpS w S P b g6 X1∧ic X1 b P∧OG 74 5 X1 b (some ⟨X0.heap.size,0,none⟩) 0 0 []):=by
  rw [←e1]
  have hb:Below X0.heap.size X0 (X0.alloc (.cells #[] 74)):=(Below.refl _ _).alloc (Nat.le_refl _) _
  exact ⟨HX0.out.1.up hb,HX0.out.2.up hb,OG.new _ _ _ _ (Nat.le_of_lt HX0.out.1.size)⟩
 clear HX0
 have HLc:Hid (∀ j,j<7→X1.cell? ⟨w.heap.size,0+j,none⟩=S.C.cells[j]?):=fun j hj=>by
  rw [Nat.zero_add,fG HX1.out.1.a]
  have:j=0∨j=1∨j=2∨j=3∨j=4∨j=5∨j=6:=by omega
  rcases this with rfl | rfl | rfl | rfl | rfl | rfl | rfl <;> rfl
 have HLn:Hid (∀ j,j<3→X1.cell? ⟨w.heap.size,10+j,none⟩=S.N.cells[j]?):=fun j hj=>by
  rw [fG HX1.out.1.a]
  have:j=0∨j=1∨j=2:=by omega
  rcases this with rfl | rfl | rfl <;> rfl
 go_wp2_with (first | refine fP rfl 34 7 _ Tryz.underlying34 rfl zC (.tmp 22) rfl (w.heap.size) 0 rfl S.C.cells rfl HLc.out ?_ | refine fP rfl 36 3 _ Tryz.underlying36 rfl mZ (.tmp 24) rfl (w.heap.size) 10 rfl S.N.cells rfl HLn.out ?_)
 clear HLc HLn e1
 refine (xJ S.C S.N i _ hiU hiP HS.out.n (HR.out.n.up HX1.out.1.bel)).mono ?_
 rintro e w5 ⟨M,rfl,oM,hb5,aM⟩
 obtain ⟨fl,efl⟩:∃ f,flN S.C S.N i=f:=⟨_,rfl⟩
 rw [efl]
 have Hfl:Hid (flN S.C S.N i=fl):=efl
 clear efl
 obtain ⟨gl,el⟩:∃ g,X0.heap.size=g:=⟨_,rfl⟩
 rw [el] at HX1 ⊢
 clear el
 have hz1:=HX1.out.1.size
 have HX5:Hid (SpS w S P b g6 w5∧ic w5 b { P with N:=M }∧OG 74 5 w5 b (some ⟨gl,0,none⟩) 0 0 []∧gx (lW S.C S.N i) M):=⟨HX1.out.1.up hb5,(HX1.out.2.1.up hb5).Ds HX1.out.2.1 oM (by omega),HX1.out.2.2.up hb5,aM⟩
 clear HX1 oM hb5 aM hz1 hiU hiP ht4 ht5
 have HG8:Hid ((w5.alloc (.cells #[.slice none 0 0,.int .i64 0,.slice none 0 0] 36)).heap[w5.heap.size]?=some (.cells #[.slice none 0 0,.int .i64 0,.slice none 0 0] 36 (0,0))):=fL _ _
 go_wp2_with (refine fJ rfl 36 (.tmp 8) (.tmp 28) rfl (w5.heap.size) 0 rfl (.agg M.cells) rfl 3 rfl 36 _ HG8.out mZ (Nat.le_of_ble_eq_true rfl) (Cnt.lL _) ?_)
 intro X2 hP
 replace hP:Put _ X2 w5.heap.size M.cells 36:=hP.cast rfl
 have hbl:Below w5.heap.size w5 X2:=((Below.refl _ _).alloc (Nat.le_refl _) _).trans (hP.to.below (by simp) (fun x hx=>by simp at hx;omega))
 have HX2:Hid (SpS w S P b g6 X2∧ic X2 b { P with N:=M }∧OG 74 5 X2 b (some ⟨gl,0,none⟩) 0 0 []∧gx (lW S.C S.N i) M∧X2.heap[w5.heap.size]?=some (.cells M.cells 36 (0,0))):=⟨HX5.out.1.up hbl,HX5.out.2.1.up hbl,HX5.out.2.2.1.up hbl,HX5.out.2.2.2,hP.blk⟩
 clear hP hbl HX5 HG8
 obtain ⟨g8,e8⟩:∃ g,w5.heap.size=g:=⟨_,rfl⟩
 rw [e8] at HX2 ⊢
 clear e8
 have HL8:Hid (∀ j,j<3→X2.cell? ⟨g8,0+j,none⟩=M.cells[j]?):=fun j _=>by rw [Nat.zero_add];exact fG HX2.out.2.2.2.2 j
 have HO6:Hid (X2.heap[g6]?=some (.cells P.cells 40 (0,0))):=HX2.out.1.o
 go_wp2_with (first | refine fP rfl 36 3 _ Tryz.underlying36 rfl mZ (.tmp 8) rfl g8 0 rfl M.cells rfl HL8.out ?_ | refine fJ rfl 36 (.tmp 31) (.tmp 30) rfl g6 10 rfl (.agg M.cells) rfl 3 rfl 40 _ HO6.out mZ (Nat.le_of_ble_eq_true rfl) (Cnt.lL _) ?_)
 intro X3 hP
 replace hP:Put X2 X3 g6 ({ P with N:=M }:Swg).cells 40:=hP.cast rfl
 have hAX:ga (S.flip i) { P with N:=M }:=by
  have h:=HPA.out
  exact ⟨h.c,h.now,h.nx,h.nE,h.e,HX2.out.2.2.2.1,h.nK,h.k,h.nL,h.l,h.dr,h.lst⟩
 obtain ⟨X,eX⟩:∃ X:Swg,{ P with N:=M }=X:=⟨_,rfl⟩
 have eXN:X.N=M:=by rw [←eX]
 have HX3:Hid (SpS w S X b g6 X3∧ic X3 b X∧OG 74 5 X3 b (some ⟨gl,0,none⟩) 0 0 []):=by
  rw [←eX]
  exact ⟨HX2.out.1.put hP,HX2.out.2.1.off HX2.out.1.o hP.to,HX2.out.2.2.1.fK hP.to (fun x hx hy=>HX2.out.2.2.1.j7 (by decide) HX2.out.1.o (by simp at hy;rw [←hy];exact hx))⟩
 have HN8:Hid (X3.heap[g8]?=some (.cells X.N.cells 36 (0,0))∧gx (lW S.C S.N i) X.N∧ga (S.flip i) X):=by
  rw [eXN,←eX]
  exact ⟨(hP.to.block g8 (fH HX2.out.2.2.2.2) (fun hy=>iz HX2.out.1.o HX2.out.2.2.2.2 (by decide) (by simpa using hy:g8=g6).symm)).trans HX2.out.2.2.2.2,HX2.out.2.2.2.1,hAX⟩
 clear hP HX2 HL8 HO6 hAX eX eXN
 go_upto_if 32 with fail
 go_cut [7,10] (fun s7 _ wc=>∃ a c,s7=.slice a (jF S.C S.N i).length c∧Hid (SpS w S X b g6 wc∧ic wc b X∧OG 74 5 wc b a (jF S.C S.N i).length c (tV (jF S.C S.N i).length fun k=>(fsF (jF S.C S.N i) k).frame)))
 case first =>
  cases fl
  ·
   have e1:jF S.C S.N i=[]:=by unfold jF;rw [Hfl.out];simp
   go_wp2_with fail
   go_meet
   case rel=>rw [e1];exact ⟨_,_,rfl,HX3.out⟩
  obtain ⟨pb,epb⟩:∃ b,gJ S.C (S.N.u i) (S.N.p i)=b:=⟨_,rfl⟩
  have e1:jF S.C S.N i=[C9 pb]:=by unfold jF;rw [if_pos Hfl.out,epb]
  have hpi:i<X.N.nP:=by
   rw [HN8.out.2.1.nP]
   show i<S.N.nP
   have:=HM.out.2.2.nl
   have:=HM.out.2.2.n.nP
   have:=HM.out.2.1
   omega
  have hpi':(i:Int)<(X.N.nP:Int):=by omega
  have hp0:(0:Int)≤(i:Int):=by omega
  have epv:X.N.p i=pb:=by
   rw [HN8.out.2.1.p]
   show (if i=i then gJ S.C (S.N.u i) (S.N.p i) else S.N.p i)=pb
   rw [if_pos rfl,epb]
  obtain ⟨V,eV⟩:∃ V,X3.alloc (.cells #[.int .i64 3,.int .i64 0,.int .i64 0,.int .i64 2,.string ⟨#[]⟩] 74)=V:=⟨_,rfl⟩
  have HV:Hid (SpS w S X b g6 V∧ic V b X∧OG 74 5 V b (some ⟨gl,0,none⟩) 0 0 []∧V.heap[g8]?=some (.cells X.N.cells 36 (0,0))∧V.heap[X3.heap.size]?=some (.cells #[.int .i64 3,.int .i64 0,.int .i64 0,.int .i64 2,.string ⟨#[]⟩] 74 (0,0))∧gl<X3.heap.size∧g8<X3.heap.size):=by
   have hb:Below X3.heap.size X3 V:=by rw [←eV];exact (Below.refl _ _).alloc (Nat.le_refl _) _
   exact ⟨HX3.out.1.up hb,HX3.out.2.1.up hb,HX3.out.2.2.up hb,(hb.block _ (fH HN8.out.1)).trans HN8.out.1,by rw [←eV];exact fL _ _,(HX3.out.2.2.blk gl (by simp [ij])).2,fH HN8.out.1⟩
  rcases HV.out.2.1.n.p with e | ⟨gp,eP,hbp,pa,p1,p2,p3⟩
  ·
   omega
  have c82:V.cell? ⟨g8,2,none⟩=some (.slice (some ⟨gp,0,none⟩) X.N.nP X.N.cP):=by rw [←eP];exact fG HV.out.2.2.2.1 2
  have cp:V.cell? ⟨gp,i,none⟩=some (.bool pb):=by rw [←epv];exact (fG p1 i).trans (p3 i hpi)
  have HX3s:Hid (b<X3.heap.size):=HX3.out.1.size
  clear p1 p2 p3 hbp eP epv epb Hfl HX3 HN8
  cases pb
  ·
   have HLf:Hid (∀ j,j<5→V.cell? ⟨X3.heap.size,0+j,none⟩=(#[.int .i64 3,.int .i64 0,.int .i64 0,.int .i64 2,.string ⟨#[]⟩]:Array Value)[j]?):=fun j _=>by rw [Nat.zero_add];exact fG HV.out.2.2.2.2.1 j
   obtain ⟨g1,c3,Y,hrun,hu,ht,hg⟩:=ku 41 74 _ 5 48 rI Tryz.underlying41 rfl (by decide) (by decide) HV.out.2.2.1 (by omega) (Nat.le_of_lt HV.out.1.size) (#[.int .i64 3,.int .i64 0,.int .i64 0,.int .i64 2,.string ⟨#[]⟩]) rfl (by simp [Value.oneCell'])
   have HY:Hid (SpS w S X b g6 Y∧ic Y b X∧OG 74 5 Y b (some ⟨g1,0,none⟩) (0+1) c3 ([]++[.int .i64 3,.int .i64 0,.int .i64 0,.int .i64 2,.string ⟨#[]⟩])):=⟨HV.out.1.jA HV.out.2.2.1 ht,HV.out.2.1.jA HV.out.2.2.1 ht,hu⟩
   clear hu ht hg
   go_wp2_with (first | refine gZ 74 5 me rfl (.tmp 10) (.tmp 33) rfl #[.int .i64 3,.int .i64 0,.int .i64 0,.int .i64 2,.string ⟨#[]⟩] _ rfl rfl rfl rfl rfl (by simp [Value.oneCell']) (eV▸?_) | refine fP rfl 74 5 _ Tryz.underlying74 rfl me (.tmp 10) rfl X3.heap.size 0 rfl #[.int .i64 3,.int .i64 0,.int .i64 0,.int .i64 2,.string ⟨#[]⟩] rfl HLf.out ?_ | (at_builtin;refine Lib.wpList_append_run _ rfl _ _ _ _ rfl _ _ rfl rfl _ _ hrun ?_))
   go_meet
   case rel=>rw [e1];exact ⟨_,_,rfl,HY.out⟩
  have HLf:Hid (V.heap[X3.heap.size]?=some (.cells #[.int .i64 3,.int .i64 0,.int .i64 0,.int .i64 2,.string ⟨#[]⟩] 74 (0,0))):=HV.out.2.2.2.2.1
  go_wp2_with (first | refine gZ 74 5 me rfl (.tmp 10) (.tmp 33) rfl #[.int .i64 3,.int .i64 0,.int .i64 0,.int .i64 2,.string ⟨#[]⟩] _ rfl rfl rfl rfl rfl (by simp [Value.oneCell']) (eV▸?_) | refine fJ rfl 2 (.tmp 39) (.const (.int .i64 2)) rfl X3.heap.size 0 rfl (.int .i64 2) rfl 1 rfl 74 _ HLf.out (by kernel_rfl) (Nat.le_of_ble_eq_true rfl) (by simp [Value.cells,Value.oneCell']) ?_)
  intro V2 hP
  replace hP:Put V V2 X3.heap.size #[.int .i64 2,.int .i64 0,.int .i64 0,.int .i64 2,.string ⟨#[]⟩] 74:=hP.cast rfl
  have HV2:Hid (SpS w S X b g6 V2∧ic V2 b X∧OG 74 5 V2 b (some ⟨gl,0,none⟩) 0 0 []∧∀ j,j<5→V2.cell? ⟨X3.heap.size,0+j,none⟩=(#[.int .i64 2,.int .i64 0,.int .i64 0,.int .i64 2,.string ⟨#[]⟩]:Array Value)[j]?):=by
   have hz:=HV.out.2.2.2.2.2.1
   refine ⟨HV.out.1.far HLf.out (by decide) (by have:=HX3s.out;omega) hP.to,HV.out.2.1.CU HLf.out hP.to,HV.out.2.2.1.fK hP.to (fun x hx hy=>by simp [ij] at hx hy;omega),fun j _=>by rw [Nat.zero_add];exact fG hP.blk j⟩
  clear hP HV c82 cp HLf
  obtain ⟨g1,c3,Y,hrun,hu,ht,hg⟩:=ku 41 74 _ 5 48 rI Tryz.underlying41 rfl (by decide) (by decide) HV2.out.2.2.1 (by omega) (Nat.le_of_lt HV2.out.1.size) (#[.int .i64 2,.int .i64 0,.int .i64 0,.int .i64 2,.string ⟨#[]⟩]) rfl (by simp [Value.oneCell'])
  have HY:Hid (SpS w S X b g6 Y∧ic Y b X∧OG 74 5 Y b (some ⟨g1,0,none⟩) (0+1) c3 ([]++[.int .i64 2,.int .i64 0,.int .i64 0,.int .i64 2,.string ⟨#[]⟩])):=⟨HV2.out.1.jA HV2.out.2.2.1 ht,HV2.out.2.1.jA HV2.out.2.2.1 ht,hu⟩
  clear hu ht hg
  go_wp2_with (first | refine fP rfl 74 5 _ Tryz.underlying74 rfl me (.tmp 10) rfl X3.heap.size 0 rfl #[.int .i64 2,.int .i64 0,.int .i64 0,.int .i64 2,.string ⟨#[]⟩] rfl HV2.out.2.2.2 ?_ | (at_builtin;refine Lib.wpList_append_run _ rfl _ _ _ _ rfl _ _ rfl rfl _ _ hrun ?_))
  go_meet
  case rel=>rw [e1];exact ⟨_,_,rfl,HY.out⟩
 case rest =>
  obtain ⟨a,c,e7,HA⟩:=hcut
  subst e7
  obtain ⟨gs,hn,efs⟩:=HM.out.1.next
  obtain ⟨X',hnX,hAX'⟩:=hn.pQ HM.out.2.1 HN8.out.2.2
  obtain ⟨l',id,ht,hcase⟩:=hnX
  have hiX:i<X.nL:=by rw [HN8.out.2.2.nL];exact HM.out.2.1
  have HI:Hid (i<X.nL∧X.Ok∧X.Small):=⟨hiX,HN8.out.2.2.ok1 (HM.out.2.2.flip i),HN8.out.2.2.small ⟨HS.out.e,⟨HS.out.n.u,HS.out.n.p⟩,HS.out.k,HS.out.b,HS.out.l,HS.out.ls⟩⟩
  have HC:Hid (fs=jF S.C S.N i++gs∧ga S' X'∧mz (X.L i) l' id∧((id=0∧X'=X.lane i l'∧gs=[])∨(id≠0∧∃ j,j<X.nK∧(X.K j).id=id∧gs=[X.K j]∧(((X.K j).refs≠1∧X'={ X.lane i l' with K:=kq X.K j })∨((X.K j).refs=1∧X'={ X.lane i l' with nK:=X.nK-1,K:=rmK X.K j,N:=kF X.N (X.K j).inn (X.K j).p (-(X.K j).cl) }))))):=⟨efs,hAX',ht,hcase⟩
  obtain ⟨ts,ets⟩:∃ l,jF S.C S.N i=l:=⟨_,rfl⟩
  rw [ets] at HA HC ⊢
  obtain ⟨gL,curL,eL,hbL,kL,hszL,hcL⟩:=HA.out.2.1.Cb hiX
  have HLL:Hid (X.aL=some ⟨gL,0,none⟩∧b≤gL∧gL<wc.heap.size):=⟨eL,hbL,fH kL⟩
  have c14:wc.cell? ⟨g6,14,none⟩=some (.slice (some ⟨gL,0,none⟩) X.nL X.cL):=by rw [←eL];exact fG HA.out.1.o 14
  have HLl:Hid (∀ q,q<8→wc.cell? ⟨gL,i*8+q,none⟩=(X.L i).cells[q]?):=fun q hq=>(fG kL _).trans (hcL i hiX q hq)
  have hi1:(i:Int)<(X.nL:Int):=by omega
  have hi0:(0:Int)≤(i:Int):=by omega
  obtain ⟨V,eV⟩:∃ V,wc.alloc (.cells (X.L i).cells 102)=V:=⟨_,rfl⟩
  have hbV:Below wc.heap.size wc V:=by rw [←eV];exact (Below.refl _ _).alloc (Nat.le_refl _) _
  have HV:Hid (SpS w S X b g6 V∧ic V b X∧OG 74 5 V b a ts.length c (tV ts.length fun k=>(fsF ts k).frame)∧V.heap[wc.heap.size]?=some (.cells (X.L i).cells 102 (0,0))∧b≤wc.heap.size):=⟨HA.out.1.up hbV,HA.out.2.1.up hbV,HA.out.2.2.up hbV,by rw [←eV];exact fL _ _,Nat.le_of_lt HA.out.1.size⟩
  have HXC:Hid (X.C=S.C):=HN8.out.2.2.c
  clear eL hbL kL hszL hcL hn efs hAX' ht hcase ets hbV HA HX3 HN8 hiX
  go_upto_region 12 with (first | refine fP rfl 102 8 _ Tryz.underlying102 rfl rH (.tmp 47) rfl gL (i*8) (by simp [Act.eval]) (X.L i).cells rfl HLl.out ?_ | refine gZ 102 8 rH rfl (.tmp 11) (.tmp 48) rfl (X.L i).cells _ rfl rfl rfl rfl rfl (Lng.lL _) (eV▸?_))
  obtain ⟨g11,e11⟩:∃ g,wc.heap.size=g:=⟨_,rfl⟩
  rw [e11] at HV HLL ⊢
  clear e11 eV c14 HLl
  obtain ⟨l,el⟩:∃ l,X.L i=l:=⟨_,rfl⟩
  have Hel:Hid (X.L i=l):=el
  rw [el] at HV HC
  clear el
  go_cut [57] (fun v wx=>v=.bool (decide (0<l.nT∧l.st=false))∧V=wx)
  case first =>
   have c0:V.cell? ⟨g11,0,none⟩=some (.bool l.st):=fG HV.out.2.2.2.1 0
   have c1:V.cell? ⟨g11,1,none⟩=some (.slice l.aT l.nT l.cT):=fG HV.out.2.2.2.1 1
   by_cases h1:0<l.nT
   ·
    have h1':(0:Int)<(l.nT:Int):=by omega
    cases hst:l.st
    ·
     rw [hst] at c0
     have hd:decide (0<l.nT∧l.st=false)=true:=by simp [h1,hst]
     exact fA
    rw [hst] at c0
    have hd:decide (0<l.nT∧l.st=false)=false:=by simp [hst]
    exact fA
   have h0:l.nT=0:=by omega
   rw [h0] at c1
   have hd:decide (0<l.nT∧l.st=false)=false:=by simp [h0]
   exact fA
  case rest =>
   obtain ⟨e57,rfl⟩:=hcut
   subst e57
   go_upto_if 57 with fail
   go_cut [12,13,14,15] (fun s12 _ _ _ wd=>s12=.int .i64 id∧∃ l2,Hid (SpS w S X b g6 wd∧jd wd b X i∧OG 74 5 wd b a ts.length c (tV ts.length fun k=>(fsF ts k).frame)∧wd.heap[g11]?=some (.cells l2.cells 102 (0,0))∧gy l' l2∧TyL wd b l2))
   case first =>
    have hOl:iq V b l:=by rw [←Hel.out];exact HV.out.2.1.l.ls i HI.out.1
    have hsl:l.Small:=by rw [←Hel.out];exact HI.out.2.2.ls i HI.out.1
    have hlk:lY X.nK X.K l:=by rw [←Hel.out];exact HI.out.2.1.l i HI.out.1
    have HO:Hid (iq V b l∧l.Small∧lY X.nK X.K l):=⟨hOl,hsl,hlk⟩
    have c1:V.cell? ⟨g11,1,none⟩=some (.slice l.aT l.nT l.cT):=fG HV.out.2.2.2.1 1
    have hzV:b<V.heap.size:=HV.out.1.size
    have h11:g11<V.heap.size:=fH HV.out.2.2.2.1
    have HZ:Hid (b<V.heap.size∧g11<V.heap.size∧gL<g11∧b≤g11):=⟨hzV,h11,HLL.out.2.2,HV.out.2.2.2.2⟩
    clear hOl hsl hlk hzV h11
    rcases HC.out.2.2.1 with ⟨h1,h2,hid,hl'⟩ | ⟨hno,M',x,s,hp,hh⟩
    ·
     --[W1
     have hd:decide (0<l.nT∧l.st=false)=true:=by simp [h1,h2]
     rw [hd]
     obtain ⟨gt,eT,ct0⟩:=HO.out.1.t.some (by omega)
     have hOT:OI V b (some ⟨gt,0,none⟩) l.nT l.cT l.t:=by rw [←eT];exact HO.out.1.t
     obtain ⟨a',c',W',hrun,oT,hbW⟩:=Aj hOT (by omega) HO.out.2.1.t
     rw [eT] at c1
     have h1':(0:Int)<(l.nT:Int):=by omega
     have hrc:∀ wx,(Instr.slice 25 (.slice (some ⟨gt,0,none⟩) l.nT l.cT) (some (.int .i64 1)) none none).run Tryz.prog wx=.ok (.slice (some ⟨gt,nX 0 l.cT,none⟩) (l.nT-1) (l.cT-1)) wx:=fun wx=>nc gt 0 _ l.nT l.cT wx (by omega) rfl
     obtain ⟨Va,eVa⟩:∃ Va,V.alloc (.cells #[] 2)=Va:=⟨_,rfl⟩
     have c1a:Va.cell? ⟨g11,1,none⟩=some (.slice (some ⟨gt,0,none⟩) l.nT l.cT):=by
      rw [←eVa,fG ((gg _ HZ.out.2.1).trans HV.out.2.2.2.1) 1,←eT];rfl
     rw [eVa] at hrun
     have k11:W'.heap[g11]?=some (.cells l.cells 102 (0,0)):=(hbW.block _ HZ.out.2.1).trans HV.out.2.2.2.1
     have HK:Hid (W'.heap[g11]?=some (.cells l.cells 102 (0,0))∧SpS w S X b g6 W'∧jd W' b X i∧OG 74 5 W' b a ts.length c (tV ts.length fun k=>(fsF ts k).frame)∧TyL W' b { l with aT:=a',nT:=l.nT-1,cT:=c',t:=fun k=>l.t (k+1) }):=⟨k11,HV.out.1.up hbW,(HV.out.2.1.half i).up hbW,HV.out.2.2.1.up hbW,(HO.out.1.g.ty.up hbW).CW (OG.mono (t:=2) (sz:=1) oT (Nat.le_of_lt HZ.out.1))⟩
     clear hbW oT k11 hOT eT hd
     go_wp2_with (first | (at_builtin;refine Lib.wpList_append_run _ rfl _ _ _ _ rfl _ _ rfl rfl _ _ hrun ?_) | refine fJ rfl 25 (.tmp 67) (.tmp 66) rfl g11 1 rfl (.slice a' (l.nT-1) c') rfl 1 rfl 102 _ HK.out.1 zE (Nat.le_of_ble_eq_true rfl) (by simp [Value.cells,Value.oneCell']) ?_)
     intro W2 hP
     replace hP:Put W' W2 g11 ({ l with aT:=a',nT:=l.nT-1,cT:=c',t:=fun k=>l.t (k+1) }:Lng).cells 102:=hP.cast rfl
     have HE:Hid (SpS w S X b g6 W2∧jd W2 b X i∧OG 74 5 W2 b a ts.length c (tV ts.length fun k=>(fsF ts k).frame)∧W2.heap[g11]?=some (.cells ({ l with aT:=a',nT:=l.nT-1,cT:=c',t:=fun k=>l.t (k+1) }:Lng).cells 102 (0,0))∧gy l' { l with aT:=a',nT:=l.nT-1,cT:=c',t:=fun k=>l.t (k+1) }∧TyL W2 b { l with aT:=a',nT:=l.nT-1,cT:=c',t:=fun k=>l.t (k+1) }):=by
      refine ⟨HK.out.2.1.far HK.out.1 (by decide) HZ.out.2.2.2 hP.to,HK.out.2.2.1.box HK.out.1 hP.to ⟨by decide,by decide,by decide,by decide⟩ (HK.out.2.2.1.k.nW HK.out.1 (by decide)) ?_,HK.out.2.2.2.1.fK hP.to (fun x hx hy=>HK.out.2.2.2.1.j7 (by decide) HK.out.1 (by simp at hy;rw [←hy];exact hx)),hP.blk,?_,HK.out.2.2.2.2.far hP.to (fun x hx=>(List.mem_singleton.1 hx)▸⟨_,_,HK.out.1,by decide,by decide⟩)⟩
      · exact fy
      rw [hl']
      exact ⟨rfl,rfl,rfl,rfl,rfl,rfl,Alike.refl _⟩
     clear hP HK
     exact fw
    ·
     have hd:decide (0<l.nT∧l.st=false)=false:=by simp only [decide_eq_false_iff_not];exact hno
     rw [hd]
     have HLr:Hid (∀ j,j<5→V.cell? ⟨g11,3+j,none⟩=l.R.cells[j]?):=rdR HV.out.2.2.2.1
     have HPk:Hid (mm l.R M' x s):=hp
     have HHh:Hid (x=-1∧id=0∧l'={ l with R:=M' }∨∃ c:Nat,x=(c:Int)∧id=l.uz c 0∧l'=l.DA c M'):=hh
     clear hd hp hh c1 hno
     go_wp2_with (refine fP rfl 100 5 _ Tryz.underlying100 rfl rD (.tmp 69) rfl g11 3 rfl l.R.cells rfl HLr.out ?_)
     refine (rC l.R M' x s _ HO.out.2.1.r HO.out.1.g.rd.r HO.out.2.2.r HPk.out).mono ?_
     rintro e w7 ⟨R2,rfl,oR,hb7,aR⟩
     have z7:=hb7.size
     have HW7:Hid (SpS w S X b g6 w7∧ic w7 b X∧OG 74 5 w7 b a ts.length c (tV ts.length fun k=>(fsF ts k).frame)∧w7.heap[g11]?=some (.cells l.cells 102 (0,0))∧iQ w7 V.heap.size R2∧Alike M' R2∧iq w7 b l∧g11<w7.heap.size):=⟨HV.out.1.up hb7,HV.out.2.1.up hb7,HV.out.2.2.1.up hb7,(hb7.block _ HZ.out.2.1).trans HV.out.2.2.2.1,oR,aR,HO.out.1.up hb7,by have:=HZ.out.2.1;omega⟩
     clear oR aR hb7 z7 HLr
     have HG13:Hid ((w7.alloc (.cells #[.slice none 0 0,.slice none 0 0,.int .i64 0,.bool false,.slice none 0 0] 100)).heap[w7.heap.size]?=some (.cells #[.slice none 0 0,.slice none 0 0,.int .i64 0,.bool false,.slice none 0 0] 100 (0,0))):=fL _ _
     go_wp2_with (refine fJ rfl 100 (.tmp 13) (.tmp 72) rfl (w7.heap.size) 0 rfl (.agg R2.cells) rfl 5 rfl 100 _ HG13.out rD (Nat.le_of_ble_eq_true rfl) (by simp [Value.cells,Rnd.cells,Value.oneCell']) ?_)
     intro Y0 hP
     replace hP:Put _ Y0 w7.heap.size R2.cells 100:=hP.cast rfl
     have hbl:Below w7.heap.size w7 Y0:=((Below.refl _ _).alloc (Nat.le_refl _) _).trans (hP.to.below (by simp) (fun x hx=>by simp at hx;omega))
     have HY0:Hid (SpS w S X b g6 Y0∧ic Y0 b X∧OG 74 5 Y0 b a ts.length c (tV ts.length fun k=>(fsF ts k).frame)∧Y0.heap[g11]?=some (.cells l.cells 102 (0,0))∧iQ Y0 V.heap.size R2∧Alike M' R2∧iq Y0 b l):=⟨HW7.out.1.up hbl,HW7.out.2.1.up hbl,HW7.out.2.2.1.up hbl,(hbl.block _ HW7.out.2.2.2.2.2.2.2).trans HW7.out.2.2.2.1,HW7.out.2.2.2.2.1.up hbl,HW7.out.2.2.2.2.2.1,HW7.out.2.2.2.2.2.2.1.up hbl⟩
     have HL13:Hid (∀ j,j<5→Y0.cell? ⟨w7.heap.size,0+j,none⟩=R2.cells[j]?):=fun j _=>by rw [Nat.zero_add];exact fG hP.blk j
     have H11:Hid (Y0.heap[g11]?=some (.cells l.cells 102 (0,0))):=HY0.out.2.2.2.1
     clear hP hbl HW7 HG13
     go_wp2_with (first | refine fP rfl 100 5 _ Tryz.underlying100 rfl rD (.tmp 13) rfl (w7.heap.size) 0 rfl R2.cells rfl HL13.out ?_ | refine fJ rfl 100 (.tmp 76) (.tmp 75) rfl g11 3 rfl (.agg R2.cells) rfl 5 rfl 102 _ H11.out rD (Nat.le_of_ble_eq_true rfl) (by simp [Value.cells,Rnd.cells,Value.oneCell']) ?_)
     intro Y1 hP
     replace hP:Put Y0 Y1 g11 ({ l with R:=R2 }:Lng).cells 102:=hP.cast rfl
     have hL11:g11∉gF X.aL (X.nL*8):=fy
     have HY1:Hid (SpS w S X b g6 Y1∧jd Y1 b X i∧OG 74 5 Y1 b a ts.length c (tV ts.length fun k=>(fsF ts k).frame)∧Y1.heap[g11]?=some (.cells ({ l with R:=R2 }:Lng).cells 102 (0,0))∧Alike M' R2∧TyL Y1 b { l with R:=R2 }∧iq Y1 b l∧iQ Y1 V.heap.size R2):=by
      have hk:=HY0.out.2.1.half i
      have hoff:Bo [g11] Y0:=fun x hx=>(List.mem_singleton.1 hx)▸⟨_,_,H11.out,by decide,by decide⟩
      refine ⟨HY0.out.1.far H11.out (by decide) HZ.out.2.2.2 hP.to,hk.box H11.out hP.to ⟨by decide,by decide,by decide,by decide⟩ (hk.k.nW H11.out (by decide)) hL11,HY0.out.2.2.1.fK hP.to (fun x hx hy=>HY0.out.2.2.1.j7 (by decide) H11.out (by simp at hy;rw [←hy];exact hx)),hP.blk,HY0.out.2.2.2.2.2.1,(HY0.out.2.2.2.2.2.2.g.ty.Cy HY0.out.2.2.2.2.1 (Nat.le_of_lt HZ.out.1)).far hP.to hoff,HY0.out.2.2.2.2.2.2.box H11.out (by decide) (by decide) hP.to,HY0.out.2.2.2.2.1.Dr hoff hP.to⟩
     clear hP HL13 H11 HY0
     rcases HHh.out with ⟨hx,hid,hl'⟩ | ⟨cl,hx,hid,hl'⟩
     ·
      --[W2
      subst hx
      have HE:Hid (SpS w S X b g6 Y1∧jd Y1 b X i∧OG 74 5 Y1 b a ts.length c (tV ts.length fun k=>(fsF ts k).frame)∧Y1.heap[g11]?=some (.cells ({ l with R:=R2 }:Lng).cells 102 (0,0))∧gy l' { l with R:=R2 }∧TyL Y1 b { l with R:=R2 }):=⟨HY1.out.1,HY1.out.2.1,HY1.out.2.2.1,HY1.out.2.2.2.1,by rw [hl'];exact ⟨rfl,rfl,rfl,rfl,rfl,rfl,HY1.out.2.2.2.2.1⟩,HY1.out.2.2.2.2.2.1⟩
      clear HY1
      exact fw
     ·
      --[W3
      subst hx
      obtain ⟨hcl,hL0⟩:=vh HO.out.2.2 HPk.out
      have hnU:=HO.out.2.2.u
      have hOG:OG 25 1 Y1 b l.aU l.nU l.cU (sl l.nU l.uA l.uL l.uC):=HY1.out.2.2.2.2.2.2.1.u
      obtain ⟨gu,curU,eU,kU,szU,ccU⟩:=hOG.at0 (by omega)
      have hcU:∀ k,k<l.nU→curU[k]?=some (.slice (l.uA k) (l.uL k) (l.uC k)):=fun k hk=>(ccU k (by omega)).trans (wK _ _ _ _ k hk)
      obtain ⟨gz,eZ,cz⟩:=(HY1.out.2.2.2.2.2.2.1.z cl (by omega)).some hL0
      have hOZ:OI Y1 b (some ⟨gz,0,none⟩) (l.uL cl) (l.uC cl) (l.uz cl):=by rw [←eZ];exact HY1.out.2.2.2.2.2.2.1.z cl (by omega)
      have hbgu:b≤gu∧gu<V.heap.size:=by
       have:=OG.blk HO.out.1.u gu (by rw [eU];simp [ij])
       exact this
      have c2x:∀ wx:World,(wx.heap[g11]?=some (.cells ({ l with R:=R2 }:Lng).cells 102 (0,0))∧wx.heap[gu]?=some (.cells curU 25 (0,0)))→wx.cell? ⟨g11,2,none⟩=some (.slice (some ⟨gu,0,none⟩) l.nU l.cU):=fun wx h=>by rw [←eU];exact fG h.1 2
      have cux:∀ wx:World,(wx.heap[g11]?=some (.cells ({ l with R:=R2 }:Lng).cells 102 (0,0))∧wx.heap[gu]?=some (.cells curU 25 (0,0)))→wx.cell? ⟨gu,cl,none⟩=some (.slice (some ⟨gz,0,none⟩) (l.uL cl) (l.uC cl)):=fun wx h=>by rw [fG h.2,hcU cl (by omega),eZ]
      have c2:=c2x Y1 ⟨HY1.out.2.2.2.1,kU⟩
      have cu:=cux Y1 ⟨HY1.out.2.2.2.1,kU⟩
      have i1:(cl:Int)<(l.nU:Int):=by omega
      have i0:(0:Int)≤(cl:Int):=by omega
      have i2:(0:Int)<(l.uL cl:Int):=by omega
      have HC2:Hid (∀ wx:World,(wx.heap[g11]?=some (.cells ({ l with R:=R2 }:Lng).cells 102 (0,0))∧wx.heap[gu]?=some (.cells curU 25 (0,0)))→wx.cell? ⟨g11,2,none⟩=some (.slice (some ⟨gu,0,none⟩) l.nU l.cU)):=c2x
      have HCU:Hid (∀ wx:World,(wx.heap[g11]?=some (.cells ({ l with R:=R2 }:Lng).cells 102 (0,0))∧wx.heap[gu]?=some (.cells curU 25 (0,0)))→wx.cell? ⟨gu,cl,none⟩=some (.slice (some ⟨gz,0,none⟩) (l.uL cl) (l.uC cl))):=cux
      have HQ:Hid (cl<2∧l.uL cl≠0∧l.nU=2∧Y1.heap[gu]?=some (.cells curU 25 (0,0))∧l.nU*1≤curU.size∧(∀ k,k<l.nU→curU[k]?=some (.slice (l.uA k) (l.uL k) (l.uC k)))∧OI Y1 b (some ⟨gz,0,none⟩) (l.uL cl) (l.uC cl) (l.uz cl)∧b≤gu∧gu<V.heap.size∧l.aU=some ⟨gu,0,none⟩):=⟨hcl,hL0,hnU,kU,szU,hcU,hOZ,hbgu.1,hbgu.2,eU⟩
      have hrc:∀ wx,(Instr.slice 25 (.slice (some ⟨gz,0,none⟩) (l.uL cl) (l.uC cl)) (some (.int .i64 1)) none none).run Tryz.prog wx=.ok (.slice (some ⟨gz,nX 0 (l.uC cl),none⟩) (l.uL cl-1) (l.uC cl-1)) wx:=fun wx=>nc gz 0 _ (l.uL cl) (l.uC cl) wx hL0 rfl
      clear hcl hL0 hnU hOG kU szU ccU hcU hOZ hbgu eU eZ c2x cux
      go_wp2_with fail
      clear c2 cu cz
      refine iE (fun wx=>wx.heap[g11]?=some (.cells ({ l with R:=R2 }:Lng).cells 102 (0,0))∧wx.heap[gu]?=some (.cells curU 25 (0,0))) 12 (by kernel_rfl) ?_
      have hd:Below Y1.heap.size Y1 Y1.drew:=(Below.refl _ _).drew
      have HD:Hid (SpS w S X b g6 Y1.drew∧jd Y1.drew b X i∧OG 74 5 Y1.drew b a ts.length c (tV ts.length fun k=>(fsF ts k).frame)∧Y1.drew.heap[g11]?=some (.cells ({ l with R:=R2 }:Lng).cells 102 (0,0))∧TyL Y1.drew b { l with R:=R2 }∧Y1.drew.heap[gu]?=some (.cells curU 25 (0,0))∧OI Y1.drew b (some ⟨gz,0,none⟩) (l.uL cl) (l.uC cl) (l.uz cl)∧iQ Y1.drew V.heap.size R2):=⟨HY1.out.1.up hd,HY1.out.2.1.up hd,HY1.out.2.2.1.up hd,(hd.block _ (fH HY1.out.2.2.2.1)).trans HY1.out.2.2.2.1,HY1.out.2.2.2.2.2.1.up hd,(hd.block _ (fH HQ.out.2.2.2.1)).trans HQ.out.2.2.2.1,HQ.out.2.2.2.2.2.2.1.up hd,HY1.out.2.2.2.2.2.2.2.up hd⟩
      have HAl:Hid (Alike M' R2):=HY1.out.2.2.2.2.1
      clear hd HY1
      generalize Y1.drew=D at *
      have hT0:D.heap[g11]?=some (.cells ({ l with R:=R2 }:Lng).cells 102 (0,0))∧D.heap[gu]?=some (.cells curU 25 (0,0)):=⟨HD.out.2.2.2.1,HD.out.2.2.2.2.2.1⟩
      refine tE 0 86 hT0 ?_
      refine ji (i:=1) (some 87) (v:=?_) ?_ hT0 ?_
      rotate_left
      ·
       intro wx hSw
       have c2:=HC2.out wx hSw
       exact dW
      try simp only [Act.put,PZ]
      refine tE 2 88 hT0 ?_
      refine tE 4 90 hT0 ?_
      refine ji (i:=5) (some 91) (v:=?_) ?_ hT0 ?_
      rotate_left
      ·
       intro wx hSw
       have c2:=HC2.out wx hSw
       exact dW
      try simp only [Act.put,PZ]
      refine tE 6 92 hT0 ?_
      refine tE 7 93 hT0 ?_
      refine ji (i:=8) (some 94) (v:=?_) ?_ hT0 ?_
      rotate_left
      ·
       intro wx hSw
       have cu:=HCU.out wx hSw
       exact dW
      try simp only [Act.put,PZ]
      refine ji (i:=9) (some 95) (v:=.slice (some ⟨gz,nX 0 (l.uC cl),none⟩) (l.uL cl-1) (l.uC cl-1)) ?_ hT0 ?_
      ·
       intro wx hSw
       have hr1:=hrc wx
       exact dW
      try simp only [Act.put,PZ]
      refine fM (rs:=[3]) (by kernel_rfl) (by simp) ?_
      refine fI.cons rfl (fun K hK=>?_) fI.nil
      obtain ⟨a',c',W',hrun,oZ,hbW⟩:=Aj HD.out.2.2.2.2.2.2.1 HQ.out.2.1 (HO.out.2.1.z cl (by have:=HQ.out.1;have:=HQ.out.2.2.1;omega))
      obtain ⟨Da,eDa⟩:∃ X,D.alloc (.cells #[] 2)=X:=⟨_,rfl⟩
      have hbD:Below D.heap.size D Da:=by rw [←eDa];exact (Below.refl _ _).alloc (Nat.le_refl _) _
      rw [eDa] at hrun
      go_simp
      clear eDa
      have hT1:Da.heap[g11]?=some (.cells ({ l with R:=R2 }:Lng).cells 102 (0,0))∧Da.heap[gu]?=some (.cells curU 25 (0,0)):=⟨(hbD.block _ (fH hT0.1)).trans hT0.1,(hbD.block _ (fH hT0.2)).trans hT0.2⟩
      refine hK.out _ _ hT1 ?_
      clear hK K
      try simp only [Act.put,PZ]
      refine fM (rs:=[10]) (by kernel_rfl) (by simp) ?_
      refine fI.cons rfl (fun K hK=>?_) fI.nil
      refine jX (by kernel_rfl) (some 96) rfl (.tmp 89) (.tmp 95) 25 _ _ _ rfl rfl rfl rfl hrun ?_
      have hT2:W'.heap[g11]?=some (.cells ({ l with R:=R2 }:Lng).cells 102 (0,0))∧W'.heap[gu]?=some (.cells curU 25 (0,0)):=⟨(hbW.block _ (fH hT0.1)).trans hT0.1,(hbW.block _ (fH hT0.2)).trans hT0.2⟩
      refine hK.out _ _ hT2 ?_
      clear hK K hrun
      try simp only [Act.put,PZ]
      refine tE 11 97 hT2 ?_
      refine fM (rs:=[12]) (by kernel_rfl) (by simp) ?_
      refine fI.last rfl (fun K hK=>?_)
      refine jz (by kernel_rfl) none rfl 25 (.tmp 97) (.tmp 96) rfl gu cl (by simp [Act.eval]) (.slice a' (l.uL cl-1) c') rfl 1 rfl 25 curU hT2.2 zE (by have:=HQ.out.2.2.2.2.1;have:=HQ.out.1;have:=HQ.out.2.2.1;omega) (by simp [Value.cells,Value.oneCell']) ?_
      intro Xz hP
      refine hK.out _ _ ?_
      clear hK K
      try simp only [Act.put,PZ]
      refine ie (by kernel_rfl) ?_ _
      replace hP:Put W' Xz gu (lay curU cl #[.slice a' (l.uL cl-1) c']) 25:=hP
      have hzW:=hbW.size
      have hzD:=HD.out.1.size
      have hguS:gu∉gF R2.aS R2.nS:=fun hx=>by
       have h1:=(HD.out.2.2.2.2.2.2.2.s.g.blk gu hx).1
       have h2:=HQ.out.2.2.2.2.2.2.2.2.1
       omega
      have hgL:∀ k,k<X.nL→k≠i→gu∉gF (X.L k).aU (X.L k).nU∧gu∉gF (X.L k).R.aS (X.L k).R.nS:=HV.out.2.1.uJ HI.out.1 (by rw [Hel.out,HQ.out.2.2.2.2.2.2.2.2.2];simp [ij])
      have HE:Hid (SpS w S X b g6 Xz∧jd Xz b X i∧OG 74 5 Xz b a ts.length c (tV ts.length fun k=>(fsF ts k).frame)∧Xz.heap[g11]?=some (.cells (l.CA cl a' c' R2).cells 102 (0,0))∧gy l' (l.CA cl a' c' R2)∧TyL Xz b (l.CA cl a' c' R2)):=by
       refine ⟨(HD.out.1.up hbW).far hT2.2 (by decide) HQ.out.2.2.2.2.2.2.2.1 hP.to,(HD.out.2.1.up hbW).Cd hT2.2 hP.to hgL,(HD.out.2.2.1.up hbW).fK hP.to (fun x hx hy=>(HD.out.2.2.1.up hbW).j7 (by decide) hT2.2 (by simp at hy;rw [←hy];exact hx)),(hP.to.block _ (fH hT2.1) (fun hy=>iz hT2.1 hT2.2 (by decide) (by simpa using hy))).trans hT2.1,?_,(HD.out.2.2.2.2.1.up hbW).CA HQ.out.2.2.2.2.2.2.2.2.2 hT2.2 (by have:=HQ.out.2.2.2.2.1;omega) (by have:=HQ.out.1;have:=HQ.out.2.2.1;omega) hP (OG.mono (t:=2) (sz:=1) oZ (Nat.le_of_lt hzD)) hguS HQ.out.2.2.2.2.2.1 HQ.out.2.2.2.2.2.2.2.1⟩
       rw [hl']
       exact ⟨rfl,rfl,rfl,rfl,rfl,rfl,HAl.out⟩
      clear hP HD oZ hbW hbD hT0 hT1 hT2 hguS hgL hzW hzD
      exact fw
   case rest =>
    obtain ⟨e12,l2,HB⟩:=hcut
    subst e12
    have hnn:0<X.nL*8:=by have:=HI.out.1;omega
    obtain ⟨gL',curL',eL',hbL',kL',szL',_⟩:=HB.out.2.1.l.at0 hnn
    have hgg:gL'=gL:=by have:=HLL.out.1;rw [eL'] at this;simpa using this
    subst hgg
    have c14:wc.cell? ⟨g6,14,none⟩=some (.slice (some ⟨gL',0,none⟩) X.nL X.cL):=by rw [←eL'];exact fG HB.out.1.o 14
    have HL11:Hid (∀ q,q<8→wc.cell? ⟨g11,0+q,none⟩=l2.cells[q]?):=fun q _=>by rw [Nat.zero_add];exact fG HB.out.2.2.2.1 q
    have HKL:Hid (wc.heap[gL']?=some (.cells curL' 102 (0,0))∧X.nL*8≤curL'.size):=⟨kL',szL'⟩
    clear eL' hbL' kL' szL' hnn
    go_wp2_with (first | refine fP rfl 102 8 _ Tryz.underlying102 rfl rH (.tmp 11) rfl g11 0 rfl l2.cells rfl HL11.out ?_ | refine fJ rfl 102 (.tmp 102) (.tmp 101) rfl gL' (i*8) (by simp [Act.eval]) (.agg l2.cells) rfl 8 rfl 102 _ HKL.out.1 rH (by have:=HKL.out.2;have:=HI.out.1;omega) (Lng.lL _) ?_)
    intro Z1 hP
    replace hP:Put wc Z1 gL' (lay curL' (i*8) l2.cells) 102:=hP
    have HZ1:Hid (SpS w S (X.lane i l2) b g6 Z1∧jd Z1 b (X.lane i l2) X.nL∧OG 74 5 Z1 b a ts.length c (tV ts.length fun k=>(fsF ts k).frame)∧gy l' l2):=by
     have h1:=HB.out.1.far HKL.out.1 (by decide) HLL.out.2.1 hP.to
     exact ⟨⟨h1.a,h1.z,h1.o,h1.bel,h1.lo,h1.hi⟩,HB.out.2.1.BL HI.out.1 HLL.out.1 HKL.out.1 hP HB.out.2.2.2.2.2,HB.out.2.2.1.fK hP.to (fun x hx hy=>HB.out.2.2.1.j7 (by decide) HKL.out.1 (by simp at hy;rw [←hy];exact hx)),HB.out.2.2.2.2.1⟩
    have hSY:=spY (l2:=l2) HI.out.2.1 HI.out.2.2 HV.out.2.1.k.cap HXC.out HZ1.out.2.2.2 HC.out.1 HC.out.2.1 HC.out.2.2.2
    obtain ⟨Y,eY⟩:∃ Y,X.lane i l2=Y:=⟨_,rfl⟩
    rw [eY] at hSY HZ1
    have HY:Hid (SpY S S' Y id ts fs):=hSY
    have HW1:Hid (SpS w S Y b g6 Z1∧jd Z1 b Y Y.nL∧OG 74 5 Z1 b a ts.length c (tV ts.length fun k=>(fsF ts k).frame)):=⟨HZ1.out.1,by
     have h:=HZ1.out.2.1
     rw [show X.nL=Y.nL by rw [←eY];rfl] at h
     exact h,HZ1.out.2.2.1⟩
    clear hP HB HKL HL11 c14 HC HV HLL hSY eY HZ1 HI HXC hi1 hi0 Hel
    rcases HY.out.ax with ⟨hid,hA1,hfs⟩ | ⟨hid,j,hj,hjid,hfs,hrr⟩
    ·
     --[W4
     subst hid
     have HEQ:Hid (ga S' Y∧fs=ts):=⟨hA1,hfs⟩
     clear hA1 hfs
     have HL6:Hid (∀ q,q<17→Z1.cell? ⟨g6,0+q,none⟩=Y.cells[q]?):=fun q _=>by rw [Nat.zero_add];exact fG HW1.out.1.o q
     have HD4:Hid (Z1.heap[w.heap.size+1]?=some (.cells zSw 40 (0,0))):=HW1.out.1.z
     go_wp2_with (first | refine fP rfl 40 17 _ Tryz.underlying40 rfl fZ (.tmp 6) rfl g6 0 rfl Y.cells rfl HL6.out ?_ | refine fJ rfl 40 (.tmp 4) (.tmp 105) rfl (w.heap.size+1) 0 rfl (.agg Y.cells) rfl 17 rfl 40 _ HD4.out fZ (Nat.le_of_ble_eq_true rfl) (Swg.lL _) ?_)
     intro Z2 hP
     replace hP:Put Z1 Z2 (w.heap.size+1) Y.cells 40:=hP.cast rfl
     have HK:Hid (Z2.heap[w.heap.size+1]?=some (.cells Y.cells 40 (0,0))):=hP.blk
     have HFF:=BK HW1.out.1 HW1.out.2.1 HW1.out.2.2 hP
     have HFF:Hid (jd Z2 w.heap.size Y Y.nL∧OG 74 5 Z2 w.heap.size a ts.length c (tV ts.length fun k=>(fsF ts k).frame)∧Below w.heap.size w Z2):=HFF
     clear hP HL6 HD4
     repeat (first | go_values | go_skip | go_step)
     rw [HEQ.out.2]
     exact bodyPost_ret (nJ Tryz.results20 17 _ Tryz.underlying40 rfl fZ _ _ (w.heap.size+1) Y.cells rfl 40 HK.out rfl (.slice a ts.length c) rfl) rfl ⟨Y,a,c,rfl,HEQ.out.1,HFF.out.1,HFF.out.2.1,HFF.out.2.2⟩
    ·
     have HJ2:Hid (j<Y.nK∧(Y.K j).id=id∧fs=ts++[Y.K j]∧(((Y.K j).refs≠1∧ga S' { Y with K:=kq Y.K j })∨((Y.K j).refs=1∧ga S' { Y with nK:=Y.nK-1,K:=rmK Y.K j,N:=kF Y.N (Y.K j).inn (Y.K j).p (-(Y.K j).cl) }))):=⟨hj,hjid,hfs,hrr⟩
     clear hfs hrr hjid
     have HL6:Hid (∀ q,q<17→Z1.cell? ⟨g6,0+q,none⟩=Y.cells[q]?):=fun q _=>by rw [Nat.zero_add];exact fG HW1.out.1.o q
     go_wp2_with (refine fP rfl 40 17 _ Tryz.underlying40 rfl fZ (.tmp 6) rfl g6 0 rfl Y.cells rfl HL6.out ?_)
     refine (ma Y id _ HY.out.n HW1.out.2.1.rd.k j hj HJ2.out.2.1 (fun q hq=>by
      have:=HY.out.k.only hj q (by omega) (by omega)
      rw [←HJ2.out.2.1];exact this)).mono ?_
     rintro e Z2 ⟨rfl,hb2⟩
     have HZ2:Hid (SpS w S Y b g6 Z2∧jd Z2 b Y Y.nL∧OG 74 5 Z2 b a ts.length c (tV ts.length fun k=>(fsF ts k).frame)):=⟨HW1.out.1.up hb2,HW1.out.2.1.up hb2,HW1.out.2.2.up hb2⟩
     clear hb2 HW1 HL6
     obtain ⟨gk,curK,eK,hbk,kK,szK,ccK⟩:=HZ2.out.2.1.k.at0 (show 0<Y.nK*8 by omega)
     have c13:Z2.cell? ⟨g6,13,none⟩=some (.slice (some ⟨gk,0,none⟩) Y.nK Y.cK):=by rw [←eK];exact fG HZ2.out.1.o 13
     have HLk:Hid (∀ q,q<8→Z2.cell? ⟨gk,j*8+q,none⟩=(Y.K j).cells[q]?):=fun q hq=>(fG kK _).trans ((ccK (j*8+q) (by omega)).trans (jQ Y.K j q hq))
     have hj1:(j:Int)<(Y.nK:Int):=by omega
     have hj0:(0:Int)≤(j:Int):=by omega
     obtain ⟨V7,e7⟩:∃ V,Z2.alloc (.cells (Y.K j).cells 97)=V:=⟨_,rfl⟩
     have hb7:Below Z2.heap.size Z2 V7:=by rw [←e7];exact (Below.refl _ _).alloc (Nat.le_refl _) _
     have HV7:Hid (SpS w S Y b g6 V7∧jd V7 b Y Y.nL∧OG 74 5 V7 b a ts.length c (tV ts.length fun k=>(fsF ts k).frame)∧V7.heap[Z2.heap.size]?=some (.cells (Y.K j).cells 97 (0,0))∧b≤gk∧gk<Z2.heap.size∧Y.aK=some ⟨gk,0,none⟩∧b<Z2.heap.size):=⟨HZ2.out.1.up hb7,HZ2.out.2.1.up hb7,HZ2.out.2.2.up hb7,by rw [←e7];exact fL _ _,hbk,fH kK,eK,HZ2.out.1.size⟩
     have HL7:Hid (∀ q,q<5→V7.cell? ⟨Z2.heap.size,3+q,none⟩=(Y.K j).frame[q]?):=fun q hq=>(fG HV7.out.2.2.2.1 _).trans (Dy (Y.K j) q hq)
     obtain ⟨g1,c3,V8,hrun,hu,ht8,_⟩:=ku 41 74 _ 5 48 rI Tryz.underlying41 rfl (by decide) (by decide) HV7.out.2.2.1 (by
      have h1:ts.length≤fs.length:=by rw [HJ2.out.2.2.1];simp
      have h2:=HM.out.1.len
      omega) (Nat.le_of_lt HV7.out.1.size) (#[.int .i64 (Y.K j).k,.int .i64 (Y.K j).d,.int .i64 (Y.K j).s,.int .i64 (Y.K j).p,.string (Y.K j).b]) rfl (by simp [Value.oneCell'])
     have HV8:Hid (SpS w S Y b g6 V8∧jd V8 b Y Y.nL∧OG 74 5 V8 b (some ⟨g1,0,none⟩) (ts.length+1) c3 (tV (ts.length+1) fun k=>(fsF fs k).frame)∧V8.heap[Z2.heap.size]?=some (.cells (Y.K j).cells 97 (0,0))):=by
      refine ⟨HV7.out.1.jA HV7.out.2.2.1 ht8,HV7.out.2.1.jA HV7.out.2.2.1 ht8,?_,(ht8.block _ (fH HV7.out.2.2.2.1) (HV7.out.2.2.1.j7 (by decide) HV7.out.2.2.2.1)).trans HV7.out.2.2.2.1⟩
      rw [HJ2.out.2.2.1,Bg]
      exact hu
     have c72:V8.cell? ⟨Z2.heap.size,2,none⟩=some (.int .i64 (Y.K j).refs):=fG HV8.out.2.2.2 2
     have H17:Hid (V8.heap[Z2.heap.size]?=some (.cells (Y.K j).cells 97 (0,0))):=HV8.out.2.2.2
     have hsm:=HY.out.refs j hj
     have hw1:IntKind.i64.wrap ((Y.K j).refs-1)=(Y.K j).refs-1:=mM _ (by omega) (by omega)
     clear hbk kK szK ccK eK hu ht8 hb7 HZ2 hsm
     go_wp2_with (first | refine fP rfl 97 8 _ Tryz.underlying97 rfl rF (.tmp 113) rfl gk (j*8) (by simp [Act.eval]) (Y.K j).cells rfl HLk.out ?_ | refine gZ 97 8 rF rfl (.tmp 17) (.tmp 114) rfl (Y.K j).cells _ rfl rfl rfl rfl rfl (Pkt.one _) (e7▸?_) | refine fP rfl 74 5 _ Tryz.underlying74 rfl me (.tmp 116) rfl Z2.heap.size 3 rfl #[.int .i64 (Y.K j).k,.int .i64 (Y.K j).d,.int .i64 (Y.K j).s,.int .i64 (Y.K j).p,.string (Y.K j).b] rfl HL7.out ?_ | (at_builtin;refine Lib.wpList_append_run _ rfl _ _ _ _ rfl _ _ rfl rfl _ _ hrun ?_) | refine fJ rfl 2 (.tmp 123) (.tmp 122) rfl Z2.heap.size 2 rfl (.int .i64 ((Y.K j).refs-1)) rfl 1 rfl 97 _ H17.out (by kernel_rfl) (Nat.le_of_ble_eq_true rfl) (by simp [Value.cells,Value.oneCell']) ?_)
     intro V9 hP
     replace hP:Put V8 V9 Z2.heap.size ({ Y.K j with refs:=(Y.K j).refs-1 }:Pkt).cells 97:=hP.cast rfl
     have HV9:Hid (SpS w S Y b g6 V9∧jd V9 b Y Y.nL∧OG 74 5 V9 b (some ⟨g1,0,none⟩) (ts.length+1) c3 (tV (ts.length+1) fun k=>(fsF fs k).frame)∧V9.heap[Z2.heap.size]?=some (.cells ({ Y.K j with refs:=(Y.K j).refs-1 }:Pkt).cells 97 (0,0))∧b≤gk∧gk<Z2.heap.size∧Y.aK=some ⟨gk,0,none⟩∧b<Z2.heap.size):=by
      have hgk:=HV7.out.2.2.2.2.2.1
      have hgb:=HV7.out.2.2.2.2.2.2.2
      refine ⟨HV8.out.1.far H17.out (by decide) (by omega) hP.to,HV8.out.2.1.box H17.out hP.to ⟨by decide,by decide,by decide,by decide⟩ (by rw [HV7.out.2.2.2.2.2.2.1];exact Cw (by omega)) (HV8.out.2.1.l.nW H17.out (by decide)),HV8.out.2.2.1.fK hP.to (fun x hx hy=>HV8.out.2.2.1.j7 (by decide) H17.out (by simp at hy;rw [←hy];exact hx)),hP.blk,HV7.out.2.2.2.2.1,hgk,HV7.out.2.2.2.2.2.2.1,hgb⟩
     clear hP HV7 HV8 H17 HL7 HLk c72 c13 hrun e7
     obtain ⟨g7,eg7⟩:∃ g,Z2.heap.size=g:=⟨_,rfl⟩
     rw [eg7] at HV9 ⊢
     clear eg7
     obtain ⟨gk',curK',eK',_,kK',szK',_⟩:=HV9.out.2.1.k.at0 (show 0<Y.nK*8 by omega)
     have hgg':gk'=gk:=by have:=HV9.out.2.2.2.2.2.2.1;rw [eK'] at this;simpa using this
     subst hgg'
     have c13:V9.cell? ⟨g6,13,none⟩=some (.slice (some ⟨gk',0,none⟩) Y.nK Y.cK):=by rw [←eK'];exact fG HV9.out.1.o 13
     have HL7:Hid (∀ q,q<8→V9.cell? ⟨g7,0+q,none⟩=({ Y.K j with refs:=(Y.K j).refs-1 }:Pkt).cells[q]?):=fun q _=>by rw [Nat.zero_add];exact fG HV9.out.2.2.2.1 q
     have HKK:Hid (V9.heap[gk']?=some (.cells curK' 97 (0,0))∧Y.nK*8≤curK'.size):=⟨kK',szK'⟩
     clear eK' kK' szK'
     go_wp2_with (first | refine fP rfl 97 8 _ Tryz.underlying97 rfl rF (.tmp 17) rfl g7 0 rfl ({ Y.K j with refs:=(Y.K j).refs-1 }:Pkt).cells rfl HL7.out ?_ | refine fJ rfl 97 (.tmp 128) (.tmp 127) rfl gk' (j*8) (by simp [Act.eval]) (.agg ({ Y.K j with refs:=(Y.K j).refs-1 }:Pkt).cells) rfl 8 rfl 97 _ HKK.out.1 rF (by have:=HKK.out.2;omega) (Pkt.one _) ?_)
     intro V10 hP
     replace hP:Put V9 V10 gk' (lay curK' (j*8) ({ Y.K j with refs:=(Y.K j).refs-1 }:Pkt).cells) 97:=hP
     obtain ⟨Y1,eY1⟩:∃ Y1:Swg,{ Y with K:=kq Y.K j }=Y1:=⟨_,rfl⟩
     have HW:Hid (SpS w S Y1 b g6 V10∧jd V10 b Y1 Y1.nL∧OG 74 5 V10 b (some ⟨g1,0,none⟩) (ts.length+1) c3 (tV (ts.length+1) fun k=>(fsF fs k).frame)):=by
      have h1:=HV9.out.1.far HKK.out.1 (by decide) HV9.out.2.2.2.2.1 hP.to
      rw [←eY1]
      exact ⟨⟨h1.a,h1.z,h1.o,h1.bel,h1.lo,h1.hi⟩,HV9.out.2.1.setK hj HV9.out.2.2.2.2.2.2.1 HKK.out.1 hP (Cq Y.K j),HV9.out.2.2.1.fK hP.to (fun x hx hy=>HV9.out.2.2.1.j7 (by decide) HKK.out.1 (by simp at hy;rw [←hy];exact hx))⟩
     have H17:Hid (V10.heap[g7]?=some (.cells ({ Y.K j with refs:=(Y.K j).refs-1 }:Pkt).cells 97 (0,0))):=(hP.to.block _ (fH HV9.out.2.2.2.1) (by have:=HV9.out.2.2.2.2.2.1;simp;omega)).trans HV9.out.2.2.2.1
     have c72:V10.cell? ⟨g7,2,none⟩=some (.int .i64 ((Y.K j).refs-1)):=fG H17.out 2
     have hrr:=HJ2.out.2.2.2
     replace HJ2:Hid (fs.length=ts.length+1):=by rw [Hid,HJ2.out.2.2.1];simp
     have HGK:Hid (b≤gk'∧gk'<g7∧Y.aK=some ⟨gk',0,none⟩∧b<g7):=⟨HV9.out.2.2.2.2.1,HV9.out.2.2.2.2.2.1,HV9.out.2.2.2.2.2.2.1,HV9.out.2.2.2.2.2.2.2⟩
     clear hP HV9 HKK HL7 c13
     rcases hrr with ⟨hr1,hA1⟩ | ⟨hr1,hA1⟩
     ·
      --[W5
      have HAF:Hid (ga S' Y1):=by rw [←eY1];exact hA1
      have hb5:((Y.K j).refs-1 == 0)=false:=by simp;omega
      have hn5:¬ ((Y.K j).refs-1=0):=by omega
      clear hA1 eY1
      have HL6:Hid (∀ q,q<17→V10.cell? ⟨g6,0+q,none⟩=Y1.cells[q]?):=fun q _=>by rw [Nat.zero_add];exact fG HW.out.1.o q
      have HD4:Hid (V10.heap[w.heap.size+1]?=some (.cells zSw 40 (0,0))):=HW.out.1.z
      go_wp2_with (first | refine fP rfl 40 17 _ Tryz.underlying40 rfl fZ (.tmp 6) rfl g6 0 rfl Y1.cells rfl HL6.out ?_ | refine fJ rfl 40 (.tmp 4) (.tmp 163) rfl (w.heap.size+1) 0 rfl (.agg Y1.cells) rfl 17 rfl 40 _ HD4.out fZ (Nat.le_of_ble_eq_true rfl) (Swg.lL _) ?_)
      intro Zf hP
      replace hP:Put V10 Zf (w.heap.size+1) Y1.cells 40:=hP.cast rfl
      have HK:Hid (Zf.heap[w.heap.size+1]?=some (.cells Y1.cells 40 (0,0))):=hP.blk
      have HFF:Hid (jd Zf w.heap.size Y1 Y1.nL∧OG 74 5 Zf w.heap.size (some ⟨g1,0,none⟩) (ts.length+1) c3 (tV (ts.length+1) fun k=>(fsF fs k).frame)∧Below w.heap.size w Zf):=BK HW.out.1 HW.out.2.1 HW.out.2.2 hP
      clear hP HL6 HD4
      repeat (first | go_values | go_skip | go_step)
      rw [HJ2.out]
      exact bodyPost_ret (nJ Tryz.results20 17 _ Tryz.underlying40 rfl fZ _ _ (w.heap.size+1) Y1.cells rfl 40 HK.out rfl (.slice (some ⟨g1,0,none⟩) (ts.length+1) c3) rfl) rfl ⟨Y1,some ⟨g1,0,none⟩,c3,rfl,HAF.out,HFF.out.1,HFF.out.2.1,HFF.out.2.2⟩
     ·
      --[W6
      have hb5:((Y.K j).refs-1 == 0)=true:=by simp;omega
      have hn5:(Y.K j).refs-1=0:=by omega
      have HA1:Hid (ga S' { Y with nK:=Y.nK-1,K:=rmK Y.K j,N:=kF Y.N (Y.K j).inn (Y.K j).p (-(Y.K j).cl) }):=hA1
      have HE1:Hid ({ Y with K:=kq Y.K j }=Y1):=eY1
      have HQ:Hid (Y1.aK=some ⟨gk',0,none⟩∧Y1.nK=Y.nK∧Y1.cK=Y.cK∧Y.nK≤Y.cK∧Y.nK≤1048576∧j<Y.nK):=by rw [Hid,←eY1];exact ⟨HGK.out.2.2.1,rfl,rfl,HY.out.cap,HY.out.n,hj⟩
      have hlo:∀ wx,(Instr.slice 37 (.slice (some ⟨gk',0,none⟩) Y.nK Y.cK) none (some (.int .i64 (j:Int))) none).run Tryz.prog wx=.ok (.slice (some ⟨gk',0,none⟩) j Y.cK) wx:=fun wx=>sW gk' 0 Y.nK Y.cK j wx (by omega) HQ.out.2.2.2.1
      have hhi:∀ wx,(Instr.slice 37 (.slice (some ⟨gk',0,none⟩) Y.nK Y.cK) (some (.int .i64 ((j:Int)+1))) none none).run Tryz.prog wx=.ok (.slice (some ⟨gk',if Y.cK=j+1 then 0 else (j+1)*8,none⟩) (Y.nK-(j+1)) (Y.cK-(j+1))) wx:=fun wx=>by
       have:=xk gk' Y.nK Y.cK (j+1) wx (by omega) HQ.out.2.2.2.1
       rw [show (((j+1:Nat):Int))=(j:Int)+1 by omega] at this
       exact this
      have hwj:IntKind.i64.wrap ((j:Int)+1)=(j:Int)+1:=mM _ (by omega) (by have:=HQ.out.2.2.2.2.1;omega)
      obtain ⟨oH,eoH⟩:∃ o,(if Y.cK=j+1 then 0 else (j+1)*8)=o:=⟨_,rfl⟩
      rw [eoH] at hhi
      have HoH:Hid ((if Y.cK=j+1 then 0 else (j+1)*8)=oH):=eoH
      clear hA1 eY1 hr1 eoH
      go_wp2_with fail
      clear c72
      refine iE (fun wx=>wx.heap[g6]?=some (.cells Y1.cells 40 (0,0))) 13 (by kernel_rfl) ?_
      have hd:Below V10.heap.size V10 V10.drew:=(Below.refl _ _).drew
      have HD:Hid (SpS w S Y1 b g6 V10.drew∧jd V10.drew b Y1 Y1.nL∧OG 74 5 V10.drew b (some ⟨g1,0,none⟩) (ts.length+1) c3 (tV (ts.length+1) fun k=>(fsF fs k).frame)∧V10.drew.heap[g7]?=some (.cells ({ Y.K j with refs:=(Y.K j).refs-1 }:Pkt).cells 97 (0,0))):=⟨HW.out.1.up hd,HW.out.2.1.up hd,HW.out.2.2.up hd,(hd.block _ (fH H17.out)).trans H17.out⟩
      clear hd HW H17
      generalize V10.drew=D at *
      have hT0:D.heap[g6]?=some (.cells Y1.cells 40 (0,0)):=HD.out.1.o
      have HC13:Hid (∀ wx:World,wx.heap[g6]?=some (.cells Y1.cells 40 (0,0))→wx.cell? ⟨g6,13,none⟩=some (.slice (some ⟨gk',0,none⟩) Y.nK Y.cK)):=fun wx h=>by rw [←HQ.out.1,←HQ.out.2.1,←HQ.out.2.2.1];exact fG h 13
      have hrd:jN D (some ⟨gk',0,none⟩) Y.nK Y1.K:=by
       have:=HD.out.2.1.k.g.pks
       rw [HQ.out.1,HQ.out.2.1] at this
       exact this
      obtain ⟨a1,c1,W1,r1,b1,a2,c2,W2,r2,o2,b2⟩:=CY hrd hj HQ.out.2.2.2.1 HQ.out.2.2.2.2.1
      obtain ⟨Da,eDa⟩:∃ X,D.alloc (.cells #[] 97)=X:=⟨_,rfl⟩
      have hbD:Below D.heap.size D Da:=by rw [←eDa];exact (Below.refl _ _).alloc (Nat.le_refl _) _
      rw [eDa] at r1
      rw [HoH.out] at r2
      have HR1:Hid ((Builtin.append_ #[37,37] 37 #[.slice (some ⟨D.heap.size,0,none⟩) 0 0,.slice (some ⟨gk',0,none⟩) j Y.cK]).run Tryz.prog Da=.ok (.slice a1 j c1) W1):=r1
      have HR2:Hid ((Builtin.append_ #[37,37] 37 #[.slice a1 j c1,.slice (some ⟨gk',oH,none⟩) (Y.nK-(j+1)) (Y.cK-(j+1))]).run Tryz.prog W1=.ok (.slice a2 (Y.nK-1) c2) W2):=r2
      have HO2:Hid (OG 97 8 W2 D.heap.size a2 (Y.nK-1) c2 (nN (Y.nK-1) (rmK Y1.K j))∧Below D.heap.size D W2∧Below D.heap.size D W1∧Below D.heap.size D Da):=⟨o2,b2,b1,hbD⟩
      clear r1 r2 o2 b1 b2 hbD hrd
      refine tE 1 133 hT0 ?_
      refine ji (i:=2) (some 134) (v:=?_) ?_ hT0 ?_
      rotate_left
      ·
       intro wx hSw
       have c13:=HC13.out wx hSw
       exact dW
      try simp only [Act.put,PZ]
      refine tE 3 135 hT0 ?_
      refine ji (i:=4) (some 136) (v:=.slice (some ⟨gk',0,none⟩) j Y.cK) ?_ hT0 ?_
      ·
       intro wx hSw
       have hr1:=hlo wx
       exact dW
      try simp only [Act.put,PZ]
      refine tE 6 138 hT0 ?_
      refine ji (i:=7) (some 139) (v:=?_) ?_ hT0 ?_
      rotate_left
      ·
       intro wx hSw
       have c13:=HC13.out wx hSw
       exact dW
      try simp only [Act.put,PZ]
      refine tE 8 140 hT0 ?_
      refine tE 9 141 hT0 ?_
      refine ji (i:=10) (some 142) (v:=.slice (some ⟨gk',oH,none⟩) (Y.nK-(j+1)) (Y.cK-(j+1))) ?_ hT0 ?_
      ·
       intro wx hSw
       have hr1:=hhi wx
       exact dW
      try simp only [Act.put,PZ]
      refine fM (rs:=[0]) (by kernel_rfl) (by simp) ?_
      refine fI.cons rfl (fun K hK=>?_) fI.nil
      go_simp
      clear eDa
      have hT1:Da.heap[g6]?=some (.cells Y1.cells 40 (0,0)):=(HO2.out.2.2.2.block _ (fH hT0)).trans hT0
      refine hK.out _ _ hT1 ?_
      clear hK K
      try simp only [Act.put,PZ]
      refine fM (rs:=[5]) (by kernel_rfl) (by simp) ?_
      refine fI.cons rfl (fun K hK=>?_) fI.nil
      refine jX (by kernel_rfl) (some 137) rfl (.tmp 132) (.tmp 136) 37 _ _ _ rfl rfl rfl rfl HR1.out ?_
      have hT2:W1.heap[g6]?=some (.cells Y1.cells 40 (0,0)):=(HO2.out.2.2.1.block _ (fH hT0)).trans hT0
      refine hK.out _ _ hT2 ?_
      clear hK K
      try simp only [Act.put,PZ]
      refine fM (rs:=[11]) (by kernel_rfl) (by simp) ?_
      refine fI.cons rfl (fun K hK=>?_) fI.nil
      refine jX (by kernel_rfl) (some 143) rfl (.tmp 137) (.tmp 142) 37 _ _ _ rfl rfl rfl rfl HR2.out ?_
      have hT3:W2.heap[g6]?=some (.cells Y1.cells 40 (0,0)):=(HO2.out.2.1.block _ (fH hT0)).trans hT0
      refine hK.out _ _ hT3 ?_
      clear hK K
      try simp only [Act.put,PZ]
      refine tE 12 144 hT3 ?_
      refine fM (rs:=[13]) (by kernel_rfl) (by simp) ?_
      refine fI.last rfl (fun K hK=>?_)
      refine jz (by kernel_rfl) none rfl 37 (.tmp 144) (.tmp 143) rfl g6 13 rfl (.slice a2 (Y.nK-1) c2) rfl 1 rfl 40 _ hT3 Ci (Nat.le_of_ble_eq_true rfl) (by simp [Value.cells,Value.oneCell']) ?_
      intro V11 hP
      refine hK.out _ _ ?_
      clear hK K
      try simp only [Act.put,PZ]
      refine ie (by kernel_rfl) ?_ _
      obtain ⟨Y2,eY2⟩:∃ Y2:Swg,{ Y1 with aK:=a2,nK:=Y.nK-1,cK:=c2,K:=rmK Y1.K j }=Y2:=⟨_,rfl⟩
      replace hP:Put W2 V11 g6 Y2.cells 40:=hP.cast (by rw [←eY2];rfl)
      have HU:Hid (SpS w S Y2 b g6 V11∧jd V11 b Y2 Y2.nL∧OG 74 5 V11 b (some ⟨g1,0,none⟩) (ts.length+1) c3 (tV (ts.length+1) fun k=>(fsF fs k).frame)∧V11.heap[g7]?=some (.cells ({ Y.K j with refs:=(Y.K j).refs-1 }:Pkt).cells 97 (0,0))):=by
       have hb2:=HO2.out.2.1
       have hzD:=HD.out.1.size
       have h1:=HD.out.1.up hb2
       have h2:=HD.out.2.1.up hb2
       have h3:jd V11 b Y1 Y1.nL:=h2.box h1.o hP.to ⟨by decide,by decide,by decide,by decide⟩ (h2.k.nW h1.o (by decide)) (h2.l.nW h1.o (by decide))
       have h4:OG 97 8 V11 D.heap.size a2 (Y.nK-1) c2 (nN (Y.nK-1) (rmK Y1.K j)):=HO2.out.1.fK hP.to (fun x hx hy=>HO2.out.1.j7 (by decide) h1.o (by simp at hy;rw [←hy];exact hx))
       have h5:=h3.newRow h4 (Nat.le_of_lt hzD)
       rw [eY2] at h5
       refine ⟨h1.put hP,?_,(HD.out.2.2.1.up hb2).fK hP.to (fun x hx hy=>(HD.out.2.2.1.up hb2).j7 (by decide) h1.o (by simp at hy;rw [←hy];exact hx)),?_⟩
       ·
        rw [show Y1.nL=Y2.nL by rw [←eY2]] at h5
        exact h5
       have k7:=(hb2.block _ (fH HD.out.2.2.2)).trans HD.out.2.2.2
       exact (hP.to.block _ (fH k7) (fun hy=>iz h1.o k7 (by decide) (by simpa using hy:g7=g6).symm)).trans k7
      have HE2:Hid ({ Y1 with aK:=a2,nK:=Y.nK-1,cK:=c2,K:=rmK Y1.K j }=Y2):=eY2
      clear hP HD HO2 HR1 HR2 hT0 hT1 hT2 hT3 eY2 HC13 hlo hhi hwj hb5 hn5
      go_wp2_with fail
      have HF7:Hid ((Y.K j).pR∧(0≤(Y.K j).inn∧(Y.K j).inn≤Y.C.p-1)):=⟨(HY.out.k.one j hj).2.2,(HY.out.k.one j hj).2.1⟩
      have HN2:Hid (Y2.N=Y.N∧Y2.C=S.C∧Cnt.Ok S.C Y.N∧Cnt.Ok S.C (kF Y.N (Y.K j).inn (Y.K j).p (-(Y.K j).cl))∧Y.C=S.C):=by
       have h1:=HY.out.cn
       have h2:=HY.out.rel j hj
       have h3:=HY.out.c
       rw [h3] at h1 h2
       refine ⟨by rw [←HE2.out,←HE1.out],by rw [←HE2.out,←HE1.out];exact h3,h1,h2,h3⟩
      go_cut [145] (fun _ wx=>∃ M,Hid (gx (kF Y.N (Y.K j).inn (Y.K j).p (-(Y.K j).cl)) M∧SpS w S { Y2 with N:=M } b g6 wx∧jd wx b { Y2 with N:=M } Y2.nL∧OG 74 5 wx b (some ⟨g1,0,none⟩) (ts.length+1) c3 (tV (ts.length+1) fun k=>(fsF fs k).frame)))
      case first =>
       refine o8 (fun wx=>wx.heap[w.heap.size]?=some (.cells S.cells 40 (0,0))∧wx.heap[g6]?=some (.cells Y2.cells 40 (0,0))∧wx.heap[g7]?=some (.cells ({ Y.K j with refs:=(Y.K j).refs-1 }:Pkt).cells 97 (0,0))) 18 (by kernel_rfl) ?_
       have hd:Below V11.heap.size V11 V11.drew:=(Below.refl _ _).drew
       have HD:Hid (SpS w S Y2 b g6 V11.drew∧jd V11.drew b Y2 Y2.nL∧OG 74 5 V11.drew b (some ⟨g1,0,none⟩) (ts.length+1) c3 (tV (ts.length+1) fun k=>(fsF fs k).frame)∧V11.drew.heap[g7]?=some (.cells ({ Y.K j with refs:=(Y.K j).refs-1 }:Pkt).cells 97 (0,0))):=⟨HU.out.1.up hd,HU.out.2.1.up hd,HU.out.2.2.1.up hd,(hd.block _ (fH HU.out.2.2.2)).trans HU.out.2.2.2⟩
       clear hd
       generalize V11.drew=D at *
       have hT0:D.heap[w.heap.size]?=some (.cells S.cells 40 (0,0))∧D.heap[g6]?=some (.cells Y2.cells 40 (0,0))∧D.heap[g7]?=some (.cells ({ Y.K j with refs:=(Y.K j).refs-1 }:Pkt).cells 97 (0,0)):=⟨HD.out.1.a,HD.out.1.o,HD.out.2.2.2⟩
       have hwn:IntKind.i64.wrap (-(Y.K j).cl)=-(Y.K j).cl:=mM _ (by have:=HF7.out.1.cl;omega) (by have:=HF7.out.1.cl;omega)
       refine tG 0 146 hT0 ?_
       refine pj (i:=1) (some 147) (v:=.agg S.C.cells) ?_ hT0 ?_
       ·
        intro wx hSw
        exact iV 34 7 _ Tryz.underlying34 rfl zC (.tmp 146) rfl w.heap.size 0 rfl S.C.cells rfl (fun q hq=>by
         rw [Nat.zero_add,fG hSw.1]
         have:q=0∨q=1∨q=2∨q=3∨q=4∨q=5∨q=6:=by omega
         rcases this with rfl | rfl | rfl | rfl | rfl | rfl | rfl <;> rfl)
       try simp only [Act.put,PZ]
       refine tG 2 148 hT0 ?_
       refine pj (i:=3) (some 149) (v:=.agg Y2.N.cells) ?_ hT0 ?_
       ·
        intro wx hSw
        exact iV 36 3 _ Tryz.underlying36 rfl mZ (.tmp 148) rfl g6 10 rfl Y2.N.cells rfl (fun q hq=>by
         rw [fG hSw.2.1]
         have:q=0∨q=1∨q=2:=by omega
         rcases this with rfl | rfl | rfl <;> rfl)
       try simp only [Act.put,PZ]
       refine tG 4 150 hT0 ?_
       refine pj (i:=5) (some 151) (v:=?_) ?_ hT0 ?_
       rotate_left
       ·
        intro wx hSw
        have b1:wx.cell? ⟨g7,1,none⟩=some (.int .i64 (Y.K j).inn):=fG hSw.2.2 1
        exact dW
       try simp only [Act.put,PZ]
       refine tG 6 152 hT0 ?_
       refine tG 7 153 hT0 ?_
       refine pj (i:=8) (some 154) (v:=?_) ?_ hT0 ?_
       rotate_left
       ·
        intro wx hSw
        have b6:wx.cell? ⟨g7,6,none⟩=some (.int .i64 (Y.K j).p):=fG hSw.2.2 6
        exact dW
       try simp only [Act.put,PZ]
       refine tG 9 155 hT0 ?_
       refine pj (i:=10) (some 156) (v:=.agg #[.int .i64 (Y.K j).k,.int .i64 (Y.K j).d,.int .i64 (Y.K j).s,.int .i64 (Y.K j).p,.string (Y.K j).b]) ?_ hT0 ?_
       ·
        intro wx hSw
        exact iV 74 5 _ Tryz.underlying74 rfl me (.tmp 155) rfl g7 3 rfl #[.int .i64 (Y.K j).k,.int .i64 (Y.K j).d,.int .i64 (Y.K j).s,.int .i64 (Y.K j).p,.string (Y.K j).b] rfl (fun q hq=>(fG hSw.2.2 _).trans (Dy ({ Y.K j with refs:=(Y.K j).refs-1 }:Pkt) q hq))
       try simp only [Act.put,PZ]
       refine il (rs:=[11]) (by kernel_rfl) (by simp) ?_
       refine gi.cons rfl (fun K hK=>?_) gi.nil
       go_simp
       refine (iL (Y.K j).k (Y.K j).d (Y.K j).s (Y.K j).p (Y.K j).b _ HF7.out.1.le).mono ?_
       rintro e D1 ⟨rfl,hb⟩
       rw [show (((Y.K j).b.size:Int)+9+9) / 10=(Y.K j).cl from rfl]
       have HD1:Hid (SpS w S Y2 b g6 D1∧jd D1 b Y2 Y2.nL∧OG 74 5 D1 b (some ⟨g1,0,none⟩) (ts.length+1) c3 (tV (ts.length+1) fun k=>(fsF fs k).frame)∧D1.heap[g7]?=some (.cells ({ Y.K j with refs:=(Y.K j).refs-1 }:Pkt).cells 97 (0,0))):=⟨HD.out.1.up hb,HD.out.2.1.up hb,HD.out.2.2.1.up hb,(hb.block _ (fH HD.out.2.2.2)).trans HD.out.2.2.2⟩
       have hT1:D1.heap[w.heap.size]?=some (.cells S.cells 40 (0,0))∧D1.heap[g6]?=some (.cells Y2.cells 40 (0,0))∧D1.heap[g7]?=some (.cells ({ Y.K j with refs:=(Y.K j).refs-1 }:Pkt).cells 97 (0,0)):=⟨HD1.out.1.a,HD1.out.1.o,HD1.out.2.2.2⟩
       clear hb hT0 HD
       go_wp2_with fail
       refine hK.out _ _ hT1 ?_
       clear hK K
       try simp only [Act.put,PZ]
       refine tG 12 158 hT1 ?_
       refine il (rs:=[13]) (by kernel_rfl) (by simp) ?_
       refine gi.cons rfl (fun K hK=>?_) gi.nil
       go_simp
       refine (xK S.C Y2.N (Y.K j).inn (Y.K j).p (-(Y.K j).cl) _ (by rw [HN2.out.1];exact HN2.out.2.2.1) HD1.out.2.1.n.rd (by have:=HF7.out.2;rw [HN2.out.2.2.2.2] at this;exact this) (by have:=HF7.out.1.cl;omega) (by have:=HF7.out.1.cl;omega) (by rw [HN2.out.1];exact HN2.out.2.2.2.1)).mono ?_
       rintro e D2 ⟨M,rfl,oM,hb,aM⟩
       rw [HN2.out.1] at aM
       have hz1:=HD1.out.1.size
       have HD2:Hid (SpS w S Y2 b g6 D2∧jd D2 b Y2 Y2.nL∧OG 74 5 D2 b (some ⟨g1,0,none⟩) (ts.length+1) c3 (tV (ts.length+1) fun k=>(fsF fs k).frame)∧gR D2 D1.heap.size M∧gx (kF Y.N (Y.K j).inn (Y.K j).p (-(Y.K j).cl)) M∧b<D1.heap.size):=⟨HD1.out.1.up hb,HD1.out.2.1.up hb,HD1.out.2.2.1.up hb,oM,aM,hz1⟩
       have hT2:D2.heap[w.heap.size]?=some (.cells S.cells 40 (0,0))∧D2.heap[g6]?=some (.cells Y2.cells 40 (0,0))∧D2.heap[g7]?=some (.cells ({ Y.K j with refs:=(Y.K j).refs-1 }:Pkt).cells 97 (0,0)):=⟨HD2.out.1.a,HD2.out.1.o,(hb.block _ (fH HD1.out.2.2.2)).trans HD1.out.2.2.2⟩
       clear hb hT1 HD1 oM aM hz1
       go_wp2_with fail
       refine hK.out _ _ hT2 ?_
       clear hK K
       try simp only [Act.put,PZ]
       refine tG 14 145 hT2 ?_
       refine tG 15 160 hT2 ?_
       refine tG 17 162 hT2 ?_
       refine il (rs:=[16,18]) (by kernel_rfl) (by simp) ?_
       refine gi.cons rfl (fun K hK=>?_) (gi.last rfl (fun K hK=>?_))
       ·
        go_simp
        refine hK.out _ _ hT2 ?_
        clear hK K
        try simp only [Act.put,PZ]
        refine il (rs:=[18]) (by kernel_rfl) (by simp) ?_
        refine gi.last rfl (fun K hK=>?_)
        refine jz (by kernel_rfl) none rfl 36 (.tmp 162) (.tmp 160) rfl g6 10 rfl (.agg M.cells) rfl 3 rfl 40 _ hT2.2.1 mZ (Nat.le_of_ble_eq_true rfl) (Cnt.lL _) ?_
        intro D3 hP
        exact fv
       refine jz (by kernel_rfl) none rfl 36 (.tmp 162) (.tmp 160) rfl g6 10 rfl (.agg M.cells) rfl 3 rfl 40 _ hT2.2.1 mZ (Nat.le_of_ble_eq_true rfl) (Cnt.lL _) ?_
       intro D3 hP
       refine hK.out _ _ ?_
       clear hK K
       try simp only [Act.put,PZ]
       refine il (rs:=[16]) (by kernel_rfl) (by simp) ?_
       refine gi.late rfl (by kernel_rfl) (fun K hK=>?_)
       go_simp
       exact fv
      obtain ⟨M,HE⟩:=hcut
      obtain ⟨Y3,eY3⟩:∃ Y3:Swg,{ Y2 with N:=M }=Y3:=⟨_,rfl⟩
      have HW:Hid (SpS w S Y3 b g6 wc∧jd wc b Y3 Y3.nL∧OG 74 5 wc b (some ⟨g1,0,none⟩) (ts.length+1) c3 (tV (ts.length+1) fun k=>(fsF fs k).frame)):=by
       rw [←eY3]
       exact ⟨HE.out.2.1,HE.out.2.2.1,HE.out.2.2.2⟩
      have HAF:Hid (ga S' Y3):=by
       have hA:=HA1.out
       rw [Hid,←eY3,←HE2.out,←HE1.out]
       refine hA.trans ⟨rfl,rfl,rfl,rfl,rfl,HE.out.1,rfl,?_,rfl,fun i _=>gy.refl _,rfl,rfl⟩
       show rmK (kq Y.K j) j=rmK Y.K j
       exact yH Y.K j
      clear HE eY3 HU HY HE1 HE2 HA1 HN2 HF7
      have HL6:Hid (∀ q,q<17→wc.cell? ⟨g6,0+q,none⟩=Y3.cells[q]?):=fun q _=>by rw [Nat.zero_add];exact fG HW.out.1.o q
      have HD4:Hid (wc.heap[w.heap.size+1]?=some (.cells zSw 40 (0,0))):=HW.out.1.z
      go_wp2_with (first | refine fP rfl 40 17 _ Tryz.underlying40 rfl fZ (.tmp 6) rfl g6 0 rfl Y3.cells rfl HL6.out ?_ | refine fJ rfl 40 (.tmp 4) (.tmp 163) rfl (w.heap.size+1) 0 rfl (.agg Y3.cells) rfl 17 rfl 40 _ HD4.out fZ (Nat.le_of_ble_eq_true rfl) (Swg.lL _) ?_)
      intro Zf hP
      replace hP:Put wc Zf (w.heap.size+1) Y3.cells 40:=hP.cast rfl
      have HK:Hid (Zf.heap[w.heap.size+1]?=some (.cells Y3.cells 40 (0,0))):=hP.blk
      have HFF:Hid (jd Zf w.heap.size Y3 Y3.nL∧OG 74 5 Zf w.heap.size (some ⟨g1,0,none⟩) (ts.length+1) c3 (tV (ts.length+1) fun k=>(fsF fs k).frame)∧Below w.heap.size w Zf):=BK HW.out.1 HW.out.2.1 HW.out.2.2 hP
      clear hP HL6 HD4
      repeat (first | go_values | go_skip | go_step)
      rw [HJ2.out]
      exact bodyPost_ret (nJ Tryz.results20 17 _ Tryz.underlying40 rfl fZ _ _ (w.heap.size+1) Y3.cells rfl 40 HK.out rfl (.slice (some ⟨g1,0,none⟩) (ts.length+1) c3) rfl) rfl ⟨Y3,some ⟨g1,0,none⟩,c3,rfl,HAF.out,HFF.out.1,HFF.out.2.1,HFF.out.2.2⟩
theorem mg (a1 a2:Option Addr) (n c1 c2:Nat) (K1:Nat→Pkt) (w:World) (hn:n≤1048576) (h1:RdF w a1 n K1) (h2:RdF w a2 n K1) :
  Calls Tryz.prog 9 #[.slice a1 n c1,.slice a2 n c2] w fun e w'=>e=.returned (.bool true)∧Below w.heap.size w w':=by
 have H1:Hid (RdF w a1 n K1):=h1
 have H2:Hid (RdF w a2 n K1):=h2
 clear h1 h2
 go_enter Tryz.func9,Tryz.ntmps9
 go_wp2_with fail
 go_loopw [5] (fun i wr=>∃ k:Nat,k≤n∧i=.int .i64 k∧Below w.heap.size w wr) (fun i _=>n-(intOf i).toNat)
 case atStart=>exact ⟨0,Nat.zero_le _,rfl,Below.refl _ _⟩
 obtain ⟨k,hk,rfl,hB⟩:=hrel
 by_cases hlt:k<n
 ·
  have hlt':(k:Int)<n:=by omega
  obtain ⟨g,o,ha,hc⟩:=(H1.out.up hB.drew).at hlt
  obtain ⟨g2,o2,ha2,hc2⟩:=(H2.out.up hB.drew).at hlt
  subst ha ha2
  have HC:Hid ((∀ j,j<5→wr.drew.cell? ⟨g,o+k*5+j,none⟩=(K1 k).frame[j]?)∧∀ j,j<5→wr.drew.cell? ⟨g2,o2+k*5+j,none⟩=(K1 k).frame[j]?):=⟨hc,hc2⟩
  clear hc hc2
  go_wp2_with fail
  refine wp_region_held_drew (S:=fun w'=>(∀ j,j<5→w'.cell? ⟨g,o+k*5+j,none⟩=(K1 k).frame[j]?)∧∀ j,j<5→w'.cell? ⟨g2,o2+k*5+j,none⟩=(K1 k).frame[j]?) (by kernel_rfl) HC.out (fun hHeld=>?_)
  refine tP 0 17 ?_
  refine tP 1 18 ?_
  refine tP 2 19 ?_
  refine tC 3 20 (v:=.agg (K1 k).frame) (fun wx hSw=>iV 74 5 _ Tryz.underlying74 rfl zv (.tmp 19) rfl g (o+k*5) rfl (K1 k).frame rfl hSw.1) ?_
  try simp only [Act.put,PZ]
  refine tP 4 21 ?_
  refine tP 5 22 ?_
  refine tP 6 23 ?_
  refine tC 7 24 (v:=.agg (K1 k).frame) (fun wx hSw=>iV 74 5 _ Tryz.underlying74 rfl zv (.tmp 23) rfl g2 (o2+k*5) rfl (K1 k).frame rfl hSw.2) ?_
  try simp only [Act.put,PZ]
  refine rq1 8 (fun K hK=>?_)
  go_simp
  refine (oC (K1 k).k (K1 k).d (K1 k).s (K1 k).p (K1 k).b _).mono ?_
  rintro e w1 ⟨rfl,hb⟩
  have HB1:Hid (Below w.heap.size w w1):=hB.drew.trans (hb.mono hB.drew.size)
  have HC1:Hid ((∀ j,j<5→w1.cell? ⟨g,o+k*5+j,none⟩=(K1 k).frame[j]?)∧∀ j,j<5→w1.cell? ⟨g2,o2+k*5+j,none⟩=(K1 k).frame[j]?):=⟨mw rfl HC.out.1 hb,mw rfl HC.out.2 hb⟩
  clear hb HC hB
  go_wp2_with fail
  refine hK.out _ _ HC1.out (fun hHeld=>?_)
  clear hK K
  try simp only [Act.put,PZ]
  refine tP 9 26 ?_
  refine dnq ?_
  clear hHeld HC1
  go_wp2_with fail
  go_roundw
  case rel=>exact ⟨k+1,by omega,by go_num,HB1.out⟩
  case measure=>simp [intOf];omega
 obtain rfl:k=n:=by omega
 go_wp2_with fail
 go_ret
 exact ⟨rfl,hB⟩
open Go.ChangeShapes Go.WideShapes Go.ChangeAt Go.RowKit
theorem A8:laidOutB Tryz.prog=true:=by kernel_rfl
theorem CI:ownKnob Tryz.prog.godebug=none:=by kernel_rfl
theorem An (b off i:Nat):(⟨b,off,none⟩:Addr).add i=⟨b,off+i,none⟩:=by unfold Addr.add;split <;> simp_all
theorem rh {H:Type} {enc:TypeId × Value→H} {W:World} {held:Bool} {fuel:Nat} {v:Value} {x:DataW H × List MemPlace}
  (h:DataW.trod enc Tryz.prog W 0 (fun _=>true) held fuel 26 [v]=some x):∃ (a:Option Addr) (n c:Nat) (f:Nat→Bool),v=.slice a n c∧n≤maxLen∧fY W a n (fun i=>.bool (f i)):=by
 rcases Go.Deep.open_bools Tryz.underlying26 Tryz.underlying4 (by kernel_rfl) h with ⟨hcs,_⟩ | ⟨x,l,c,B,hcs,_,hl,hm,_,hcell⟩
 ·
  simp at hcs
  exact ⟨_,_,_,fun _=>false,hcs,Nat.zero_le _,fY.nil _ _ _⟩
 simp at hcs
 refine ⟨_,_,_,B,hcs,by omega,fun i hi=>?_⟩
 have hci:=hcell i (by omega)
 obtain ⟨b,off,spot⟩:=x
 have hspot:spot=none:=by simpa [Addr.add] using World.cell?_spot (hcell 0 (by omega))
 subst hspot
 refine ⟨b,off,rfl,?_⟩
 rw [An] at hci
 exact hci
theorem nu (b off i:Nat):(⟨b,off,none⟩:Addr).add i=⟨b,off+i,none⟩:=by unfold Addr.add;split <;> simp_all
theorem kj {H:Type} {enc:TypeId × Value→H} {W:World} {held:Bool} {fuel:Nat} {v:Value} {x:DataW H × List MemPlace}
  (h:DataW.trod enc Tryz.prog W 0 (fun _=>true) held fuel 25 [v]=some x):∃ (a:Option Addr) (n c:Nat) (f:Nat→Int),v=.slice a n c∧n≤maxLen∧fY W a n (fun i=>.int .i64 (f i)):=by
 rcases open_ints Tryz.underlying25 Tryz.underlying2 (by kernel_rfl) h with ⟨hcs,_⟩ | ⟨x,l,c,zs,hcs,_,hl,hm,hz,_,hcell,hwz⟩
 ·
  simp at hcs
  exact ⟨_,_,_,fun _=>0,hcs,Nat.zero_le _,fY.nil _ _ _⟩
 simp at hcs
 refine ⟨_,_,_,fun i=>zs.getD i 0,hcs,by omega,fun i hi=>?_⟩
 have hz':zs.length=c:=by simpa using hz
 have hci:=hcell i (by omega)
 obtain ⟨b,off,spot⟩:=x
 have hspot:spot=none:=by simpa [Addr.add] using World.cell?_spot (hcell 0 (by omega))
 subst hspot
 refine ⟨b,off,rfl,?_⟩
 rw [nu] at hci
 exact hci
theorem qx {H:Type} {enc:TypeId × Value→H} {W:World} {held:Bool} {fuel:Nat} {v:Value} {x:DataW H × List MemPlace}
  (h:DataW.trod enc Tryz.prog W 0 (fun _=>true) held fuel 87 [v]=some x):∃ (a:Option Addr) (n c:Nat) (A:Nat→Option Addr) (L C:Nat→Nat) (z:Nat→Nat→Int),v=.slice a n c∧n≤maxLen∧fY W a n (fun i=>.slice (A i) (L i) (C i))∧(∀ i,i<n→L i≤maxLen)∧∀ i,i<n→fY W (A i) (L i) (fun j=>.int .i64 (z i j)):=by
 rcases Go.Deep.open_int_rows Tryz.underlying87 Tryz.underlying25 Tryz.underlying2 (by kernel_rfl) (by kernel_rfl) h with ⟨hcs,_⟩ | ⟨a,len,cap,A,L,C,Z,hcs,_,hl,hm,_,hx⟩
 ·
  simp at hcs
  exact ⟨_,_,_,fun _=>none,fun _=>0,fun _=>0,fun _ _=>0,hcs,Nat.zero_le _,fY.nil _ _ _,fun i hi=>by omega,fun i hi=>by omega⟩
 simp at hcs
 refine ⟨_,_,_,A,L,C,fun i j=>(Z i).getD j 0,hcs,by omega,fun i hi=>?_,fun i hi=>?_,fun i hi j hj=>?_⟩
 ·
  have hci:=(hx i (by omega)).1
  obtain ⟨b,off,spot⟩:=a
  have hspot:spot=none:=by simpa [Addr.add] using World.cell?_spot (hx 0 (by omega)).1
  subst hspot
  rw [nu] at hci
  exact ⟨b,off,rfl,hci⟩
 ·
  have h1:=hx i (by omega)
  have:=h1.2.1
  have:=h1.2.2.1
  omega
 have h1:=hx i (by omega)
 have hLC:=h1.2.1
 cases hA:A i with
 | none =>
  have:=h1.2.2.2.2.2.1 hA
  omega
 | some a' =>
  have hc:=h1.2.2.2.2.2.2 a' hA
  have hci:=hc.2 j (by omega)
  obtain ⟨b,off,spot⟩:=a'
  have hspot:spot=none:=by simpa [Addr.add] using World.cell?_spot (hc.2 0 (by omega))
  subst hspot
  rw [nu] at hci
  exact ⟨b,off,rfl,hci⟩
theorem Am (b off i:Nat):(⟨b,off,none⟩:Addr).add i=⟨b,off+i,none⟩:=by unfold Addr.add;split <;> simp_all
theorem vm {H:Type} {enc:TypeId × Value→H} {W:World} {held:Bool} {fuel:Nat} {v:Value} {x:DataW H × List MemPlace}
  (h:DataW.trod enc Tryz.prog W 0 (fun _=>true) held fuel 24 [v]=some x):∃ (a:Option Addr) (n c:Nat) (f:Nat→Ent),v=.slice a n c∧n≤maxLen∧iZ W a n f:=by
 rcases Go.Deep.open_slice Tryz.underlying24 h with ⟨hcs,_⟩ | ⟨a,len,cap,m,n,D,Pl,hcs,hb,hl,hm,hmm,_,hx⟩
 ·
  simp at hcs
  exact ⟨_,_,_,fun _=>default,hcs,Nat.zero_le _,iZ.nil _ _ _⟩
 simp at hcs hmm
 subst hmm
 have each:∀ i,i<m→∃ y:Ent,W.cell? (a.add (i*3))=some (.int .i64 y.m)∧W.cell? (a.add (i*3+1))=some (.int .i64 y.p)∧W.cell? (a.add (i*3+2))=some (.int .i64 y.t):=by
  intro i hi
  obtain ⟨cs',h1,h2⟩:=hx i hi
  rw [show Tryz.prog.cellsOf 112=3 by kernel_rfl] at h1
  obtain ⟨_,hlen,hcell⟩:=World.cells?_some h1
  obtain ⟨xs,k,hk,hxy,_,hxl,hf⟩:=DataW.trod_struct Tryz.underlying112 h2
  match xs,hxl,cs',hlen with
  | [y0,y1,y2],_,[v0,v1,v2],_ =>
   have g0:=hf 0 _ rfl
   have g1:=hf 1 _ rfl
   have g2:=hf 2 _ rfl
   simp [show Tryz.prog.cellsOf 2=1 by kernel_rfl] at g0 g1 g2
   obtain ⟨z0,q0,_,_⟩:=DataW.trod_int Tryz.underlying2 g0
   obtain ⟨z1,q1,_,_⟩:=DataW.trod_int Tryz.underlying2 g1
   obtain ⟨z2,q2,_,_⟩:=DataW.trod_int Tryz.underlying2 g2
   simp at q0 q1 q2
   subst q0 q1 q2
   have e0:=hcell 0 (by omega)
   have e1:=hcell 1 (by omega)
   have e2:=hcell 2 (by omega)
   rw [Go.Deep.add_add] at e0 e1 e2
   exact ⟨⟨z0,z1,z2⟩,by simpa using e0,by simpa using e1,by simpa using e2⟩
 obtain ⟨f,hf⟩:=Go.Deep.choose_lt each
 refine ⟨_,_,_,f,hcs,by omega,fun i hi=>?_⟩
 obtain ⟨q1,q2,q3⟩:=hf i (by omega)
 obtain ⟨b,off,spot⟩:=a
 have hspot:spot=none:=by simpa [Addr.add] using World.cell?_spot (hf 0 (by omega)).1
 subst hspot
 rw [Am] at q1 q2 q3
 exact ⟨b,off,rfl,q1,q2,q3⟩
end Go.Proofs.YtfcfpkibceepgaaGreat
