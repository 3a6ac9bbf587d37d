import Derived.Test.YthicmlolanifhaaGreatK09
import Derived.Test.YthicmlolanifhaaGreatK22
namespace Go.Proofs.YthicmlolanifhaaGreat
set_option maxRecDepth 100000
set_option maxHeartbeats 9000000
open Go.RowKit
set_option linter.unusedVariables false
set_option linter.unusedSimpArgs false
theorem az {p:Prop} (h:p:=by
 have kz3:=kh kR4 (.slice none 0 0) (.int .i64 0) (.slice none 0 0)
 have HB:Hid (Below w.heap.size w (oD w4 (w.heap.size+1+1) (.slice none 0 0) (.int .i64 0) (.slice none 0 0))):=B4.trans ((iZ _ _ _ _ _).below B4.size (fun x hx=>by simp at hx;omega))
 have cB:=gM kz3
 clear kz3 kX4 kR4 B4 hM4
 unfold oD at cB
 go_wp2_with fail
 exact bodyPost_ret (v:=.tuple #[.agg #[.slice none 0 0,.int .i64 0,.slice none 0 0],.bool false]) (by simp [results,Tryz.results142,go_sem,cB]) rfl ⟨vf,rfl,qV _ _,HB.out,iA.refl _⟩):p:=h
theorem dh {p:Prop} (h:p:=by
 have kz3:=kh kR4 (.slice none 0 0) (.int .i64 0) (.slice none 0 0)
 have HB:Hid (Below w.heap.size w (oD w4 (w.heap.size+1+1) (.slice none 0 0) (.int .i64 0) (.slice none 0 0))):=B4.trans ((iZ _ _ _ _ _).below B4.size (fun x hx=>by simp at hx;omega))
 have cB:=gM kz3
 clear kz3 kX4 kR4 B4 hM4
 unfold oD at cB
 go_wp2_with fail
 exact bodyPost_ret (v:=.tuple #[.agg #[.slice none 0 0,.int .i64 0,.slice none 0 0],.bool false]) (by simp [results,Tryz.results70,go_sem,cB]) rfl ⟨vf,rfl,qV _ _,HB.out,iA.refl _⟩):p:=h
theorem sJ (R:Rnd) (w:World) (hs:R.Small) (h:j4 w R) (ho:R.Ok) (hno:∀ i,i<R.nQ→R.L i=0) :
  Calls Tryz.prog 68 #[.agg R.cells] w fun e w'=>∃ M,e=.returned (.tuple #[.agg M.cells,.int .i64 (-1),.int .i64 0])∧iX w' w.heap.size M∧Below w.heap.size w w'∧Alike R M∧∀ i,i<M.nS→M.L i≤M.C i:=by
 obtain ⟨aQ,nQ,cQ,q,aD,nD,cD,d,turn,fresh,aS,nS,cS,A,L,C,z⟩:=R
 have HSm:Hid (Rnd.Small ⟨aQ,nQ,cQ,q,aD,nD,cD,d,turn,fresh,aS,nS,cS,A,L,C,z⟩):=hs
 have HRd:Hid (j4 w ⟨aQ,nQ,cQ,q,aD,nD,cD,d,turn,fresh,aS,nS,cS,A,L,C,z⟩):=h
 have hsS:nS≤1048576:=hs.s
 have HnS:Hid (nS=nQ):=ho.s
 have HNo:Hid (∀ i,i<nQ→L i=0):=hno
 have HRow:Hid (iq w aS nS fun i=>.slice (A i) (L i) (C i)):=h.s
 have hB:Below (w.heap.size+2) ((w.alloc (.cells #[.slice aQ nQ cQ,.slice aD nD cD,.int .i64 turn,.bool fresh,.slice aS nS cS] 46)).alloc (.cells #[.slice none 0 0,.slice none 0 0,.int .i64 0,.bool false,.slice none 0 0] 46)) ((w.alloc (.cells #[.slice aQ nQ cQ,.slice aD nD cD,.int .i64 turn,.bool fresh,.slice aS nS cS] 46)).alloc (.cells #[.slice none 0 0,.slice none 0 0,.int .i64 0,.bool false,.slice none 0 0] 46)):=Below.refl _ _
 have cb:=Bb hB
 clear hs h ho hno
 unfold Rnd.cells
 dsimp only
 go_enter Tryz.func68,Tryz.ntmps68
 go_wp2_with fail
 go_loop [5,6] (fun bv i=>∃ (j:Nat),j≤nS∧i=.int .i64 j∧bv=.bool false) (fun _ i=>nS-(intOf i).toNat)
 case atStart=>exact ⟨0,Nat.zero_le _,rfl,rfl⟩
 obtain ⟨j,hj,rfl,rfl⟩:=hrel
 by_cases hlt:j<nS
 ·
  have hlt':(j:Int)<nS:=by omega
  obtain ⟨g,o,rfl,s1⟩:=(HRow.out.up (oO hB)) j hlt
  dsimp only at s1
  have hLj:L j=0:=HNo.out j (by have:=HnS.out;omega)
  rw [hLj] at s1
  clear hLj
  go_wp2_with fail
  go_round
  case rel=>exact ⟨j+1,by omega,by go_num,rfl⟩
  case measure=>simp [intOf];omega
 obtain rfl:j=nS:=by omega
 have hjj:¬ ((j:Nat):Int)<((j:Nat):Int):=by omega
 go_wp2_with fail
 refine (lg ⟨aQ,nQ,cQ,q,aD,nD,cD,d,turn,fresh,aS,j,cS,A,L,C,z⟩ _ HSm.out (HRd.out.up (oO hB))).mono ?_
 rintro e w3 ⟨aq,cq,ad,cd,av,cv,A2,C2,rfl,hOw,hb⟩
 have HCap:Hid (∀ i,i<j→L i≤C2 i):=fun i hi=>EG (hOw.z i hi)
 replace hB:=qw hB hb
 have hA:=(Below.refl w3.heap.size w3).alloc (Nat.le_refl _) (.cells #[.slice aq nQ cq,.slice ad nD cd,.int .i64 turn,.bool fresh,.slice av j cv] 46)
 have kb:=gV w3 (.cells #[.slice aq nQ cq,.slice ad nD cd,.int .i64 turn,.bool fresh,.slice av j cv] 46)
 have hOw2:=hOw.own.up hA
 have hgb:w.heap.size+2≤w3.heap.size:=by have:=kF hB;omega
 replace hB:=qw hB hA
 clear hb hA hOw
 dsimp only [Rnd.cells,Rnd.cp2]
 go_wp2_with fail
 generalize w3.alloc (.cells #[.slice aq nQ cq,.slice ad nD cd,.int .i64 turn,.bool fresh,.slice av j cv] 46)=w4 at *
 generalize w3.heap.size=gb at *
 have HB4:Hid (Below (w.heap.size+2) _ w4):=hB
 have kR:=DG hB
 have cR:=gM kR
 have fR:=ic kR
 have cG:=gM kb
 have hne:gb≠w.heap.size+1:=by omega
 have hne2:w.heap.size+1≠gb:=by omega
 have hbase:((w.alloc (.cells #[.slice aQ nQ cQ,.slice aD nD cD,.int .i64 turn,.bool fresh,.slice aS j cS] 46)).alloc (.cells #[.slice none 0 0,.slice none 0 0,.int .i64 0,.bool false,.slice none 0 0] 46)).heap.size=w.heap.size+2:=by simp
 rw [hbase] at hOw2
 have HOw:Hid (iX w4 (w.heap.size+2) (Rnd.cp2 ⟨aQ,nQ,cQ,q,aD,nD,cD,d,turn,fresh,aS,j,cS,A,L,C,z⟩ aq cq ad cd av cv A2 C2)):=hOw2
 have HKR:Hid (w4.heap[w.heap.size+1]?=some (.cells #[.slice none 0 0,.slice none 0 0,.int .i64 0,.bool false,.slice none 0 0] 46 (0,0))):=kR
 have HUn:Hid (Below w.heap.size w w4):=oO hB
 clear hOw2 hbase hB kR kb HRd HSm HRow HNo HnS
 go_loopw [8] (fun _ wr=>wr=w4) (fun _ _=>0)
 case atStart=>rfl
 obtain rfl:=hrel
 go_wp2_with fail
 have ht:=jX wr (w.heap.size+1) (.slice aq nQ cq) (.slice ad nD cd) (.int .i64 turn) (.bool fresh) (.slice av j cv)
 have cF:=gM (l8 HKR.out (.slice aq nQ cq) (.slice ad nD cd) (.int .i64 turn) (.bool fresh) (.slice av j cv))
 have hBf:=HUn.out.trans (ht.below HUn.out.size (fun x hx=>by simp at hx;omega))
 have hOf:=(HOw.out.jm ht (fun x hx=>by simp at hx;omega)).mono (show w.heap.size≤w.heap.size+2 by omega)
 unfold sf at cF hBf hOf
 exact bodyPost_ret (v:=.tuple #[.agg #[.slice aq nQ cq,.slice ad nD cd,.int .i64 turn,.bool fresh,.slice av j cv],.int .i64 (-1),.int .i64 0]) (by simp [results,Tryz.results68,go_sem,cF]) rfl ⟨Rnd.cp2 ⟨aQ,nQ,cQ,q,aD,nD,cD,d,turn,fresh,aS,j,cS,A,L,C,z⟩ aq cq ad cd av cv A2 C2,rfl,hOf,hBf,⟨rfl,rfl,rfl,rfl,rfl,rfl,rfl,rfl,rfl⟩,HCap.out⟩
def pM (R M:Rnd) (x s:Int):Prop :=
 (¬ R.Ok∧M=zR∧x=-1∧s=0)∨(R.Ok∧(∀ i,i<R.nQ→R.L i=0)∧M=R∧x=-1∧s=0)∨(R.Ok∧(∃ c0,c0<R.nQ∧R.L c0≠0)∧∃ k c,jL k R M c s∧x=((c:Nat):Int))
theorem Cd (R:Rnd):∃ M x s,pM R M x s:=by
 by_cases ho:R.Ok
 ·
  by_cases hw:∃ c0,c0<R.nQ∧R.L c0≠0
  ·
   obtain ⟨c0,h1,h2⟩:=hw
   obtain ⟨k,R',c,s,hp⟩:=Cb c0 _ R rfl ho h1 h2
   exact ⟨R',c,s,.inr (.inr ⟨ho,⟨c0,h1,h2⟩,k,c,hp,rfl⟩)⟩
  refine ⟨R,-1,0,.inr (.inl ⟨ho,fun i hi=>?_,rfl,rfl,rfl⟩)⟩
  by_cases e:R.L i=0
  ·
   exact e
  exact absurd ⟨i,hi,e⟩ hw
 exact ⟨zR,-1,0,.inl ⟨ho,rfl,rfl,rfl⟩⟩
theorem Alike.okI {A B:Rnd} (h:Alike A B):B.Ok↔A.Ok:=by
 have key:∀ {A B:Rnd},Alike A B→A.Ok→B.Ok:=fun {A B} h ho=>by
  refine ⟨by rw [h.nQ];exact ho.n,by rw [h.nD,h.nQ];exact ho.d,by rw [h.nS,h.nQ];exact ho.s,by rw [h.t,h.nQ];exact ho.t,fun i hi=>?_⟩
  have:=ho.c i (by rw [←h.nQ];exact hi)
  unfold Rnd.begun at this ⊢
  rw [h.q,h.d,h.l,h.z,h.t,h.f]
  exact this
 exact ⟨key h.symm,key h⟩
theorem pM.sG {R M B:Rnd} {x s:Int} (h:pM R M x s) (ha:Alike R B):∃ M',pM B M' x s∧Alike M M':=by
 rcases h with ⟨ho,rfl,h1,h2⟩ | ⟨ho,hn,rfl,h1,h2⟩ | ⟨ho,⟨c0,h1,h2⟩,k,c,hp,hx⟩
 ·
  exact ⟨zR,.inl ⟨fun hb=>ho (ha.okI.1 hb),rfl,h1,h2⟩,Alike.refl _⟩
 ·
  exact ⟨B,.inr (.inl ⟨ha.okI.2 ho,fun i hi=>by rw [ha.l];exact hn i (by rw [←ha.nQ];exact hi),rfl,h1,h2⟩),ha⟩
 obtain ⟨B',hp2,ha2⟩:=hp.sG ha
 exact ⟨B',.inr (.inr ⟨ha.okI.2 ho,⟨c0,by rw [ha.nQ];exact h1,by rw [ha.l];exact h2⟩,k,c,hp2,hx⟩),ha2⟩
theorem uH (R M:Rnd) (x s:Int) (w:World) (hs:R.Small) (h:j4 w R) (ho:R.Ok) (hp:pM R M x s) :
  Calls Tryz.prog 68 #[.agg R.cells] w fun e w'=>∃ R',e=.returned (.tuple #[.agg R'.cells,.int .i64 x,.int .i64 s])∧iX w' w.heap.size R'∧Below w.heap.size w w'∧Alike M R'∧∀ i,i<R'.nS→R'.L i≤R'.C i:=by
 rcases hp with ⟨hn,_⟩ | ⟨_,hn,rfl,rfl,rfl⟩ | ⟨_,⟨c0,h1,h2⟩,k,c,hp,rfl⟩
 ·
  exact absurd ho hn
 ·
  exact sJ _ w hs h ho hn
 exact vY R w hs h ho c0 h1 h2 k M c s hp
theorem uI (R M:Rnd) (x s:Int) (w:World) (hs:R.Small) (h:j4 w R) (ho:R.Ok) (hp:pM R M x s) :
  Calls Tryz.prog 68 #[.agg R.cells] w fun e w'=>∃ R',e=.returned (.tuple #[.agg R'.cells,.int .i64 x,.int .i64 s])∧iX w' w.heap.size R'∧Below w.heap.size w w'∧Alike M R' :=
 (uH R M x s w hs h ho hp).mono fun e w' ⟨M,h1,h2,h3,h4,_⟩=>⟨M,h1,h2,h3,h4⟩
theorem uF {w wi:World} {o o' o2:Obj} (h:Below (w.heap.size+3) (((w.alloc o).alloc o').alloc o2) wi):wi.heap[w.heap.size]?=some o∧wi.heap[w.heap.size+1]?=some o'∧wi.heap[w.heap.size+1+1]?=some o2:=by
 have e1:(w.alloc o).heap.size=w.heap.size+1:=by simp
 have e2:((w.alloc o).alloc o').heap.size=w.heap.size+1+1:=by simp
 refine ⟨(h.block _ (by omega)).trans ((iv _ (by omega)).trans ((iv _ (by omega)).trans (gV _ _))),(h.block _ (by omega)).trans ((iv _ (by omega)).trans ?_),(h.block _ (by omega)).trans ?_⟩
 ·
  have:=gV (w.alloc o) o'
  rw [e1] at this
  exact this
 have:=gV ((w.alloc o).alloc o') o2
 rw [e2] at this
 exact this
theorem qZ {w wi:World} {o o' o2:Obj} (h:Below (w.heap.size+3) (((w.alloc o).alloc o').alloc o2) wi):Below w.heap.size w wi :=
 ((((Below.refl _ _).alloc (Nat.le_refl _) o).alloc (by simp) o').alloc (by simp;omega) o2).trans (h.mono (by omega))
theorem zG {w wi:World} {o o' o2:Obj} (h:Below (w.heap.size+3) (((w.alloc o).alloc o').alloc o2) wi):w.heap.size+3≤wi.heap.size:=by
 have:=h.size
 simpa using this
theorem yM {w wi wj:World} {o o' o2:Obj} (h:Below (w.heap.size+3) (((w.alloc o).alloc o').alloc o2) wi) (k:Below wi.heap.size wi wj):Below (w.heap.size+3) (((w.alloc o).alloc o').alloc o2) wj :=
 h.trans (k.mono (zG h))
def Cnt.sj (N:Cnt) (i:Nat) (y:Int):Cnt:={ N with u:=Go.Proofs.YthicmlolanifhaaGreat.sj N.u i y }
def Cnt.El (N:Cnt) (y:Int):Cnt:={ N with lo:=N.lo+y }
def oI (N:Cnt) (ok:Bool):Cnt:=if ok then N else vf
structure sc (C:Cfg) (N:Cnt):Prop where
 u:2≤N.nU∧N.nU≤4
 p:2≤N.nP∧N.nP≤4
 lo:0≤N.lo∧N.lo≤1000
 at':∀ i,i<N.nU→0≤N.u i∧N.u i≤2000
theorem Cnt.Ok.facts {C:Cfg} {N:Cnt} (h:Cnt.Ok C N):sc C N:=by
 have h1:=h.nU
 have h2:=h.nP
 have h3:=h.c.num.p
 have h4:=h.lo
 have h5:=h.c.num.lo
 have h6:=h.c.num.xo
 have h7:=h.c.num.hd
 exact ⟨⟨by omega,by omega⟩,⟨by omega,by omega⟩,⟨by omega,by omega⟩,fun i hi=>by have:=h.u i hi;omega⟩
theorem sc.small {C:Cfg} {N:Cnt} (h:sc C N):N.Small:=⟨by have:=h.u;omega,by have:=h.p;omega⟩
theorem iChangedP_any (C:Cfg) (N:Cnt) (i:Nat) (y:Int) (w:World) (hN:Cnt.Ok C N) (h:lJ w N) (hi:i<N.nU) (hy1:-5≤y) (hy2:y≤5) (ok:Bool) (hok:ok=true↔Cnt.Ok C (N.sj i y)) :
  Calls Tryz.prog 142 #[.agg C.cells,.agg N.cells,.iface 155 (.agg #[.int .i64 (i:Int)]),.int .i64 y] w fun e w'=>∃ M:Cnt,e=.returned (.tuple #[.agg M.cells,.bool ok])∧iG w' w.heap.size M∧Below w.heap.size w w'∧iA (oI (N.sj i y) ok) M:=by
 have HO:Hid (ok=true↔Cnt.Ok C (N.sj i y)):=hok
 have HR:Hid (lJ w N):=h
 have HFa:Hid (sc C N):=hN.facts
 have HB0:Hid (Below (w.heap.size+3) (((w.alloc (.cells #[.int .i64 C.p,.int .i64 C.c,.int .i64 C.xo,.int .i64 C.xn,.int .i64 C.hd,.int .i64 C.lo,.int .i64 C.dl] 25)).alloc (.cells #[.slice N.aU N.nU N.cU,.int .i64 N.lo,.slice N.aP N.nP N.cP] 30)).alloc (.cells #[.slice none 0 0,.int .i64 0,.slice none 0 0] 30)) (((w.alloc (.cells #[.int .i64 C.p,.int .i64 C.c,.int .i64 C.xo,.int .i64 C.xn,.int .i64 C.hd,.int .i64 C.lo,.int .i64 C.dl] 25)).alloc (.cells #[.slice N.aU N.nU N.cU,.int .i64 N.lo,.slice N.aP N.nP N.cP] 30)).alloc (.cells #[.slice none 0 0,.int .i64 0,.slice none 0 0] 30))):=Below.refl _ _
 have hsm:=HFa.out.small.u
 have HFit:Hid (N.nU≤maxLen∧N.nP≤maxLen):=⟨HFa.out.small.fit.u,HFa.out.small.fit.p⟩
 have hl1:=HFa.out.lo.1
 have hl2:=HFa.out.lo.2
 have hu1:=(HFa.out.at' i hi).1
 have hu2:=(HFa.out.at' i hi).2
 have hi2:(i:Int)<N.nU:=by omega
 have hnm:(N.nU:Int)≤1048576:=by omega
 clear hok h hN
 unfold Cfg.cells Cnt.cells
 go_enter Tryz.func142,Tryz.ntmps142
 go_wp2_with fail
 refine (sP N _ (by have:=HFa.out.u;omega) (by have:=HFa.out.p;omega) HFa.out.small (HR.out.up (qZ HB0.out))).mono ?_
 rintro e w1 ⟨M,rfl,hM,hb1,hAM⟩
 have hB:=yM HB0.out hb1
 have HL1:Hid (w.heap.size+3≤w1.heap.size):=zG hB
 have HMb:Hid (w.heap.size+3≤(((w.alloc (.cells #[.int .i64 C.p,.int .i64 C.c,.int .i64 C.xo,.int .i64 C.xn,.int .i64 C.hd,.int .i64 C.lo,.int .i64 C.dl] 25)).alloc (.cells #[.slice N.aU N.nU N.cU,.int .i64 N.lo,.slice N.aP N.nP N.cP] 30)).alloc (.cells #[.slice none 0 0,.int .i64 0,.slice none 0 0] 30)).heap.size):=by rw [Hid];simp
 obtain ⟨aU,nU',cU,u',lo',aP,nP',cP,p'⟩:=M
 obtain ⟨h1,h2,h3,h4,h5⟩:=hAM
 dsimp only at h1 h2 h3 h4 h5
 subst h1 h2 h3 h4 h5
 obtain ⟨hMu,hMp⟩:=hM
 dsimp only at hMu hMp
 rcases hMu with h0 | ⟨gU,rfl,hgU,hrU⟩
 ·
  have:=HFa.out.u
  omega
 have hVP:VT 4 w1 (w.heap.size+3) aP N.nP (fun i=>.bool (N.p i)):=hMp.mono HMb.out
 have HgU:Hid (w.heap.size+3≤gU):=Nat.le_trans HMb.out hgU
 clear hb1 hMp hgU
 have hA:=(Below.refl w1.heap.size w1).alloc (Nat.le_refl _) (.cells #[.slice (some ⟨gU,0,none⟩) N.nU cU,.int .i64 N.lo,.slice aP N.nP cP] 30)
 have kX:=gV w1 (.cells #[.slice (some ⟨gU,0,none⟩) N.nU cU,.int .i64 N.lo,.slice aP N.nP cP] 30)
 have l1:=hrU.lt
 have HgX:Hid (gU≠w1.heap.size):=by show gU≠w1.heap.size;omega
 replace hrU:=hrU.jB (hA.block _ hrU.lt)
 replace hVP:=hVP.up hA
 replace hB:=yM hB hA
 have cb:=gM (uF hB).1
 clear hA l1
 dsimp only [Cnt.cells]
 go_wp2_with fail
 generalize w1.alloc (.cells #[.slice (some ⟨gU,0,none⟩) N.nU cU,.int .i64 N.lo,.slice aP N.nP cP] 30)=w2 at *
 refine (sy w1.heap.size gU N.nU cU i _ _ N.u y _ hi (by omega) kX hrU (by omega) (by omega)).mono ?_
 rintro e w3 ⟨rfl,hr3,ht3⟩
 have kX3:=(ht3.block _ (gO kX) (by have:=HgX.out;simp;omega)).trans kX
 have hM3:iG w3 (w.heap.size+3) ⟨some ⟨gU,0,none⟩,N.nU,cU,Go.Proofs.YthicmlolanifhaaGreat.sj N.u i y,N.lo,aP,N.nP,cP,N.p⟩:=⟨VT.of HgU.out hr3,hVP.gX ht3 (fun x hx hy=>by simp at hy;subst hy;obtain ⟨arr,hk,_⟩:=hrU;exact VT.nV hVP (by decide) hk hx)⟩
 have kC3:=(ht3.block _ (gO (uF hB).1) (by have:=HgU.out;have:=HL1.out;simp;omega)).trans (uF hB).1
 have kR3:=(ht3.block _ (gO (uF hB).2.2) (by have:=HgU.out;have:=HL1.out;simp;omega)).trans (uF hB).2.2
 have B3:=(qZ hB).trans (ht3.below (qZ hB).size (fun x hx=>by have:=HgU.out;have:=HL1.out;simp at hx;omega))
 clear hB hrU hVP kX hr3 ht3 cb
 have cb:=gM kC3
 have cX:=gM kX3
 go_wp2_with fail
 refine (uS C ⟨some ⟨gU,0,none⟩,N.nU,cU,Go.Proofs.YthicmlolanifhaaGreat.sj N.u i y,N.lo,aP,N.nP,cP,N.p⟩ _ ⟨HFit.out.1,HFit.out.2⟩ hM3.rd ok (HO.out.trans ⟨fun k=>⟨k.c,k.nU,k.nP,k.lo,k.u⟩,fun k=>⟨k.c,k.nU,k.nP,k.lo,k.u⟩⟩)).mono ?_
 rintro e w4 ⟨rfl,hb4⟩
 have hM4:=hM3.up hb4
 have kX4:=(hb4.block _ (gO kX3)).trans kX3
 have kR4:=(hb4.block _ (gO kR3)).trans kR3
 have B4:=B3.trans (hb4.mono B3.size)
 clear hM3 kX3 kR3 kC3 B3 hb4 cb cX
 have cR:=gM kR4
 have fR:=ic kR4
 have cX:=gM kX4
 cases ok
 · exact az
 have kz3:=kh kR4 (.slice (some ⟨gU,0,none⟩) N.nU cU) (.int .i64 N.lo) (.slice aP N.nP cP)
 have HB:Hid (Below w.heap.size w (oD w4 (w.heap.size+1+1) (.slice (some ⟨gU,0,none⟩) N.nU cU) (.int .i64 N.lo) (.slice aP N.nP cP))):=B4.trans ((iZ _ _ _ _ _).below B4.size (fun x hx=>by simp at hx;omega))
 have HM:Hid (iG (oD w4 (w.heap.size+1+1) (.slice (some ⟨gU,0,none⟩) N.nU cU) (.int .i64 N.lo) (.slice aP N.nP cP)) w.heap.size ⟨some ⟨gU,0,none⟩,N.nU,cU,Go.Proofs.YthicmlolanifhaaGreat.sj N.u i y,N.lo,aP,N.nP,cP,N.p⟩):=(pc hM4 kR4).mono (by omega)
 have cB:=gM kz3
 clear kz3 kX4 kR4 B4 hM4
 unfold oD at cB
 go_wp2_with fail
 exact bodyPost_ret (v:=.tuple #[.agg #[.slice (some ⟨gU,0,none⟩) N.nU cU,.int .i64 N.lo,.slice aP N.nP cP],.bool true]) (by simp [results,Tryz.results142,go_sem,cB]) rfl ⟨⟨some ⟨gU,0,none⟩,N.nU,cU,Go.Proofs.YthicmlolanifhaaGreat.sj N.u i y,N.lo,aP,N.nP,cP,N.p⟩,rfl,HM.out,HB.out,⟨rfl,rfl,rfl,rfl,rfl⟩⟩
theorem iChangedL_any (C:Cfg) (N:Cnt) (y:Int) (w:World) (hN:Cnt.Ok C N) (h:lJ w N) (hy1:-5≤y) (hy2:y≤5) (ok:Bool) (hok:ok=true↔Cnt.Ok C (N.El y)) :
  Calls Tryz.prog 142 #[.agg C.cells,.agg N.cells,.iface 153 (.agg #[]),.int .i64 y] w fun e w'=>∃ M:Cnt,e=.returned (.tuple #[.agg M.cells,.bool ok])∧iG w' w.heap.size M∧Below w.heap.size w w'∧iA (oI (N.El y) ok) M:=by
 have HO:Hid (ok=true↔Cnt.Ok C (N.El y)):=hok
 have HR:Hid (lJ w N):=h
 have HFa:Hid (sc C N):=hN.facts
 have HB0:Hid (Below (w.heap.size+3) (((w.alloc (.cells #[.int .i64 C.p,.int .i64 C.c,.int .i64 C.xo,.int .i64 C.xn,.int .i64 C.hd,.int .i64 C.lo,.int .i64 C.dl] 25)).alloc (.cells #[.slice N.aU N.nU N.cU,.int .i64 N.lo,.slice N.aP N.nP N.cP] 30)).alloc (.cells #[.slice none 0 0,.int .i64 0,.slice none 0 0] 30)) (((w.alloc (.cells #[.int .i64 C.p,.int .i64 C.c,.int .i64 C.xo,.int .i64 C.xn,.int .i64 C.hd,.int .i64 C.lo,.int .i64 C.dl] 25)).alloc (.cells #[.slice N.aU N.nU N.cU,.int .i64 N.lo,.slice N.aP N.nP N.cP] 30)).alloc (.cells #[.slice none 0 0,.int .i64 0,.slice none 0 0] 30))):=Below.refl _ _
 have hsm:=HFa.out.small.u
 have HFit:Hid (N.nU≤maxLen∧N.nP≤maxLen):=⟨HFa.out.small.fit.u,HFa.out.small.fit.p⟩
 have hl1:=HFa.out.lo.1
 have hl2:=HFa.out.lo.2
 clear hok h hN
 unfold Cfg.cells Cnt.cells
 go_enter Tryz.func142,Tryz.ntmps142
 go_wp2_with fail
 refine (sP N _ (by have:=HFa.out.u;omega) (by have:=HFa.out.p;omega) HFa.out.small (HR.out.up (qZ HB0.out))).mono ?_
 rintro e w1 ⟨M,rfl,hM,hb1,hAM⟩
 have hB:=yM HB0.out hb1
 have HL1:Hid (w.heap.size+3≤w1.heap.size):=zG hB
 have HMb:Hid (w.heap.size+3≤(((w.alloc (.cells #[.int .i64 C.p,.int .i64 C.c,.int .i64 C.xo,.int .i64 C.xn,.int .i64 C.hd,.int .i64 C.lo,.int .i64 C.dl] 25)).alloc (.cells #[.slice N.aU N.nU N.cU,.int .i64 N.lo,.slice N.aP N.nP N.cP] 30)).alloc (.cells #[.slice none 0 0,.int .i64 0,.slice none 0 0] 30)).heap.size):=by rw [Hid];simp
 obtain ⟨aU,nU',cU,u',lo',aP,nP',cP,p'⟩:=M
 obtain ⟨h1,h2,h3,h4,h5⟩:=hAM
 dsimp only at h1 h2 h3 h4 h5
 subst h1 h2 h3 h4 h5
 obtain ⟨hMu,hMp⟩:=hM
 dsimp only at hMu hMp
 rcases hMu with h0 | ⟨gU,rfl,hgU,hrU⟩
 ·
  have:=HFa.out.u
  omega
 have hVP:VT 4 w1 (w.heap.size+3) aP N.nP (fun i=>.bool (N.p i)):=hMp.mono HMb.out
 have HgU:Hid (w.heap.size+3≤gU):=Nat.le_trans HMb.out hgU
 clear hb1 hMp hgU
 have hA:=(Below.refl w1.heap.size w1).alloc (Nat.le_refl _) (.cells #[.slice (some ⟨gU,0,none⟩) N.nU cU,.int .i64 N.lo,.slice aP N.nP cP] 30)
 have kX:=gV w1 (.cells #[.slice (some ⟨gU,0,none⟩) N.nU cU,.int .i64 N.lo,.slice aP N.nP cP] 30)
 have l1:=hrU.lt
 have HgX:Hid (gU≠w1.heap.size):=by show gU≠w1.heap.size;omega
 replace hrU:=hrU.jB (hA.block _ hrU.lt)
 replace hVP:=hVP.up hA
 replace hB:=yM hB hA
 have cb:=gM (uF hB).1
 clear hA l1
 dsimp only [Cnt.cells]
 go_wp2_with fail
 generalize w1.alloc (.cells #[.slice (some ⟨gU,0,none⟩) N.nU cU,.int .i64 N.lo,.slice aP N.nP cP] 30)=w2 at *
 refine (rF w1.heap.size _ _ N.lo y _ kX (by omega) (by omega)).mono ?_
 rintro e w3 ⟨rfl,kX3,ht3⟩
 have hM3:iG w3 (w.heap.size+3) ⟨some ⟨gU,0,none⟩,N.nU,cU,N.u,N.lo+y,aP,N.nP,cP,N.p⟩:=⟨VT.of HgU.out (hrU.jB (ht3.block _ hrU.lt (by have:=HgX.out;simp;omega))),hVP.gX ht3 (fun x hx hy=>by simp at hy;subst hy;exact VT.nV hVP (by decide) kX hx)⟩
 have kC3:=(ht3.block _ (gO (uF hB).1) (by have:=HgU.out;have:=HL1.out;simp;omega)).trans (uF hB).1
 have kR3:=(ht3.block _ (gO (uF hB).2.2) (by have:=HgU.out;have:=HL1.out;simp;omega)).trans (uF hB).2.2
 have B3:=(qZ hB).trans (ht3.below (qZ hB).size (fun x hx=>by have:=HgU.out;have:=HL1.out;simp at hx;omega))
 clear hB hrU hVP kX ht3 cb
 have cb:=gM kC3
 have cX:=gM kX3
 go_wp2_with fail
 refine (uS C ⟨some ⟨gU,0,none⟩,N.nU,cU,N.u,N.lo+y,aP,N.nP,cP,N.p⟩ _ ⟨HFit.out.1,HFit.out.2⟩ hM3.rd ok (HO.out.trans ⟨fun k=>⟨k.c,k.nU,k.nP,k.lo,k.u⟩,fun k=>⟨k.c,k.nU,k.nP,k.lo,k.u⟩⟩)).mono ?_
 rintro e w4 ⟨rfl,hb4⟩
 have hM4:=hM3.up hb4
 have kX4:=(hb4.block _ (gO kX3)).trans kX3
 have kR4:=(hb4.block _ (gO kR3)).trans kR3
 have B4:=B3.trans (hb4.mono B3.size)
 clear hM3 kX3 kR3 kC3 B3 hb4 cb cX
 have cR:=gM kR4
 have fR:=ic kR4
 have cX:=gM kX4
 cases ok
 · exact az
 have kz3:=kh kR4 (.slice (some ⟨gU,0,none⟩) N.nU cU) (.int .i64 (N.lo+y)) (.slice aP N.nP cP)
 have HB:Hid (Below w.heap.size w (oD w4 (w.heap.size+1+1) (.slice (some ⟨gU,0,none⟩) N.nU cU) (.int .i64 (N.lo+y)) (.slice aP N.nP cP))):=B4.trans ((iZ _ _ _ _ _).below B4.size (fun x hx=>by simp at hx;omega))
 have HM:Hid (iG (oD w4 (w.heap.size+1+1) (.slice (some ⟨gU,0,none⟩) N.nU cU) (.int .i64 (N.lo+y)) (.slice aP N.nP cP)) w.heap.size ⟨some ⟨gU,0,none⟩,N.nU,cU,N.u,N.lo+y,aP,N.nP,cP,N.p⟩):=(pc hM4 kR4).mono (by omega)
 have cB:=gM kz3
 clear kz3 kX4 kR4 B4 hM4
 unfold oD at cB
 go_wp2_with fail
 exact bodyPost_ret (v:=.tuple #[.agg #[.slice (some ⟨gU,0,none⟩) N.nU cU,.int .i64 (N.lo+y),.slice aP N.nP cP],.bool true]) (by simp [results,Tryz.results142,go_sem,cB]) rfl ⟨⟨some ⟨gU,0,none⟩,N.nU,cU,N.u,N.lo+y,aP,N.nP,cP,N.p⟩,rfl,HM.out,HB.out,⟨rfl,rfl,rfl,rfl,rfl⟩⟩
theorem ph (C:Cfg) (N:Cnt) (i:Nat) (y:Int) (w:World) (hN:Cnt.Ok C N) (h:lJ w N) (hi:i<N.nU) (hy1:-5≤y) (hy2:y≤5) (ok:Bool) (hok:ok=true↔Cnt.Ok C (N.sj i y)) :
  Calls Tryz.prog 70 #[.agg C.cells,.agg N.cells,.int .i64 (i:Int),.int .i64 2,.int .i64 y] w fun e w'=>∃ M:Cnt,e=.returned (.tuple #[.agg M.cells,.bool ok])∧iG w' w.heap.size M∧Below w.heap.size w w'∧iA (oI (N.sj i y) ok) M:=by
 have HO:Hid (ok=true↔Cnt.Ok C (N.sj i y)):=hok
 have HR:Hid (lJ w N):=h
 have HFa:Hid (sc C N):=hN.facts
 have HB0:Hid (Below (w.heap.size+3) (((w.alloc (.cells #[.int .i64 C.p,.int .i64 C.c,.int .i64 C.xo,.int .i64 C.xn,.int .i64 C.hd,.int .i64 C.lo,.int .i64 C.dl] 25)).alloc (.cells #[.slice N.aU N.nU N.cU,.int .i64 N.lo,.slice N.aP N.nP N.cP] 30)).alloc (.cells #[.slice none 0 0,.int .i64 0,.slice none 0 0] 30)) (((w.alloc (.cells #[.int .i64 C.p,.int .i64 C.c,.int .i64 C.xo,.int .i64 C.xn,.int .i64 C.hd,.int .i64 C.lo,.int .i64 C.dl] 25)).alloc (.cells #[.slice N.aU N.nU N.cU,.int .i64 N.lo,.slice N.aP N.nP N.cP] 30)).alloc (.cells #[.slice none 0 0,.int .i64 0,.slice none 0 0] 30))):=Below.refl _ _
 have hsm:=HFa.out.small.u
 have HFit:Hid (N.nU≤maxLen∧N.nP≤maxLen):=⟨HFa.out.small.fit.u,HFa.out.small.fit.p⟩
 have hl1:=HFa.out.lo.1
 have hl2:=HFa.out.lo.2
 have hu1:=(HFa.out.at' i hi).1
 have hu2:=(HFa.out.at' i hi).2
 have hi2:(i:Int)<N.nU:=by omega
 have hnm:(N.nU:Int)≤1048576:=by omega
 clear hok h hN
 unfold Cfg.cells Cnt.cells
 go_enter Tryz.func70,Tryz.ntmps70
 go_wp2_with fail
 refine (oc N _ (by have:=HFa.out.u;omega) (by have:=HFa.out.p;omega) HFa.out.small (HR.out.up (qZ HB0.out))).mono ?_
 rintro e w1 ⟨M,rfl,hM,hb1,hAM⟩
 have hB:=yM HB0.out hb1
 have HL1:Hid (w.heap.size+3≤w1.heap.size):=zG hB
 have HMb:Hid (w.heap.size+3≤(((w.alloc (.cells #[.int .i64 C.p,.int .i64 C.c,.int .i64 C.xo,.int .i64 C.xn,.int .i64 C.hd,.int .i64 C.lo,.int .i64 C.dl] 25)).alloc (.cells #[.slice N.aU N.nU N.cU,.int .i64 N.lo,.slice N.aP N.nP N.cP] 30)).alloc (.cells #[.slice none 0 0,.int .i64 0,.slice none 0 0] 30)).heap.size):=by rw [Hid];simp
 obtain ⟨aU,nU',cU,u',lo',aP,nP',cP,p'⟩:=M
 obtain ⟨h1,h2,h3,h4,h5⟩:=hAM
 dsimp only at h1 h2 h3 h4 h5
 subst h1 h2 h3 h4 h5
 obtain ⟨hMu,hMp⟩:=hM
 dsimp only at hMu hMp
 rcases hMu with h0 | ⟨gU,rfl,hgU,hrU⟩
 ·
  have:=HFa.out.u
  omega
 have hVP:VT 4 w1 (w.heap.size+3) aP N.nP (fun i=>.bool (N.p i)):=hMp.mono HMb.out
 have HgU:Hid (w.heap.size+3≤gU):=Nat.le_trans HMb.out hgU
 clear hb1 hMp hgU
 have hA:=(Below.refl w1.heap.size w1).alloc (Nat.le_refl _) (.cells #[.slice (some ⟨gU,0,none⟩) N.nU cU,.int .i64 N.lo,.slice aP N.nP cP] 30)
 have kX:=gV w1 (.cells #[.slice (some ⟨gU,0,none⟩) N.nU cU,.int .i64 N.lo,.slice aP N.nP cP] 30)
 have l1:=hrU.lt
 have HgX:Hid (gU≠w1.heap.size):=by show gU≠w1.heap.size;omega
 replace hrU:=hrU.jB (hA.block _ hrU.lt)
 replace hVP:=hVP.up hA
 replace hB:=yM hB hA
 have cb:=gM (uF hB).1
 clear hA l1
 dsimp only [Cnt.cells]
 have cX:=gM kX
 have e1:IntKind.i64.wrap (N.u i+y)=N.u i+y:=ll _ (by omega) (by omega)
 go_wp2_with fail
 generalize w1.alloc (.cells #[.slice (some ⟨gU,0,none⟩) N.nU cU,.int .i64 N.lo,.slice aP N.nP cP] 30)=w2 at *
 obtain ⟨w3,hw3⟩:∃ w3,w3=(w2.setCell ⟨gU,i,none⟩ (.int .i64 (N.u i+y))).drew:=⟨_,rfl⟩
 have ht3:Touch [gU] w2 w3:=by
  rw [hw3]
  have t:=(Touch.refl [gU] w2).set (g:=gU) (by simp) i (.int .i64 (N.u i+y))
  exact ⟨t.os,t.tape,t.output,t.size,t.block⟩
 have hr3:iD gU 2 N.nU (fun k=>.int .i64 (Go.Proofs.YthicmlolanifhaaGreat.sj N.u i y k)) N.nU w3:=by
  rw [hw3]
  exact ((hrU.vA i (.int .i64 (N.u i+y)) hi).jB (w':=(w2.setCell ⟨gU,i,none⟩ (.int .i64 (N.u i+y))).drew) rfl).zC (fun j _=>by
   unfold Go.Proofs.YthicmlolanifhaaGreat.sj
   by_cases e:j=i
   ·
    subst e;simp
   ·
    simp [e])
 have kX3:=(ht3.block _ (gO kX) (by have:=HgX.out;simp;omega)).trans kX
 have cX1:=gM kX3
 have c0:w2.drew.cell? ⟨gU,i,none⟩=some (.int .i64 (N.u i)):=hrU.at i hi
 have f0:w2.drew.frozen? ⟨gU,i,none⟩=false:=hrU.free i
 rw [hw3] at cX1
 refine wp_region_held_drew (S:=fun w'=>∀ o,w'.cell? ⟨w1.heap.size,o,none⟩=(#[.slice (some ⟨gU,0,none⟩) N.nU cU,.int .i64 N.lo,.slice aP N.nP cP]:Array Value)[o]?) (by kernel_rfl) cX (fun hHeld=>?_)
 refine t0 ?_
 iterate 6 refine tN ?_
 refine tQ 8 25 ?_
 refine rq1 7 (fun K hK=>?_)
 go_simp
 refine hK.out _ _ cX (fun hHeld=>?_)
 clear hK K
 try simp only [Act.put,PZ]
 refine tQ 9 26 ?_
 refine tQ 10 27 ?_
 refine rq1 11 (fun K hK=>?_)
 go_simp
 refine hK.out _ _ cX1 (fun hHeld=>?_)
 clear hK K
 try simp only [Act.put,PZ]
 refine dnq ?_
 rw [←hw3]
 clear hw3 c0 f0 cX cX1 hHeld
 have hM3:iG w3 (w.heap.size+3) ⟨some ⟨gU,0,none⟩,N.nU,cU,Go.Proofs.YthicmlolanifhaaGreat.sj N.u i y,N.lo,aP,N.nP,cP,N.p⟩:=⟨VT.of HgU.out hr3,hVP.gX ht3 (fun x hx hy=>by simp at hy;subst hy;obtain ⟨arr,hk,_⟩:=hrU;exact VT.nV hVP (by decide) hk hx)⟩
 have kC3:=(ht3.block _ (gO (uF hB).1) (by have:=HgU.out;have:=HL1.out;simp;omega)).trans (uF hB).1
 have kR3:=(ht3.block _ (gO (uF hB).2.2) (by have:=HgU.out;have:=HL1.out;simp;omega)).trans (uF hB).2.2
 have B3:=(qZ hB).trans (ht3.below (qZ hB).size (fun x hx=>by have:=HgU.out;have:=HL1.out;simp at hx;omega))
 clear hB hrU hVP kX hr3 ht3 cb
 have cb:=gM kC3
 have cX:=gM kX3
 go_wp2_with fail
 refine (mK C ⟨some ⟨gU,0,none⟩,N.nU,cU,Go.Proofs.YthicmlolanifhaaGreat.sj N.u i y,N.lo,aP,N.nP,cP,N.p⟩ _ ⟨HFit.out.1,HFit.out.2⟩ hM3.rd ok (HO.out.trans ⟨fun k=>⟨k.c,k.nU,k.nP,k.lo,k.u⟩,fun k=>⟨k.c,k.nU,k.nP,k.lo,k.u⟩⟩)).mono ?_
 rintro e w4 ⟨rfl,hb4⟩
 have hM4:=hM3.up hb4
 have kX4:=(hb4.block _ (gO kX3)).trans kX3
 have kR4:=(hb4.block _ (gO kR3)).trans kR3
 have B4:=B3.trans (hb4.mono B3.size)
 clear hM3 kX3 kR3 kC3 B3 hb4 cb cX
 have cR:=gM kR4
 have fR:=ic kR4
 have cX:=gM kX4
 cases ok
 · exact dh
 have kz3:=kh kR4 (.slice (some ⟨gU,0,none⟩) N.nU cU) (.int .i64 N.lo) (.slice aP N.nP cP)
 have HB:Hid (Below w.heap.size w (oD w4 (w.heap.size+1+1) (.slice (some ⟨gU,0,none⟩) N.nU cU) (.int .i64 N.lo) (.slice aP N.nP cP))):=B4.trans ((iZ _ _ _ _ _).below B4.size (fun x hx=>by simp at hx;omega))
 have HM:Hid (iG (oD w4 (w.heap.size+1+1) (.slice (some ⟨gU,0,none⟩) N.nU cU) (.int .i64 N.lo) (.slice aP N.nP cP)) w.heap.size ⟨some ⟨gU,0,none⟩,N.nU,cU,Go.Proofs.YthicmlolanifhaaGreat.sj N.u i y,N.lo,aP,N.nP,cP,N.p⟩):=(pc hM4 kR4).mono (by omega)
 have cB:=gM kz3
 clear kz3 kX4 kR4 B4 hM4
 unfold oD at cB
 go_wp2_with fail
 exact bodyPost_ret (v:=.tuple #[.agg #[.slice (some ⟨gU,0,none⟩) N.nU cU,.int .i64 N.lo,.slice aP N.nP cP],.bool true]) (by simp [results,Tryz.results70,go_sem,cB]) rfl ⟨⟨some ⟨gU,0,none⟩,N.nU,cU,Go.Proofs.YthicmlolanifhaaGreat.sj N.u i y,N.lo,aP,N.nP,cP,N.p⟩,rfl,HM.out,HB.out,⟨rfl,rfl,rfl,rfl,rfl⟩⟩
theorem pj (C:Cfg) (N:Cnt) (port prio:Int) (hne:prio≠2) (y:Int) (w:World) (hN:Cnt.Ok C N) (h:lJ w N) (hy1:-5≤y) (hy2:y≤5) (ok:Bool) (hok:ok=true↔Cnt.Ok C (N.El y)) :
  Calls Tryz.prog 70 #[.agg C.cells,.agg N.cells,.int .i64 port,.int .i64 prio,.int .i64 y] w fun e w'=>∃ M:Cnt,e=.returned (.tuple #[.agg M.cells,.bool ok])∧iG w' w.heap.size M∧Below w.heap.size w w'∧iA (oI (N.El y) ok) M:=by
 have HO:Hid (ok=true↔Cnt.Ok C (N.El y)):=hok
 have HR:Hid (lJ w N):=h
 have HFa:Hid (sc C N):=hN.facts
 have HB0:Hid (Below (w.heap.size+3) (((w.alloc (.cells #[.int .i64 C.p,.int .i64 C.c,.int .i64 C.xo,.int .i64 C.xn,.int .i64 C.hd,.int .i64 C.lo,.int .i64 C.dl] 25)).alloc (.cells #[.slice N.aU N.nU N.cU,.int .i64 N.lo,.slice N.aP N.nP N.cP] 30)).alloc (.cells #[.slice none 0 0,.int .i64 0,.slice none 0 0] 30)) (((w.alloc (.cells #[.int .i64 C.p,.int .i64 C.c,.int .i64 C.xo,.int .i64 C.xn,.int .i64 C.hd,.int .i64 C.lo,.int .i64 C.dl] 25)).alloc (.cells #[.slice N.aU N.nU N.cU,.int .i64 N.lo,.slice N.aP N.nP N.cP] 30)).alloc (.cells #[.slice none 0 0,.int .i64 0,.slice none 0 0] 30))):=Below.refl _ _
 have hsm:=HFa.out.small.u
 have HFit:Hid (N.nU≤maxLen∧N.nP≤maxLen):=⟨HFa.out.small.fit.u,HFa.out.small.fit.p⟩
 have hl1:=HFa.out.lo.1
 have hl2:=HFa.out.lo.2
 have hne':(prio == 2)=false:=by simpa using hne
 clear hok h hN
 unfold Cfg.cells Cnt.cells
 go_enter Tryz.func70,Tryz.ntmps70
 go_wp2_with fail
 refine (oc N _ (by have:=HFa.out.u;omega) (by have:=HFa.out.p;omega) HFa.out.small (HR.out.up (qZ HB0.out))).mono ?_
 rintro e w1 ⟨M,rfl,hM,hb1,hAM⟩
 have hB:=yM HB0.out hb1
 have HL1:Hid (w.heap.size+3≤w1.heap.size):=zG hB
 have HMb:Hid (w.heap.size+3≤(((w.alloc (.cells #[.int .i64 C.p,.int .i64 C.c,.int .i64 C.xo,.int .i64 C.xn,.int .i64 C.hd,.int .i64 C.lo,.int .i64 C.dl] 25)).alloc (.cells #[.slice N.aU N.nU N.cU,.int .i64 N.lo,.slice N.aP N.nP N.cP] 30)).alloc (.cells #[.slice none 0 0,.int .i64 0,.slice none 0 0] 30)).heap.size):=by rw [Hid];simp
 obtain ⟨aU,nU',cU,u',lo',aP,nP',cP,p'⟩:=M
 obtain ⟨h1,h2,h3,h4,h5⟩:=hAM
 dsimp only at h1 h2 h3 h4 h5
 subst h1 h2 h3 h4 h5
 obtain ⟨hMu,hMp⟩:=hM
 dsimp only at hMu hMp
 rcases hMu with h0 | ⟨gU,rfl,hgU,hrU⟩
 ·
  have:=HFa.out.u
  omega
 have hVP:VT 4 w1 (w.heap.size+3) aP N.nP (fun i=>.bool (N.p i)):=hMp.mono HMb.out
 have HgU:Hid (w.heap.size+3≤gU):=Nat.le_trans HMb.out hgU
 clear hb1 hMp hgU
 have hA:=(Below.refl w1.heap.size w1).alloc (Nat.le_refl _) (.cells #[.slice (some ⟨gU,0,none⟩) N.nU cU,.int .i64 (N.lo+y),.slice aP N.nP cP] 30)
 have kX:=gV w1 (.cells #[.slice (some ⟨gU,0,none⟩) N.nU cU,.int .i64 (N.lo+y),.slice aP N.nP cP] 30)
 have l1:=hrU.lt
 have HgX:Hid (gU≠w1.heap.size):=by show gU≠w1.heap.size;omega
 replace hrU:=hrU.jB (hA.block _ hrU.lt)
 replace hVP:=hVP.up hA
 replace hB:=yM hB hA
 have cb:=gM (uF hB).1
 clear hA l1
 dsimp only [Cnt.cells]
 have e1:IntKind.i64.wrap (N.lo+y)=N.lo+y:=ll _ (by omega) (by omega)
 have hM3:iG (w1.alloc (.cells #[.slice (some ⟨gU,0,none⟩) N.nU cU,.int .i64 (N.lo+y),.slice aP N.nP cP] 30)) (w.heap.size+3) ⟨some ⟨gU,0,none⟩,N.nU,cU,N.u,N.lo+y,aP,N.nP,cP,N.p⟩:=⟨VT.of HgU.out hrU,hVP⟩
 have kX3:=kX
 have kC3:=(uF hB).1
 have kR3:=(uF hB).2.2
 have B3:=qZ hB
 clear hB hrU hVP kX cb
 have cb:=gM kC3
 have cX3:=gM kX3
 go_wp2_with fail
 generalize w1.alloc (.cells #[.slice (some ⟨gU,0,none⟩) N.nU cU,.int .i64 (N.lo+y),.slice aP N.nP cP] 30)=w3 at *
 clear cX3
 refine (mK C ⟨some ⟨gU,0,none⟩,N.nU,cU,N.u,N.lo+y,aP,N.nP,cP,N.p⟩ _ ⟨HFit.out.1,HFit.out.2⟩ hM3.rd ok (HO.out.trans ⟨fun k=>⟨k.c,k.nU,k.nP,k.lo,k.u⟩,fun k=>⟨k.c,k.nU,k.nP,k.lo,k.u⟩⟩)).mono ?_
 rintro e w4 ⟨rfl,hb4⟩
 have hM4:=hM3.up hb4
 have kX4:=(hb4.block _ (gO kX3)).trans kX3
 have kR4:=(hb4.block _ (gO kR3)).trans kR3
 have B4:=B3.trans (hb4.mono B3.size)
 clear hM3 kX3 kR3 kC3 B3 hb4 cb
 have cR:=gM kR4
 have fR:=ic kR4
 have cX:=gM kX4
 cases ok
 · exact dh
 have kz3:=kh kR4 (.slice (some ⟨gU,0,none⟩) N.nU cU) (.int .i64 (N.lo+y)) (.slice aP N.nP cP)
 have HB:Hid (Below w.heap.size w (oD w4 (w.heap.size+1+1) (.slice (some ⟨gU,0,none⟩) N.nU cU) (.int .i64 (N.lo+y)) (.slice aP N.nP cP))):=B4.trans ((iZ _ _ _ _ _).below B4.size (fun x hx=>by simp at hx;omega))
 have HM:Hid (iG (oD w4 (w.heap.size+1+1) (.slice (some ⟨gU,0,none⟩) N.nU cU) (.int .i64 (N.lo+y)) (.slice aP N.nP cP)) w.heap.size ⟨some ⟨gU,0,none⟩,N.nU,cU,N.u,N.lo+y,aP,N.nP,cP,N.p⟩):=(pc hM4 kR4).mono (by omega)
 have cB:=gM kz3
 clear kz3 kX4 kR4 B4 hM4
 unfold oD at cB
 go_wp2_with fail
 exact bodyPost_ret (v:=.tuple #[.agg #[.slice (some ⟨gU,0,none⟩) N.nU cU,.int .i64 (N.lo+y),.slice aP N.nP cP],.bool true]) (by simp [results,Tryz.results70,go_sem,cB]) rfl ⟨⟨some ⟨gU,0,none⟩,N.nU,cU,N.u,N.lo+y,aP,N.nP,cP,N.p⟩,rfl,HM.out,HB.out,⟨rfl,rfl,rfl,rfl,rfl⟩⟩
def kW (N:Cnt) (port prio y:Int):Cnt:=if prio=2 then N.sj port.toNat y else N.El y
theorem nX {N:Cnt} {i:Nat} {y:Int}:kW N (i:Int) 2 y=N.sj i y:=by unfold kW;rw [if_pos rfl,Int.toNat_natCast]
theorem mF {N:Cnt} {port prio y:Int} (h:prio≠2):kW N port prio y=N.El y:=by unfold kW;rw [if_neg h]
def xe (N:Cnt):List Nat:=iU N.aU N.nU++iU N.aP N.nP
theorem iG.tbl {w:World} {base:Nat} {N:Cnt} (h:iG w base N):∀ x∈xe N,base≤x∧x<w.heap.size:=by
 intro x hx
 rcases List.mem_append.1 hx with hx | hx
 ·
  exact h.u.blk x hx
 exact h.p.blk x hx
theorem iG.nV {w:World} {base:Nat} {N:Cnt} (h:iG w base N) {g:Nat} {cs:Array Value} {t:TypeId} (h2:2≠t) (h4:4≠t) (hk:w.heap[g]?=some (.cells cs t (0,0))):g∉xe N:=by
 intro hx
 rcases List.mem_append.1 hx with hx | hx
 ·
  exact VT.nV h.u h2 hk hx
 exact VT.nV h.p h4 hk hx
def iL (C:Cfg) (u:Int) (p:Bool):Bool:=if p then decide (C.xn<u) else decide (C.xo≤u)
def flN (C:Cfg) (N:Cnt) (i:Nat):Bool:=!(iL C (N.u i) (N.p i) == N.p i)
def lY (C:Cfg) (N:Cnt) (i:Nat):Cnt:={ N with p:=fun j=>if j=i then iL C (N.u j) (N.p j) else N.p j }
theorem yU (C:Cfg) (N:Cnt) (i:Nat) (w:World) (hU:i<N.nU) (hP:i<N.nP) (hs:N.Small) (h:lJ w N) :
  Calls Tryz.prog 67 #[.agg C.cells,.agg N.cells,.int .i64 (i:Int)] w fun e w'=>∃ M:Cnt,e=.returned (.tuple #[.agg M.cells,.bool (flN C N i)])∧iG w' w.heap.size M∧Below w.heap.size w w'∧iA (lY C N i) M:=by
 obtain ⟨aU,nU,cU,u,lo,aP,nP,cP,p⟩:=N
 have hU':i<nU:=hU
 have hP':i<nP:=hP
 obtain ⟨gu,qu,ea,hcU⟩:=rd_some h.u (by show 0<nU;omega)
 obtain ⟨gp,qp,eb,hcP⟩:=rd_some h.p (by show 0<nP;omega)
 dsimp only at ea eb hcU hcP
 subst ea eb
 have hs1:nU≤1048576:=hs.u
 have hs2:nP≤1048576:=hs.p
 have hi1:(i:Int)<nU:=by omega
 have hi2:(i:Int)<nP:=by omega
 have hi3:(nU:Int)≤1048576:=by omega
 have hi4:(nP:Int)≤1048576:=by omega
 have cu0:=hcU i hU'
 have cp0:=hcP i hP'
 have HR:Hid (lJ w (⟨some ⟨gu,qu,none⟩,nU,cU,u,lo,some ⟨gp,qp,none⟩,nP,cP,p⟩:Cnt)):=h
 have HS:Hid (Cnt.Small (⟨some ⟨gu,qu,none⟩,nU,cU,u,lo,some ⟨gp,qp,none⟩,nP,cP,p⟩:Cnt)):=hs
 have HB0:Hid (Below (w.heap.size+3) (((w.alloc (.cells #[.int .i64 C.p,.int .i64 C.c,.int .i64 C.xo,.int .i64 C.xn,.int .i64 C.hd,.int .i64 C.lo,.int .i64 C.dl] 25)).alloc (.cells #[.slice (some ⟨gu,qu,none⟩) nU cU,.int .i64 lo,.slice (some ⟨gp,qp,none⟩) nP cP] 30)).alloc (.cells #[.slice none 0 0,.int .i64 0,.slice none 0 0] 30)) (((w.alloc (.cells #[.int .i64 C.p,.int .i64 C.c,.int .i64 C.xo,.int .i64 C.xn,.int .i64 C.hd,.int .i64 C.lo,.int .i64 C.dl] 25)).alloc (.cells #[.slice (some ⟨gu,qu,none⟩) nU cU,.int .i64 lo,.slice (some ⟨gp,qp,none⟩) nP cP] 30)).alloc (.cells #[.slice none 0 0,.int .i64 0,.slice none 0 0] 30))):=Below.refl _ _
 clear hU hP hcU hcP h hs
 unfold flN
 dsimp only
 unfold Cfg.cells
 rw [show Cnt.cells (⟨some ⟨gu,qu,none⟩,nU,cU,u,lo,some ⟨gp,qp,none⟩,nP,cP,p⟩:Cnt)=#[.slice (some ⟨gu,qu,none⟩) nU cU,.int .i64 lo,.slice (some ⟨gp,qp,none⟩) nP cP] from rfl]
 go_enter Tryz.func67,Tryz.ntmps67
 go_wp2_with fail
 refine (oc (⟨some ⟨gu,qu,none⟩,nU,cU,u,lo,some ⟨gp,qp,none⟩,nP,cP,p⟩:Cnt) _ (by show 0<nU;omega) (by show 0<nP;omega) HS.out (HR.out.up (qZ HB0.out))).mono ?_
 rintro e w1 ⟨M,rfl,hM,hb1,hAM⟩
 have hB:=yM HB0.out hb1
 have HMb:Hid (w.heap.size+3≤(((w.alloc (.cells #[.int .i64 C.p,.int .i64 C.c,.int .i64 C.xo,.int .i64 C.xn,.int .i64 C.hd,.int .i64 C.lo,.int .i64 C.dl] 25)).alloc (.cells #[.slice (some ⟨gu,qu,none⟩) nU cU,.int .i64 lo,.slice (some ⟨gp,qp,none⟩) nP cP] 30)).alloc (.cells #[.slice none 0 0,.int .i64 0,.slice none 0 0] 30)).heap.size):=by rw [Hid];simp
 obtain ⟨aU,nU',mU,u',lo',aP,nP',mP,p'⟩:=M
 obtain ⟨h1,h2,h3,h4,h5⟩:=hAM
 dsimp only at h1 h2 h3 h4 h5
 subst nU'
 subst u'
 subst lo'
 subst nP'
 subst p'
 obtain ⟨hMu,hMp⟩:=hM
 dsimp only at hMu hMp
 rcases hMu with h0 | ⟨gU,rfl,hgU,hrU⟩
 ·
  omega
 rcases hMp with h0 | ⟨gP,rfl,hgP,hrP⟩
 ·
  omega
 have HgU:Hid (w.heap.size+3≤gU):=Nat.le_trans HMb.out hgU
 have HgP:Hid (w.heap.size+3≤gP):=Nat.le_trans HMb.out hgP
 have lU:=hrU.lt
 have lP:=hrP.lt
 have HUP:Hid (gU≠gP):=by
  rintro rfl
  obtain ⟨a1,b1,_⟩:=hrU
  obtain ⟨a2,b2,_⟩:=hrP
  rw [b1] at b2
  simp at b2
 have HPX:Hid (gP<w1.heap.size):=lP
 clear hb1 hgU hgP
 have hA:=(Below.refl w1.heap.size w1).alloc (Nat.le_refl _) (.cells #[.slice (some ⟨gU,0,none⟩) nU mU,.int .i64 lo,.slice (some ⟨gP,0,none⟩) nP mP] 30)
 have kX:=gV w1 (.cells #[.slice (some ⟨gU,0,none⟩) nU mU,.int .i64 lo,.slice (some ⟨gP,0,none⟩) nP mP] 30)
 replace hrU:=hrU.jB (hA.block _ hrU.lt)
 replace hrP:=hrP.jB (hA.block _ hrP.lt)
 replace hB:=yM hB hA
 clear hA lU lP
 dsimp only [Cnt.cells]
 go_wp2_with fail
 generalize w1.alloc (.cells #[.slice (some ⟨gU,0,none⟩) nU mU,.int .i64 lo,.slice (some ⟨gP,0,none⟩) nP mP] 30)=w2 at *
 obtain ⟨kC,kN,kR⟩:=uF hB
 have B2:=qZ hB
 have cb:=gM kC
 have cn:=gM kN
 have cX:=gM kX
 have cu:=(B2.cell (p:=⟨gu,qu+i,none⟩) (j7 cu0)).trans cu0
 have cp:=(B2.cell (p:=⟨gp,qp+i,none⟩) (j7 cp0)).trans cp0
 have HNP:Hid (gp≠gP):=by show gp≠gP;have:=j7 cp0;have:=HgP.out;simp at *;omega
 have HB2:Hid (Below w.heap.size w w2):=B2
 clear hB cu0 cp0 B2
 by_cases hpi:p i=true
 ·
  rw [hpi] at cp
  by_cases hc:u i≤C.xn
  ·
   have hc':decide (u i≤C.xn)=true:=decide_eq_true hc
   have HV:Hid (iL C (u i) true=false):=by rw [Hid];simp [iL];omega
   refine wp_region_held_drew (S:=fun w'=>(∀ o,w'.cell? ⟨w.heap.size,o,none⟩=(#[.int .i64 C.p,.int .i64 C.c,.int .i64 C.xo,.int .i64 C.xn,.int .i64 C.hd,.int .i64 C.lo,.int .i64 C.dl]:Array Value)[o]?)∧(∀ o,w'.cell? ⟨w.heap.size+1,o,none⟩=(#[.slice (some ⟨gu,qu,none⟩) nU cU,.int .i64 lo,.slice (some ⟨gp,qp,none⟩) nP cP]:Array Value)[o]?)∧w'.cell? ⟨gu,qu+i,none⟩=some (.int .i64 (u i))∧w'.cell? ⟨gp,qp+i,none⟩=some (.bool true)) (by kernel_rfl) ⟨cb,cn,cu,cp⟩ (fun hHeld=>?_)
   refine t0 ?_
   iterate 6 refine tN ?_
   iterate 8 refine sN ?_
   iterate 18 refine tN ?_
   refine dnq ?_
   clear hHeld
   have cn2:∀ o,w2.drew.cell? ⟨w.heap.size+1,o,none⟩=(#[.slice (some ⟨gu,qu,none⟩) nU cU,.int .i64 lo,.slice (some ⟨gp,qp,none⟩) nP cP]:Array Value)[o]?:=cn
   have cX2:∀ o,w2.drew.cell? ⟨w1.heap.size,o,none⟩=(#[.slice (some ⟨gU,0,none⟩) nU mU,.int .i64 lo,.slice (some ⟨gP,0,none⟩) nP mP]:Array Value)[o]?:=cX
   have cp2:w2.drew.cell? ⟨gp,qp+i,none⟩=some (.bool true):=cp
   have rPd:iD gP 4 nP (fun i=>.bool (p i)) nP w2.drew:=hrP.jB rfl
   have rUd:iD gU 2 nU (fun i=>.int .i64 (u i)) nU w2.drew:=hrU.jB rfl
   have kRd:w2.drew.heap[w.heap.size+1+1]?=some (.cells #[.slice none 0 0,.int .i64 0,.slice none 0 0] 30 (0,0)):=kR
   have kNd:w2.drew.heap[w.heap.size+1]?=some (.cells #[.slice (some ⟨gu,qu,none⟩) nU cU,.int .i64 lo,.slice (some ⟨gp,qp,none⟩) nP cP] 30 (0,0)):=kN
   have kXd:w2.drew.heap[w1.heap.size]?=some (.cells #[.slice (some ⟨gU,0,none⟩) nU mU,.int .i64 lo,.slice (some ⟨gP,0,none⟩) nP mP] 30 (0,0)):=kX
   have HBd:Hid (Below w.heap.size w w2.drew):=HB2.out.drew
   clear kC kN kR kX hrU hrP cb cn cu cp cX HB2
   generalize w2.drew=wd at *
   go_wp2_with fail
   have hd:Touch [] wd wd.drew:=⟨rfl,rfl,rfl,Nat.le_refl _,fun _ _ _=>rfl⟩
   have cn2:∀ o,wd.drew.cell? ⟨w.heap.size+1,o,none⟩=(#[.slice (some ⟨gu,qu,none⟩) nU cU,.int .i64 lo,.slice (some ⟨gp,qp,none⟩) nP cP]:Array Value)[o]?:=cn2
   have cX2:∀ o,wd.drew.cell? ⟨w1.heap.size,o,none⟩=(#[.slice (some ⟨gU,0,none⟩) nU mU,.int .i64 lo,.slice (some ⟨gP,0,none⟩) nP mP]:Array Value)[o]?:=cX2
   have cp2:wd.drew.cell? ⟨gp,qp+i,none⟩=some (.bool true):=cp2
   obtain ⟨v0,hv0⟩:=rPd.there i hP'
   have f0:=rPd.free i
   have hp9:=HgP.out
   have hx9:=HPX.out
   have hn9:=HNP.out
   have cn3:∀ o,(wd.setCell ⟨gP,i,none⟩ (.bool false)).drew.cell? ⟨w.heap.size+1,o,none⟩=(#[.slice (some ⟨gu,qu,none⟩) nU cU,.int .i64 lo,.slice (some ⟨gp,qp,none⟩) nP cP]:Array Value)[o]?:=gM ((ie (w:=wd) (i:=i) (show w.heap.size+1≠gP by omega) (.bool false)).trans kNd)
   have cX3:∀ o,(wd.setCell ⟨gP,i,none⟩ (.bool false)).drew.cell? ⟨w1.heap.size,o,none⟩=(#[.slice (some ⟨gU,0,none⟩) nU mU,.int .i64 lo,.slice (some ⟨gP,0,none⟩) nP mP]:Array Value)[o]?:=gM ((ie (w:=wd) (i:=i) (show w1.heap.size≠gP by omega) (.bool false)).trans kXd)
   have cp3:(wd.setCell ⟨gP,i,none⟩ (.bool false)).drew.cell? ⟨gp,qp+i,none⟩=some (.bool true):=(World.cell?_of_block (w:=wd) (a:=⟨gp,qp+i,none⟩) (ie (w:=wd) (i:=i) hn9 (.bool false))).trans cp2
   refine wp_region_held_drew (S:=fun w'=>(∀ o,w'.cell? ⟨w.heap.size+1,o,none⟩=(#[.slice (some ⟨gu,qu,none⟩) nU cU,.int .i64 lo,.slice (some ⟨gp,qp,none⟩) nP cP]:Array Value)[o]?)∧(∀ o,w'.cell? ⟨w1.heap.size,o,none⟩=(#[.slice (some ⟨gU,0,none⟩) nU mU,.int .i64 lo,.slice (some ⟨gP,0,none⟩) nP mP]:Array Value)[o]?)∧w'.cell? ⟨gp,qp+i,none⟩=some (.bool true)) (by kernel_rfl) ⟨cn2,cX2,cp2⟩ (fun hHeld=>?_)
   refine t0 ?_
   iterate 9 refine tN ?_
   refine rq1 10 (fun K hK=>?_)
   go_simp
   refine hK.out _ _ ⟨cn3,cX3,cp3⟩ (fun hHeld=>?_)
   clear hK K
   try simp only [Act.put,PZ]
   refine dnq ?_
   clear hHeld cn2 cX2 cp2 cn3 cp3 hv0 f0
   have kRs:(wd.setCell ⟨gP,i,none⟩ (.bool false)).drew.heap[w.heap.size+1+1]?=some (.cells #[.slice none 0 0,.int .i64 0,.slice none 0 0] 30 (0,0)):=(ie (w:=wd) (i:=i) (show w.heap.size+1+1≠gP by omega) (.bool false)).trans kRd
   have rPs:iD gP 4 nP (fun j=>.bool (if j=i then iL C (u j) (p j) else p j)) nP (wd.setCell ⟨gP,i,none⟩ (.bool false)).drew:=((rPd.vA i (.bool false) hP').zC (fun j _=>by
    by_cases e:j=i
    ·
     subst e
     rw [if_pos rfl,if_pos rfl,hpi,HV.out]
    ·
     rw [if_neg e,if_neg e])).jB rfl
   have rUs:iD gU 2 nU (fun i=>.int .i64 (u i)) nU (wd.setCell ⟨gP,i,none⟩ (.bool false)).drew:=rUd.jB (ie (w:=wd) (i:=i) (fun e=>HUP.out e) (.bool false))
   have HBs:Hid (Below w.heap.size w (wd.setCell ⟨gP,i,none⟩ (.bool false)).drew):=(HBd.out.setCell (by show w.heap.size≤gP;omega) _).drew
   clear kRd kNd kXd rPd rUd hd hp9 hx9 hn9
   generalize (wd.setCell ⟨gP,i,none⟩ (.bool false)).drew=we at *
   have ht:=iZ we (w.heap.size+1+1) (.slice (some ⟨gU,0,none⟩) nU mU) (.int .i64 lo) (.slice (some ⟨gP,0,none⟩) nP mP)
   have hO:iG we w.heap.size ⟨some ⟨gU,0,none⟩,nU,mU,u,lo,some ⟨gP,0,none⟩,nP,mP,fun j=>if j=i then iL C (u j) (p j) else p j⟩:=⟨VT.of (by have:=HgU.out;omega) rUs,VT.of (by have:=HgP.out;omega) rPs⟩
   have HO:Hid (iG (oD we (w.heap.size+1+1) (.slice (some ⟨gU,0,none⟩) nU mU) (.int .i64 lo) (.slice (some ⟨gP,0,none⟩) nP mP)) w.heap.size ⟨some ⟨gU,0,none⟩,nU,mU,u,lo,some ⟨gP,0,none⟩,nP,mP,fun j=>if j=i then iL C (u j) (p j) else p j⟩):=pc hO kRs
   have HB:Hid (Below w.heap.size w (oD we (w.heap.size+1+1) (.slice (some ⟨gU,0,none⟩) nU mU) (.int .i64 lo) (.slice (some ⟨gP,0,none⟩) nP mP))):=HBs.out.trans (ht.below HBs.out.size (fun x hx=>by have:=List.mem_singleton.1 hx;omega))
   have cB:=gM (kh kRs (.slice (some ⟨gU,0,none⟩) nU mU) (.int .i64 lo) (.slice (some ⟨gP,0,none⟩) nP mP))
   have cR:=gM kRs
   have fR:=ic kRs
   clear ht hO kRs rPs rUs
   unfold oD at cB
   go_wp2_with fail
   exact bodyPost_ret (v:=.tuple #[.agg #[.slice (some ⟨gU,0,none⟩) nU mU,.int .i64 lo,.slice (some ⟨gP,0,none⟩) nP mP],.bool true]) (by simp [results,Tryz.results67,go_sem,cB]) rfl ⟨⟨some ⟨gU,0,none⟩,nU,mU,u,lo,some ⟨gP,0,none⟩,nP,mP,fun j=>if j=i then iL C (u j) (p j) else p j⟩,by first | (rw [hpi,HV.out];rfl) | (rw [HV.out];rfl) | rfl | simp [Cnt.cells],HO.out,HB.out,⟨rfl,rfl,rfl,rfl,rfl⟩⟩
  have hc':decide (u i≤C.xn)=false:=decide_eq_false hc
  have HV:Hid (iL C (u i) true=true):=by rw [Hid];simp [iL];omega
  refine wp_region_held_drew (S:=fun w'=>(∀ o,w'.cell? ⟨w.heap.size,o,none⟩=(#[.int .i64 C.p,.int .i64 C.c,.int .i64 C.xo,.int .i64 C.xn,.int .i64 C.hd,.int .i64 C.lo,.int .i64 C.dl]:Array Value)[o]?)∧(∀ o,w'.cell? ⟨w.heap.size+1,o,none⟩=(#[.slice (some ⟨gu,qu,none⟩) nU cU,.int .i64 lo,.slice (some ⟨gp,qp,none⟩) nP cP]:Array Value)[o]?)∧w'.cell? ⟨gu,qu+i,none⟩=some (.int .i64 (u i))∧w'.cell? ⟨gp,qp+i,none⟩=some (.bool true)) (by kernel_rfl) ⟨cb,cn,cu,cp⟩ (fun hHeld=>?_)
  refine t0 ?_
  iterate 6 refine tN ?_
  iterate 8 refine sN ?_
  iterate 18 refine tN ?_
  refine dnq ?_
  clear hHeld
  have ht:=iZ w2.drew (w.heap.size+1+1) (.slice (some ⟨gU,0,none⟩) nU mU) (.int .i64 lo) (.slice (some ⟨gP,0,none⟩) nP mP)
  have kRd:w2.drew.heap[w.heap.size+1+1]?=some (.cells #[.slice none 0 0,.int .i64 0,.slice none 0 0] 30 (0,0)):=kR
  have hO:iG w2.drew w.heap.size ⟨some ⟨gU,0,none⟩,nU,mU,u,lo,some ⟨gP,0,none⟩,nP,mP,fun j=>if j=i then iL C (u j) (p j) else p j⟩:=⟨VT.of (by have:=HgU.out;omega) (hrU.jB (w':=w2.drew) rfl),VT.of (by have:=HgP.out;omega) ((hrP.jB (w':=w2.drew) rfl).zC (fun j _=>by
   show Value.bool (p j)=Value.bool (if j=i then iL C (u j) (p j) else p j)
   by_cases e:j=i
   ·
    subst e
    rw [if_pos rfl,hpi,HV.out]
   ·
    rw [if_neg e]))⟩
  have HO:Hid (iG (oD w2.drew (w.heap.size+1+1) (.slice (some ⟨gU,0,none⟩) nU mU) (.int .i64 lo) (.slice (some ⟨gP,0,none⟩) nP mP)) w.heap.size ⟨some ⟨gU,0,none⟩,nU,mU,u,lo,some ⟨gP,0,none⟩,nP,mP,fun j=>if j=i then iL C (u j) (p j) else p j⟩):=pc hO kRd
  have HB:Hid (Below w.heap.size w (oD w2.drew (w.heap.size+1+1) (.slice (some ⟨gU,0,none⟩) nU mU) (.int .i64 lo) (.slice (some ⟨gP,0,none⟩) nP mP))):=HB2.out.drew.trans (ht.below HB2.out.drew.size (fun x hx=>by have:=List.mem_singleton.1 hx;omega))
  have cB:=gM (kh kRd (.slice (some ⟨gU,0,none⟩) nU mU) (.int .i64 lo) (.slice (some ⟨gP,0,none⟩) nP mP))
  have cR:=gM kRd
  have fR:=ic kRd
  have cXd:∀ o,w2.drew.cell? ⟨w1.heap.size,o,none⟩=(#[.slice (some ⟨gU,0,none⟩) nU mU,.int .i64 lo,.slice (some ⟨gP,0,none⟩) nP mP]:Array Value)[o]?:=cX
  clear ht hO kRd kR kC kN kX hrU hrP cb cn cu cp cX
  unfold oD at cB
  generalize w2.drew=wd at *
  go_wp2_with fail
  exact bodyPost_ret (v:=.tuple #[.agg #[.slice (some ⟨gU,0,none⟩) nU mU,.int .i64 lo,.slice (some ⟨gP,0,none⟩) nP mP],.bool false]) (by simp [results,Tryz.results67,go_sem,cB]) rfl ⟨⟨some ⟨gU,0,none⟩,nU,mU,u,lo,some ⟨gP,0,none⟩,nP,mP,fun j=>if j=i then iL C (u j) (p j) else p j⟩,by first | (rw [hpi,HV.out];rfl) | (rw [HV.out];rfl) | rfl | simp [Cnt.cells],HO.out,HB.out,⟨rfl,rfl,rfl,rfl,rfl⟩⟩
 have hpf:p i=false:=by simpa using hpi
 rw [hpf] at cp
 by_cases hc:C.xo≤u i
 ·
  have hc':decide (C.xo≤u i)=true:=decide_eq_true hc
  have HV:Hid (iL C (u i) false=true):=by rw [Hid];simp [iL];omega
  refine wp_region_held_drew (S:=fun w'=>(∀ o,w'.cell? ⟨w.heap.size,o,none⟩=(#[.int .i64 C.p,.int .i64 C.c,.int .i64 C.xo,.int .i64 C.xn,.int .i64 C.hd,.int .i64 C.lo,.int .i64 C.dl]:Array Value)[o]?)∧(∀ o,w'.cell? ⟨w.heap.size+1,o,none⟩=(#[.slice (some ⟨gu,qu,none⟩) nU cU,.int .i64 lo,.slice (some ⟨gp,qp,none⟩) nP cP]:Array Value)[o]?)∧w'.cell? ⟨gu,qu+i,none⟩=some (.int .i64 (u i))∧w'.cell? ⟨gp,qp+i,none⟩=some (.bool false)) (by kernel_rfl) ⟨cb,cn,cu,cp⟩ (fun hHeld=>?_)
  refine t0 ?_
  iterate 16 refine tN ?_
  iterate 15 refine sN ?_
  refine tN ?_
  refine dnq ?_
  clear hHeld
  have cn2:∀ o,w2.drew.cell? ⟨w.heap.size+1,o,none⟩=(#[.slice (some ⟨gu,qu,none⟩) nU cU,.int .i64 lo,.slice (some ⟨gp,qp,none⟩) nP cP]:Array Value)[o]?:=cn
  have cX2:∀ o,w2.drew.cell? ⟨w1.heap.size,o,none⟩=(#[.slice (some ⟨gU,0,none⟩) nU mU,.int .i64 lo,.slice (some ⟨gP,0,none⟩) nP mP]:Array Value)[o]?:=cX
  have cp2:w2.drew.cell? ⟨gp,qp+i,none⟩=some (.bool false):=cp
  have rPd:iD gP 4 nP (fun i=>.bool (p i)) nP w2.drew:=hrP.jB rfl
  have rUd:iD gU 2 nU (fun i=>.int .i64 (u i)) nU w2.drew:=hrU.jB rfl
  have kRd:w2.drew.heap[w.heap.size+1+1]?=some (.cells #[.slice none 0 0,.int .i64 0,.slice none 0 0] 30 (0,0)):=kR
  have kNd:w2.drew.heap[w.heap.size+1]?=some (.cells #[.slice (some ⟨gu,qu,none⟩) nU cU,.int .i64 lo,.slice (some ⟨gp,qp,none⟩) nP cP] 30 (0,0)):=kN
  have kXd:w2.drew.heap[w1.heap.size]?=some (.cells #[.slice (some ⟨gU,0,none⟩) nU mU,.int .i64 lo,.slice (some ⟨gP,0,none⟩) nP mP] 30 (0,0)):=kX
  have HBd:Hid (Below w.heap.size w w2.drew):=HB2.out.drew
  clear kC kN kR kX hrU hrP cb cn cu cp cX HB2
  generalize w2.drew=wd at *
  go_wp2_with fail
  have hd:Touch [] wd wd.drew:=⟨rfl,rfl,rfl,Nat.le_refl _,fun _ _ _=>rfl⟩
  have cn2:∀ o,wd.drew.cell? ⟨w.heap.size+1,o,none⟩=(#[.slice (some ⟨gu,qu,none⟩) nU cU,.int .i64 lo,.slice (some ⟨gp,qp,none⟩) nP cP]:Array Value)[o]?:=cn2
  have cX2:∀ o,wd.drew.cell? ⟨w1.heap.size,o,none⟩=(#[.slice (some ⟨gU,0,none⟩) nU mU,.int .i64 lo,.slice (some ⟨gP,0,none⟩) nP mP]:Array Value)[o]?:=cX2
  have cp2:wd.drew.cell? ⟨gp,qp+i,none⟩=some (.bool false):=cp2
  obtain ⟨v0,hv0⟩:=rPd.there i hP'
  have f0:=rPd.free i
  have hp9:=HgP.out
  have hx9:=HPX.out
  have hn9:=HNP.out
  have cn3:∀ o,(wd.setCell ⟨gP,i,none⟩ (.bool true)).drew.cell? ⟨w.heap.size+1,o,none⟩=(#[.slice (some ⟨gu,qu,none⟩) nU cU,.int .i64 lo,.slice (some ⟨gp,qp,none⟩) nP cP]:Array Value)[o]?:=gM ((ie (w:=wd) (i:=i) (show w.heap.size+1≠gP by omega) (.bool true)).trans kNd)
  have cX3:∀ o,(wd.setCell ⟨gP,i,none⟩ (.bool true)).drew.cell? ⟨w1.heap.size,o,none⟩=(#[.slice (some ⟨gU,0,none⟩) nU mU,.int .i64 lo,.slice (some ⟨gP,0,none⟩) nP mP]:Array Value)[o]?:=gM ((ie (w:=wd) (i:=i) (show w1.heap.size≠gP by omega) (.bool true)).trans kXd)
  have cp3:(wd.setCell ⟨gP,i,none⟩ (.bool true)).drew.cell? ⟨gp,qp+i,none⟩=some (.bool false):=(World.cell?_of_block (w:=wd) (a:=⟨gp,qp+i,none⟩) (ie (w:=wd) (i:=i) hn9 (.bool true))).trans cp2
  refine wp_region_held_drew (S:=fun w'=>(∀ o,w'.cell? ⟨w.heap.size+1,o,none⟩=(#[.slice (some ⟨gu,qu,none⟩) nU cU,.int .i64 lo,.slice (some ⟨gp,qp,none⟩) nP cP]:Array Value)[o]?)∧(∀ o,w'.cell? ⟨w1.heap.size,o,none⟩=(#[.slice (some ⟨gU,0,none⟩) nU mU,.int .i64 lo,.slice (some ⟨gP,0,none⟩) nP mP]:Array Value)[o]?)∧w'.cell? ⟨gp,qp+i,none⟩=some (.bool false)) (by kernel_rfl) ⟨cn2,cX2,cp2⟩ (fun hHeld=>?_)
  refine t0 ?_
  iterate 9 refine tN ?_
  refine rq1 10 (fun K hK=>?_)
  go_simp
  refine hK.out _ _ ⟨cn3,cX3,cp3⟩ (fun hHeld=>?_)
  clear hK K
  try simp only [Act.put,PZ]
  refine dnq ?_
  clear hHeld cn2 cX2 cp2 cn3 cp3 hv0 f0
  have kRs:(wd.setCell ⟨gP,i,none⟩ (.bool true)).drew.heap[w.heap.size+1+1]?=some (.cells #[.slice none 0 0,.int .i64 0,.slice none 0 0] 30 (0,0)):=(ie (w:=wd) (i:=i) (show w.heap.size+1+1≠gP by omega) (.bool true)).trans kRd
  have rPs:iD gP 4 nP (fun j=>.bool (if j=i then iL C (u j) (p j) else p j)) nP (wd.setCell ⟨gP,i,none⟩ (.bool true)).drew:=((rPd.vA i (.bool true) hP').zC (fun j _=>by
   by_cases e:j=i
   ·
    subst e
    rw [if_pos rfl,if_pos rfl,hpf,HV.out]
   ·
    rw [if_neg e,if_neg e])).jB rfl
  have rUs:iD gU 2 nU (fun i=>.int .i64 (u i)) nU (wd.setCell ⟨gP,i,none⟩ (.bool true)).drew:=rUd.jB (ie (w:=wd) (i:=i) (fun e=>HUP.out e) (.bool true))
  have HBs:Hid (Below w.heap.size w (wd.setCell ⟨gP,i,none⟩ (.bool true)).drew):=(HBd.out.setCell (by show w.heap.size≤gP;omega) _).drew
  clear kRd kNd kXd rPd rUd hd hp9 hx9 hn9
  generalize (wd.setCell ⟨gP,i,none⟩ (.bool true)).drew=we at *
  have ht:=iZ we (w.heap.size+1+1) (.slice (some ⟨gU,0,none⟩) nU mU) (.int .i64 lo) (.slice (some ⟨gP,0,none⟩) nP mP)
  have hO:iG we w.heap.size ⟨some ⟨gU,0,none⟩,nU,mU,u,lo,some ⟨gP,0,none⟩,nP,mP,fun j=>if j=i then iL C (u j) (p j) else p j⟩:=⟨VT.of (by have:=HgU.out;omega) rUs,VT.of (by have:=HgP.out;omega) rPs⟩
  have HO:Hid (iG (oD we (w.heap.size+1+1) (.slice (some ⟨gU,0,none⟩) nU mU) (.int .i64 lo) (.slice (some ⟨gP,0,none⟩) nP mP)) w.heap.size ⟨some ⟨gU,0,none⟩,nU,mU,u,lo,some ⟨gP,0,none⟩,nP,mP,fun j=>if j=i then iL C (u j) (p j) else p j⟩):=pc hO kRs
  have HB:Hid (Below w.heap.size w (oD we (w.heap.size+1+1) (.slice (some ⟨gU,0,none⟩) nU mU) (.int .i64 lo) (.slice (some ⟨gP,0,none⟩) nP mP))):=HBs.out.trans (ht.below HBs.out.size (fun x hx=>by have:=List.mem_singleton.1 hx;omega))
  have cB:=gM (kh kRs (.slice (some ⟨gU,0,none⟩) nU mU) (.int .i64 lo) (.slice (some ⟨gP,0,none⟩) nP mP))
  have cR:=gM kRs
  have fR:=ic kRs
  clear ht hO kRs rPs rUs
  unfold oD at cB
  go_wp2_with fail
  exact bodyPost_ret (v:=.tuple #[.agg #[.slice (some ⟨gU,0,none⟩) nU mU,.int .i64 lo,.slice (some ⟨gP,0,none⟩) nP mP],.bool true]) (by simp [results,Tryz.results67,go_sem,cB]) rfl ⟨⟨some ⟨gU,0,none⟩,nU,mU,u,lo,some ⟨gP,0,none⟩,nP,mP,fun j=>if j=i then iL C (u j) (p j) else p j⟩,by first | (rw [hpf,HV.out];rfl) | (rw [HV.out];rfl) | rfl | simp [Cnt.cells],HO.out,HB.out,⟨rfl,rfl,rfl,rfl,rfl⟩⟩
 have hc':decide (C.xo≤u i)=false:=decide_eq_false hc
 have HV:Hid (iL C (u i) false=false):=by rw [Hid];simp [iL];omega
 refine wp_region_held_drew (S:=fun w'=>(∀ o,w'.cell? ⟨w.heap.size,o,none⟩=(#[.int .i64 C.p,.int .i64 C.c,.int .i64 C.xo,.int .i64 C.xn,.int .i64 C.hd,.int .i64 C.lo,.int .i64 C.dl]:Array Value)[o]?)∧(∀ o,w'.cell? ⟨w.heap.size+1,o,none⟩=(#[.slice (some ⟨gu,qu,none⟩) nU cU,.int .i64 lo,.slice (some ⟨gp,qp,none⟩) nP cP]:Array Value)[o]?)∧w'.cell? ⟨gu,qu+i,none⟩=some (.int .i64 (u i))∧w'.cell? ⟨gp,qp+i,none⟩=some (.bool false)) (by kernel_rfl) ⟨cb,cn,cu,cp⟩ (fun hHeld=>?_)
 refine t0 ?_
 iterate 22 refine tN ?_
 iterate 8 refine sN ?_
 iterate 2 refine tN ?_
 refine dnq ?_
 clear hHeld
 have ht:=iZ w2.drew (w.heap.size+1+1) (.slice (some ⟨gU,0,none⟩) nU mU) (.int .i64 lo) (.slice (some ⟨gP,0,none⟩) nP mP)
 have kRd:w2.drew.heap[w.heap.size+1+1]?=some (.cells #[.slice none 0 0,.int .i64 0,.slice none 0 0] 30 (0,0)):=kR
 have hO:iG w2.drew w.heap.size ⟨some ⟨gU,0,none⟩,nU,mU,u,lo,some ⟨gP,0,none⟩,nP,mP,fun j=>if j=i then iL C (u j) (p j) else p j⟩:=⟨VT.of (by have:=HgU.out;omega) (hrU.jB (w':=w2.drew) rfl),VT.of (by have:=HgP.out;omega) ((hrP.jB (w':=w2.drew) rfl).zC (fun j _=>by
  show Value.bool (p j)=Value.bool (if j=i then iL C (u j) (p j) else p j)
  by_cases e:j=i
  ·
   subst e
   rw [if_pos rfl,hpf,HV.out]
  ·
   rw [if_neg e]))⟩
 have HO:Hid (iG (oD w2.drew (w.heap.size+1+1) (.slice (some ⟨gU,0,none⟩) nU mU) (.int .i64 lo) (.slice (some ⟨gP,0,none⟩) nP mP)) w.heap.size ⟨some ⟨gU,0,none⟩,nU,mU,u,lo,some ⟨gP,0,none⟩,nP,mP,fun j=>if j=i then iL C (u j) (p j) else p j⟩):=pc hO kRd
 have HB:Hid (Below w.heap.size w (oD w2.drew (w.heap.size+1+1) (.slice (some ⟨gU,0,none⟩) nU mU) (.int .i64 lo) (.slice (some ⟨gP,0,none⟩) nP mP))):=HB2.out.drew.trans (ht.below HB2.out.drew.size (fun x hx=>by have:=List.mem_singleton.1 hx;omega))
 have cB:=gM (kh kRd (.slice (some ⟨gU,0,none⟩) nU mU) (.int .i64 lo) (.slice (some ⟨gP,0,none⟩) nP mP))
 have cR:=gM kRd
 have fR:=ic kRd
 have cXd:∀ o,w2.drew.cell? ⟨w1.heap.size,o,none⟩=(#[.slice (some ⟨gU,0,none⟩) nU mU,.int .i64 lo,.slice (some ⟨gP,0,none⟩) nP mP]:Array Value)[o]?:=cX
 clear ht hO kRd kR kC kN kX hrU hrP cb cn cu cp cX
 unfold oD at cB
 generalize w2.drew=wd at *
 go_wp2_with fail
 exact bodyPost_ret (v:=.tuple #[.agg #[.slice (some ⟨gU,0,none⟩) nU mU,.int .i64 lo,.slice (some ⟨gP,0,none⟩) nP mP],.bool false]) (by simp [results,Tryz.results67,go_sem,cB]) rfl ⟨⟨some ⟨gU,0,none⟩,nU,mU,u,lo,some ⟨gP,0,none⟩,nP,mP,fun j=>if j=i then iL C (u j) (p j) else p j⟩,by first | (rw [hpf,HV.out];rfl) | (rw [HV.out];rfl) | rfl | simp [Cnt.cells],HO.out,HB.out,⟨rfl,rfl,rfl,rfl,rfl⟩⟩
theorem jL.rows {k:Nat} {R R':Rnd} {c:Nat} {s:Int} (h:jL k R R' c s):R.L c≠0∧s=R.z c 0∧R'.L=ly R.L c (R.L c-1)∧R'.z=qF R.z c (fun j=>R.z c (j+1))∧R'.q=R.q∧R'.nQ=R.nQ:=by
 induction h with
 | skip h0 _ ih=>exact ih
 | short h0 h1 _ ih =>
  rename_i R0 _ _ _ _
  have e1:(iy (ia R0)).L=R0.L:=mW R0
  have e2:(iy (ia R0)).z=R0.z:=qP R0
  have e3:(iy (ia R0)).q=R0.q:=yi R0
  have e4:(iy (ia R0)).nQ=R0.nQ:=jt R0
  rw [e1,e2,e3,e4] at ih
  exact ih
 | take h0 h1 =>
  rename_i R0
  refine ⟨h0,rfl,?_,?_,?_,?_⟩
  ·
   unfold lq;split <;> (show ly (ia R0).L (ia R0).now _=_;rw [mW,jo])
  ·
   unfold lq;split <;> (show qF (ia R0).z (ia R0).now _=_;rw [qP,jo])
  ·
   unfold lq;split <;> exact yi R0
  unfold lq;split <;> exact jt R0
def Fx (b:Bool):Pkt:=⟨0,0,0,if b then 2 else 3,0,0,2,⟨#[]⟩⟩
def nm (C:Cfg) (N:Cnt) (i:Nat):List Pkt:=if flN C N i=true then [Fx (iL C (N.u i) (N.p i))] else []
def Lng.Db (l:Lng):Lng:={ l with nT:=l.nT-1,t:=fun i=>l.t (i+1) }
def Lng.Er (l:Lng) (c:Nat) (M:Rnd):Lng:={ l with uL:=ly l.uL c (l.uL c-1),uz:=qF l.uz c (fun j=>l.uz c (j+1)),R:=M }
def qj (l l':Lng) (id:Int):Prop :=
 (0<l.nT∧l.st=false∧id=l.t 0∧l'=l.Db) ∨
 (¬ (0<l.nT∧l.st=false)∧∃ M x s,pM l.R M x s∧((x=-1∧id=0∧l'={ l with R:=M })∨∃ c:Nat,x=(c:Int)∧id=l.uz c 0∧l'=l.Er c M))
theorem Dl (l:Lng):∃ l' id,qj l l' id:=by
 by_cases h:0<l.nT∧l.st=false
 ·
  exact ⟨_,_,.inl ⟨h.1,h.2,rfl,rfl⟩⟩
 obtain ⟨M,x,s,hp⟩:=Cd l.R
 have hx:x=-1∨∃ c:Nat,x=(c:Int):=by
  rcases hp with ⟨_,_,e,_⟩ | ⟨_,_,_,e,_⟩ | ⟨_,_,k,c,_,e⟩
  ·
   exact .inl e
  ·
   exact .inl e
  exact .inr ⟨c,e⟩
 rcases hx with e | ⟨c,e⟩
 ·
  exact ⟨_,_,.inr ⟨h,M,x,s,hp,.inl ⟨e,rfl,rfl⟩⟩⟩
 exact ⟨_,_,.inr ⟨h,M,x,s,hp,.inr ⟨c,e,rfl,rfl⟩⟩⟩
def j9 (K:Nat→Pkt) (j:Nat):Nat→Pkt:=fun i=>if i=j then { K i with refs:=(K i).refs-1 } else K i
def rmK (K:Nat→Pkt) (j:Nat):Nat→Pkt:=fun i=>if i<j then K i else K (i+1)
def Swg.Fs (S:Swg) (i:Nat) (l':Lng):Swg:={ S with N:=lY S.C S.N i,L:=fun k=>if k=i then l' else S.L k }
def o6 (S S':Swg) (i:Nat) (fs:List Pkt):Prop :=
 ∃ l' id,qj (S.L i) l' id ∧
  ((id=0∧S'=S.Fs i l'∧fs=nm S.C S.N i) ∨
   (id≠0∧∃ j,j<S.nK∧(S.K j).id=id∧fs=nm S.C S.N i++[S.K j] ∧
    (((S.K j).refs≠1∧S'={ S.Fs i l' with K:=j9 S.K j }) ∨
    ((S.K j).refs=1∧S'={ S.Fs i l' with nK:=S.nK-1,K:=rmK S.K j,N:=kW (lY S.C S.N i) (S.K j).inn (S.K j).p (-(S.K j).cl) }))))
theorem qj.Fq {S:Swg} (h:S.Ok) {i:Nat} (hi:i<S.nL) {l':Lng} {id:Int} (ht:qj (S.L i) l' id):id=0∨∃ j,j<S.nK∧(S.K j).id=id:=by
 have hl:=h.l i hi
 rcases ht with ⟨h1,h2,rfl,rfl⟩ | ⟨_,M,x,s,hp,⟨_,rfl,_⟩ | ⟨c,rfl,rfl,rfl⟩⟩
 ·
  obtain ⟨⟨j,hj,e,_⟩,_⟩:=hl.t 0 h1
  exact .inr ⟨j,hj,e⟩
 ·
  exact .inl rfl
 rcases hp with ⟨hno,_⟩ | ⟨_,_,_,e,_⟩ | ⟨ho,_,k,c',hpk,e⟩
 ·
  exact absurd hl.r hno
 ·
  omega
 have e2:c'=c:=by omega
 subst e2
 have hw:=hpk.rows.1
 have hc2:c'<2:=by
  have:=(hpk.ok ho).2.2.1
  have:=hl.n
  omega
 obtain ⟨hz1,hz2,_⟩:=hl.z c' hc2
 obtain ⟨⟨j,hj,e3,_⟩,_⟩:=hz1 0 (by rw [hz2];exact Nat.pos_of_ne_zero hw)
 exact .inr ⟨j,hj,e3⟩
theorem Du {S:Swg} (h:S.Ok) {i:Nat} (hi:i<S.nL):∃ S' fs,o6 S S' i fs:=by
 obtain ⟨l',id,ht⟩:=Dl (S.L i)
 by_cases h0:id=0
 ·
  exact ⟨_,_,l',id,ht,.inl ⟨h0,rfl,rfl⟩⟩
 rcases ht.Fq h hi with e | ⟨j,hj,e⟩
 ·
  exact absurd e h0
 by_cases h1:(S.K j).refs=1
 ·
  exact ⟨_,_,l',id,ht,.inr ⟨h0,j,hj,e,rfl,.inr ⟨h1,rfl⟩⟩⟩
 exact ⟨_,_,l',id,ht,.inr ⟨h0,j,hj,e,rfl,.inl ⟨h1,rfl⟩⟩⟩
theorem oC {K:Nat→Pkt} {j i:Nat} (h:i<j):rmK K j i=K i:=by unfold rmK;rw [if_pos h]
theorem po {K:Nat→Pkt} {j i:Nat} (h:j≤i):rmK K j i=K (i+1):=by unfold rmK;rw [if_neg (by omega)]
theorem ri {K K':Nat→Pkt} {q:Int}:∀ n,(∀ i,i<n→K i=K' i)→jv K q n=jv K' q n
 | 0,_=>rfl
 | n+1,h=>by
  show jv K q n+_=jv K' q n+_
  rw [ri n (fun i hi=>h i (by omega)),h n (by omega)]
theorem pT {K K':Nat→Pkt}:∀ n,(∀ i,i<n→K i=K' i)→iB K n=iB K' n
 | 0,_=>rfl
 | n+1,h=>by
  show iB K n+_=iB K' n+_
  rw [pT n (fun i hi=>h i (by omega)),h n (by omega)]
theorem wY {K:Nat→Pkt} {q:Int}:∀ (n j:Nat),j≤n→jv (rmK K j) q n+(if (K j).p=2∧(K j).inn=q then (K j).cl else 0)=jv K q (n+1)
 | 0,j,h=>by
  obtain rfl:j=0:=by omega
  rfl
 | n+1,j,h=>by
  by_cases e:j=n+1
  ·
   subst e
   rw [ri (K':=K) (n+1) (fun i hi=>oC hi)]
   rfl
  have ih:=wY (K:=K) (q:=q) n j (by omega)
  show jv (rmK K j) q n+(if (rmK K j n).p=2∧(rmK K j n).inn=q then (rmK K j n).cl else 0)+_=jv K q (n+1)+(if (K (n+1)).p=2∧(K (n+1)).inn=q then (K (n+1)).cl else 0)
  rw [po (K:=K) (show j≤n by omega),←ih]
  omega
theorem uc {K:Nat→Pkt}:∀ (n j:Nat),j≤n→iB (rmK K j) n+(if (K j).p=2 then 0 else (K j).cl)=iB K (n+1)
 | 0,j,h=>by
  obtain rfl:j=0:=by omega
  rfl
 | n+1,j,h=>by
  by_cases e:j=n+1
  ·
   subst e
   rw [pT (K':=K) (n+1) (fun i hi=>oC hi)]
   rfl
  have ih:=uc (K:=K) n j (by omega)
  show iB (rmK K j) n+(if (rmK K j n).p=2 then 0 else (rmK K j n).cl)+_=iB K (n+1)+(if (K (n+1)).p=2 then 0 else (K (n+1)).cl)
  rw [po (K:=K) (show j≤n by omega),←ih]
  omega
theorem jS.rm {nx p:Int} {n:Nat} {K:Nat→Pkt} (h:jS nx p n K) {j:Nat} (hj:j<n):jS nx p (n-1) (rmK K j):=by
 have hlt:=nA h.up
 refine ⟨by have:=h.le;omega,fun i hi=>?_,fun i hi h0=>?_⟩
 ·
  by_cases c:i<j
  ·
   rw [oC c];exact h.one i (by omega)
  rw [po (by omega)];exact h.one (i+1) (by omega)
 by_cases c:i<j
 ·
  rw [oC c,oC (by omega)];exact hlt i (i-1) (by omega) (by omega)
 rw [po (show j≤i by omega)]
 by_cases c2:i-1<j
 ·
  rw [oC c2];exact hlt (i+1) (i-1) (by omega) (by omega)
 rw [po (show j≤i-1 by omega)];exact hlt (i+1) (i-1+1) (by omega) (by omega)
theorem vy {nx p:Int} {K:Nat→Pkt} {m:Nat} (h:jS nx p m K):∀ n,n≤m→0≤iB K n
 | 0,_=>Int.le_refl _
 | n+1,hn=>by
  have:=vy h n (by omega)
  have hc:=(h.one n (by omega)).2.2.cl
  show 0≤iB K n+_
  split <;> omega
theorem jS.only {nx p:Int} {n:Nat} {K:Nat→Pkt} (h:jS nx p n K) {j:Nat} (hj:j<n):∀ i,i<n→i≠j→(K i).id≠(K j).id:=fun i hi hne e=>hne (mM h.up hi hj e)
theorem xD {C:Cfg} {N:Cnt} (i:Nat) (h:Cnt.Ok C N):Cnt.Ok C (lY C N i):=⟨h.c,h.nU,h.nP,h.lo,h.u⟩
theorem Swg.Ok.rel {S:Swg} (h:S.Ok) {j:Nat} (hj:j<S.nK):Fv S.C S.N (S.K j).inn (S.K j).p (S.K j).cl∧Cnt.Ok S.C (kW S.N (S.K j).inn (S.K j).p (-(S.K j).cl)):=by
 obtain ⟨_,o2,o3⟩:=h.k.one j hj
 have hcl:=o3.cl
 have hrm:=h.k.rm hj
 refine ⟨⟨h.n,o2,o3.pr,hcl⟩,?_⟩
 by_cases e:(S.K j).p=2
 ·
  obtain ⟨i,ei⟩:∃ i:Nat,(S.K j).inn=(i:Int):=⟨(S.K j).inn.toNat,by omega⟩
  rw [ei,e,nX]
  have hnU:=h.n.nU
  refine ⟨h.n.c,h.n.nU,h.n.nP,h.n.lo,fun k hk=>?_⟩
  have hu:=h.n.u k hk
  show 0≤(if k=i then S.N.u k+-(S.K j).cl else S.N.u k)∧(if k=i then S.N.u k+-(S.K j).cl else S.N.u k)≤_
  by_cases ek:k=i
  ·
   subst ek
   rw [if_pos rfl]
   have hh:=h.held.2 k hk
   have hs:=wY (K:=S.K) (q:=(k:Int)) (S.nK-1) j (by omega)
   rw [if_pos ⟨e,ei⟩,show S.nK-1+1=S.nK by omega] at hs
   have hp:=(wX (q:=(k:Int)) hrm (S.nK-1) (Nat.le_refl _)).1
   omega
  rw [if_neg ek]
  exact hu
 rw [mF e]
 refine ⟨h.n.c,h.n.nU,h.n.nP,?_,h.n.u⟩
 show 0≤S.N.lo+-(S.K j).cl∧S.N.lo+-(S.K j).cl≤_
 have hlo:=h.n.lo
 have hh:=h.held.1
 have hs:=uc (K:=S.K) (S.nK-1) j (by omega)
 rw [if_neg e,show S.nK-1+1=S.nK by omega] at hs
 have hp:=vy hrm (S.nK-1) (Nat.le_refl _)
 omega
theorem ry (z:Nat→Int) (x:Int):∀ n,occ (fun i=>z (i+1)) x n+(if z 0=x then 1 else 0)=occ z x (n+1)
 | 0=>rfl
 | n+1=>by
  have ih:=ry z x n
  show occ (fun i=>z (i+1)) x n+(if z (n+1)=x then 1 else 0)+(if z 0=x then 1 else 0)=occ z x (n+1)+(if z (n+1)=x then 1 else 0)
  omega
def Lng.tf (l:Lng) (x:Int):Nat:=occ l.t x l.nT+qH l x l.nU
theorem nj.tail {n:Nat} {z:Nat→Int} {prio:Int} {m:Nat} {K:Nat→Pkt} (h:nj n z prio m K):nj (n-1) (fun i=>z (i+1)) prio m K:=fun i hi=>by
 obtain ⟨h1,h2⟩:=h (i+1) (by omega)
 refine ⟨h1,fun h0=>?_⟩
 have:=h2 (by omega)
 rw [show i+1-1=i-1+1 by omega] at this
 exact this
theorem qj.jB {m:Nat} {K:Nat→Pkt} {l l':Lng} {id:Int} (hl:lB m K l) (h:qj l l' id) (hpos:∀ j,j<m→1≤(K j).id) :
  lB m K l'∧∀ x,x≠0→l'.tf x+(if id=x then 1 else 0)=l.tf x:=by
 have hu2:∀ (l:Lng) x,l.nU=2→qH l x l.nU=0+occ (l.uz 0) x (l.uL 0)+occ (l.uz 1) x (l.uL 1):=fun l x e=>by rw [e];rfl
 rcases h with ⟨h1,h2,rfl,rfl⟩ | ⟨_,M,y,s,hp,⟨rfl,rfl,rfl⟩ | ⟨c,rfl,rfl,rfl⟩⟩
 ·
  refine ⟨⟨hl.r,hl.n,hl.q0,hl.q1,hl.u,hl.z,hl.t.tail⟩,fun x hx=>?_⟩
  have:=ry l.t x (l.nT-1)
  rw [show l.nT-1+1=l.nT by omega] at this
  show occ (fun i=>l.t (i+1)) x (l.nT-1)+qH l.Db x l.Db.nU+_=occ l.t x l.nT+qH l x l.nU
  rw [hu2 l.Db x hl.u,hu2 l x hl.u]
  show occ (fun i=>l.t (i+1)) x (l.nT-1)+(0+occ (l.uz 0) x (l.uL 0)+occ (l.uz 1) x (l.uL 1))+_=_
  omega
 ·
  have hM:M=l.R:=by
   rcases hp with ⟨hno,_⟩ | ⟨_,_,e,_⟩ | ⟨_,_,_,_,_,e⟩
   ·
    exact absurd hl.r hno
   ·
    exact e
   omega
  subst hM
  exact ⟨hl,fun x hx=>by rw [if_neg (fun e=>hx e.symm)];rfl⟩
 rcases hp with ⟨hno,_⟩ | ⟨_,_,_,e,_⟩ | ⟨ho,_,k,c',hpk,e⟩
 ·
  exact absurd hl.r hno
 ·
  omega
 have e2:c'=c:=by omega
 subst e2
 obtain ⟨r1,r2,r3,r4,r5,r6⟩:=hpk.rows
 obtain ⟨o1,o2,o3,_⟩:=hpk.ok ho
 have hc2:c'<2:=by have:=hl.n;omega
 obtain ⟨z1,z2,z3⟩:=hl.z c' hc2
 have hL:0<l.uL c':=by rw [z2];exact Nat.pos_of_ne_zero r1
 refine ⟨⟨o1,by show M.nQ=2;rw [r6,hl.n],by show M.q 0=2;rw [r5,hl.q0],by show M.q 1=4;rw [r5,hl.q1],hl.u,fun d hd=>?_,hl.t⟩,fun x hx=>?_⟩
 ·
  show nj (ly l.uL c' (l.uL c'-1) d) (qF l.uz c' (fun j=>l.uz c' (j+1)) d) (d:Int) m K∧ly l.uL c' (l.uL c'-1) d=M.L d∧∀ i,i<ly l.uL c' (l.uL c'-1) d→∀ j,j<m→(K j).id=qF l.uz c' (fun j=>l.uz c' (j+1)) d i→M.z d i=(K j).cl
  rw [r3,r4]
  by_cases e:d=c'
  ·
   subst e
   rw [jg,lp,jg,lp]
   exact ⟨z1.tail,by rw [z2],fun i hi j hj e=>z3 (i+1) (by omega) j hj e⟩
  rw [iP e,nr e,iP e,nr e]
  exact hl.z d hd
 show occ l.t x l.nT+qH (l.Er c' M) x (l.Er c' M).nU+_=occ l.t x l.nT+qH l x l.nU
 rw [hu2 (l.Er c' M) x hl.u,hu2 l x hl.u]
 show _+(0+occ (qF l.uz c' (fun j=>l.uz c' (j+1)) 0) x (ly l.uL c' (l.uL c'-1) 0)+occ (qF l.uz c' (fun j=>l.uz c' (j+1)) 1) x (ly l.uL c' (l.uL c'-1) 1))+_=_
 have hs:=ry (l.uz c') x (l.uL c'-1)
 rw [show l.uL c'-1+1=l.uL c' by omega] at hs
 have hc:c'=0∨c'=1:=by omega
 rcases hc with rfl | rfl
 ·
  rw [lp,jg,nr (by omega),iP (by omega)]
  omega
 rw [lp,jg,nr (by omega),iP (by omega)]
 omega
theorem rA (L:Nat→Lng) (i:Nat) (l':Lng) (x:Int) (d:Nat) (h:l'.tf x+d=(L i).tf x):∀ n,lr (fun k=>if k=i then l' else L k) x n+(if i<n then d else 0)=lr L x n
 | 0=>rfl
 | n+1=>by
  have ih:=rA L i l' x d h n
  show lr (fun k=>if k=i then l' else L k) x n+Lng.tf (if n=i then l' else L n) x+_=lr L x n+Lng.tf (L n) x
  by_cases e:n=i
  ·
   subst e
   rw [if_pos rfl,if_pos (by omega)]
   rw [if_neg (by omega)] at ih
   omega
  rw [if_neg e]
  by_cases e2:i<n
  ·
   rw [if_pos (by omega)]
   rw [if_pos e2] at ih
   omega
  rw [if_neg (by omega)]
  rw [if_neg e2] at ih
  omega
theorem lB.dec {m j:Nat} {K:Nat→Pkt} {l:Lng} (h:lB m K l):lB m (j9 K j) l:=by
 have hid:∀ i,(j9 K j i).id=(K i).id:=fun i=>by unfold j9;split <;> rfl
 have hp:∀ i,(j9 K j i).p=(K i).p:=fun i=>by unfold j9;split <;> rfl
 have hcl:∀ i,(j9 K j i).cl=(K i).cl:=fun i=>by unfold j9;split <;> rfl
 have ids:∀ {n z prio},nj n z prio m K→nj n z prio m (j9 K j):=fun k i hi=>by
  obtain ⟨⟨a,a1,a2,a3⟩,b⟩:=k i hi
  exact ⟨⟨a,a1,by rw [hid];exact a2,by rw [hp];exact a3⟩,b⟩
 exact ⟨h.r,h.n,h.q0,h.q1,h.u,fun c hc=>⟨ids (h.z c hc).1,(h.z c hc).2.1,fun i hi a ha e=>by rw [hid] at e;rw [hcl];exact (h.z c hc).2.2 i hi a ha e⟩,ids h.t⟩
theorem xU (K:Nat→Pkt) (j:Nat) (q:Int):∀ n,jv (j9 K j) q n=jv K q n
 | 0=>rfl
 | n+1=>by
  show jv (j9 K j) q n+(if (j9 K j n).p=2∧(j9 K j n).inn=q then (j9 K j n).cl else 0)=jv K q n+_
  rw [xU K j q n]
  have:(j9 K j n).p=(K n).p∧(j9 K j n).inn=(K n).inn∧(j9 K j n).cl=(K n).cl:=by unfold j9;split <;> exact ⟨rfl,rfl,rfl⟩
  rw [this.1,this.2.1,this.2.2]
theorem vz (K:Nat→Pkt) (j:Nat):∀ n,iB (j9 K j) n=iB K n
 | 0=>rfl
 | n+1=>by
  show iB (j9 K j) n+(if (j9 K j n).p=2 then 0 else (j9 K j n).cl)=iB K n+_
  rw [vz K j n]
  have:(j9 K j n).p=(K n).p∧(j9 K j n).cl=(K n).cl:=by unfold j9;split <;> exact ⟨rfl,rfl⟩
  rw [this.1,this.2]
theorem Ag (L:Nat→Lng) (x:Int) (i:Nat):∀ n,i<n→(L i).tf x≤lr L x n
 | n+1,hn=>by
  show _≤lr L x n+Lng.tf (L n) x
  by_cases e:i=n
  ·
   subst e;omega
  have:=Ag L x i n (by omega);omega
theorem lB.rm {m j:Nat} {K:Nat→Pkt} {l:Lng} (h:lB m K l) (hj:j<m) (hno:l.tf (K j).id=0):lB (m-1) (rmK K j) l:=by
 have key:∀ {z:Nat→Int} {n i:Nat} {prio:Int},(∃ a,a<m∧(K a).id=z i∧(K a).p=prio)→i<n→occ z (K j).id n=0→∃ a,a<m-1∧(rmK K j a).id=z i∧(rmK K j a).p=prio:=by
  rintro z n i prio ⟨a,a1,a2,a3⟩ hi h0
  have hne:a≠j:=fun e=>by
   subst e
   have:=rz.2 ⟨i,hi,a2.symm⟩
   omega
  by_cases c:a<j
  ·
   exact ⟨a,by omega,by rw [oC c];exact ⟨a2,a3⟩⟩
  refine ⟨a-1,by omega,?_⟩
  rw [po (by omega),show a-1+1=a by omega]
  exact ⟨a2,a3⟩
 unfold Lng.tf at hno
 have hu:qH l (K j).id l.nU=0+occ (l.uz 0) (K j).id (l.uL 0)+occ (l.uz 1) (K j).id (l.uL 1):=by rw [h.u];rfl
 rw [hu] at hno
 refine ⟨h.r,h.n,h.q0,h.q1,h.u,fun c hc=>⟨fun i hi=>⟨key ((h.z c hc).1 i hi).1 hi ?_,((h.z c hc).1 i hi).2⟩,(h.z c hc).2.1,fun i hi a ha e=>?_⟩,fun i hi=>⟨key (h.t i hi).1 hi (by omega),(h.t i hi).2⟩⟩
 ·
  have:c=0∨c=1:=by omega
  rcases this with rfl | rfl <;> omega
 by_cases c2:a<j
 ·
  rw [oC c2] at e ⊢
  exact (h.z c hc).2.2 i hi a (by omega) e
 rw [po (by omega)] at e ⊢
 exact (h.z c hc).2.2 i hi (a+1) (by omega) e
theorem o6.ok {S S':Swg} (h:S.Ok) {i:Nat} (hi:i<S.nL) {fs:List Pkt} (hm:o6 S S' i fs):S'.Ok:=by
 obtain ⟨l',id,ht,hm⟩:=hm
 have hpos:∀ j,j<S.nK→1≤(S.K j).id:=fun j hj=>(h.k.one j hj).1.1
 obtain ⟨k1,k2⟩:=ht.jB (h.l i hi) hpos
 have hlane:∀ k,k<S.nL→lB S.nK S.K (if k=i then l' else S.L k):=fun k hk=>by
  split
  ·
   exact k1
  exact h.l k hk
 have hocc:∀ x,x≠0→lr (fun k=>if k=i then l' else S.L k) x S.nL+(if id=x then 1 else 0)=lr S.L x S.nL:=fun x hx=>by
  have:=rA S.L i l' x _ (k2 x hx) S.nL
  rw [if_pos hi] at this
  exact this
 rcases hm with ⟨rfl,rfl,_⟩ | ⟨h0,j,hj,hid,_,⟨hr,rfl⟩ | ⟨hr,rfl⟩⟩
 ·
  refine ⟨xD i h.n,⟨h.nums.now,h.nums.nx,h.nums.dr,h.nums.lst⟩,h.seen,h.k,h.nl,hlane,fun j hj=>?_,h.held⟩
  obtain ⟨r1,r2⟩:=h.refs j hj
  have hp:=hpos j hj
  have:=hocc (S.K j).id (by omega)
  rw [if_neg (by omega)] at this
  exact ⟨r1,by show (S.K j).refs=(lr (fun k=>if k=i then l' else S.L k) (S.K j).id S.nL:Nat);omega⟩
 ·
  refine ⟨xD i h.n,⟨h.nums.now,h.nums.nx,h.nums.dr,h.nums.lst⟩,h.seen,?_,h.nl,fun k hk=>(hlane k hk).dec,fun a ha=>?_,⟨?_,fun q hq=>?_⟩⟩
  ·
   refine ⟨h.k.le,fun a ha=>?_,fun a ha h1=>?_⟩
   ·
    have:=h.k.one a ha
    show (1≤(j9 S.K j a).id∧(j9 S.K j a).id≤S.nx-1)∧(0≤(j9 S.K j a).inn∧(j9 S.K j a).inn≤S.C.p-1)∧(j9 S.K j a).nq
    by_cases e:a=j
    ·
     have e1:j9 S.K j a={ S.K a with refs:=(S.K a).refs-1 }:=by unfold j9;rw [if_pos e]
     rw [e1];exact this
    have e1:j9 S.K j a=S.K a:=by unfold j9;rw [if_neg e]
    rw [e1];exact this
   have:=h.k.up a ha h1
   show (j9 S.K j (a-1)).id<(j9 S.K j a).id
   have e1:∀ b,(j9 S.K j b).id=(S.K b).id:=fun b=>by unfold j9;split <;> rfl
   rw [e1,e1]
   exact this
  ·
   show 1≤(j9 S.K j a).refs∧(j9 S.K j a).refs=(lr (fun k=>if k=i then l' else S.L k) (j9 S.K j a).id S.nL:Nat)
   obtain ⟨r1,r2⟩:=h.refs a ha
   have hp:=hpos a ha
   have ho:=hocc (S.K a).id (by omega)
   by_cases e:a=j
   ·
    subst e
    rw [if_pos hid.symm] at ho
    have e1:j9 S.K a a={ S.K a with refs:=(S.K a).refs-1 }:=by unfold j9;rw [if_pos rfl]
    rw [e1]
    show 1≤(S.K a).refs-1∧(S.K a).refs-1=(lr (fun k=>if k=i then l' else S.L k) (S.K a).id S.nL:Nat)
    omega
   have hne:=h.k.only hj a ha e
   rw [if_neg (by rw [←hid];exact fun q=>hne q.symm)] at ho
   have e1:j9 S.K j a=S.K a:=by unfold j9;rw [if_neg e]
   rw [e1]
   omega
  ·
   show S.N.lo=iB (j9 S.K j) S.nK
   rw [vz];exact h.held.1
  show S.N.u q=jv (j9 S.K j) q S.nK
  rw [xU];exact h.held.2 q hq
 have hp:=hpos j hj
 have h1:=hocc (S.K j).id (by omega)
 rw [if_pos hid.symm] at h1
 have r0:=(h.refs j hj).2
 have hz:lr (fun k=>if k=i then l' else S.L k) (S.K j).id S.nL=0:=by omega
 have hrel:=h.rel hj
 have hcn:Cnt.Ok S.C (kW (lY S.C S.N i) (S.K j).inn (S.K j).p (-(S.K j).cl)):=by
  have hc:=hrel.2
  unfold kW at hc ⊢
  split
  ·
   rename_i e;rw [if_pos e] at hc;exact ⟨hc.c,hc.nU,hc.nP,hc.lo,hc.u⟩
  rename_i e;rw [if_neg e] at hc;exact ⟨hc.c,hc.nU,hc.nP,hc.lo,hc.u⟩
 refine ⟨hcn,⟨h.nums.now,h.nums.nx,h.nums.dr,h.nums.lst⟩,h.seen,h.k.rm hj,h.nl,fun k hk=>(hlane k hk).rm hj ?_,fun a ha=>?_,?_⟩
 ·
  have:=Ag (fun k=>if k=i then l' else S.L k) (S.K j).id k S.nL hk
  omega
 ·
  show 1≤(rmK S.K j a).refs∧(rmK S.K j a).refs=(lr (fun k=>if k=i then l' else S.L k) (rmK S.K j a).id S.nL:Nat)
  have key:∀ b,b<S.nK→b≠j→1≤(S.K b).refs∧(S.K b).refs=(lr (fun k=>if k=i then l' else S.L k) (S.K b).id S.nL:Nat):=fun b hb e=>by
   obtain ⟨r1,r2⟩:=h.refs b hb
   have hp:=hpos b hb
   have ho:=hocc (S.K b).id (by omega)
   have hne:=h.k.only hj b hb e
   rw [if_neg (by rw [←hid];exact fun q=>hne q.symm)] at ho
   omega
  have ha':a<S.nK-1:=ha
  by_cases c:a<j
  ·
   rw [oC c];exact key a (by omega) (by omega)
  rw [po (by omega)];exact key (a+1) (by omega) (by omega)
 have hs:=uc (K:=S.K) (S.nK-1) j (by omega)
 rw [show S.nK-1+1=S.nK by omega] at hs
 have hh:=h.held
 have hu:=fun q=>wY (K:=S.K) (q:=q) (S.nK-1) j (by omega)
 rw [show S.nK-1+1=S.nK by omega] at hu
 by_cases e:(S.K j).p=2
 ·
  obtain ⟨p,ep⟩:∃ p:Nat,(S.K j).inn=(p:Int):=⟨(S.K j).inn.toNat,by have:=(h.k.one j hj).2.1.1;omega⟩
  rw [if_pos e] at hs
  have e3:kW (lY S.C S.N i) (S.K j).inn (S.K j).p (-(S.K j).cl)=(lY S.C S.N i).sj p (-(S.K j).cl):=by rw [ep,e,nX]
  refine ⟨?_,fun q hq=>?_⟩
  ·
   show (kW (lY S.C S.N i) (S.K j).inn (S.K j).p (-(S.K j).cl)).lo=iB (rmK S.K j) (S.nK-1)
   rw [e3]
   show S.N.lo=_
   rw [hh.1];omega
  have hq':q<(kW (lY S.C S.N i) (S.K j).inn (S.K j).p (-(S.K j).cl)).nU:=hq
  rw [e3] at hq'
  have hq2:q<S.N.nU:=hq'
  show (kW (lY S.C S.N i) (S.K j).inn (S.K j).p (-(S.K j).cl)).u q=jv (rmK S.K j) q (S.nK-1)
  rw [e3]
  have h2:=hu (q:Int)
  have h3:=hh.2 q hq2
  show (if q=p then S.N.u q+-(S.K j).cl else S.N.u q)=_
  by_cases c:q=p
  ·
   subst c
   rw [if_pos ⟨e,ep⟩] at h2
   rw [if_pos rfl];omega
  rw [if_neg (fun k=>c (by have:=k.2;omega))] at h2
  rw [if_neg c];omega
 rw [if_neg e] at hs
 have e3:kW (lY S.C S.N i) (S.K j).inn (S.K j).p (-(S.K j).cl)=(lY S.C S.N i).El (-(S.K j).cl):=mF e
 refine ⟨?_,fun q hq=>?_⟩
 ·
  show (kW (lY S.C S.N i) (S.K j).inn (S.K j).p (-(S.K j).cl)).lo=iB (rmK S.K j) (S.nK-1)
  rw [e3]
  show S.N.lo+-(S.K j).cl=_
  rw [hh.1];omega
 have hq':q<(kW (lY S.C S.N i) (S.K j).inn (S.K j).p (-(S.K j).cl)).nU:=hq
 rw [e3] at hq'
 have hq2:q<S.N.nU:=hq'
 show (kW (lY S.C S.N i) (S.K j).inn (S.K j).p (-(S.K j).cl)).u q=jv (rmK S.K j) q (S.nK-1)
 rw [e3]
 have h2:=hu (q:Int)
 have h3:=hh.2 q hq2
 show S.N.u q=_
 rw [if_neg (fun k=>e k.1)] at h2
 omega
end Go.Proofs.YthicmlolanifhaaGreat
