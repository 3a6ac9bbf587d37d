import Derived.Test.YthicmlolanifhaaGreatV09
import Derived.Test.YthicmlolanifhaaGreatV22
namespace Go.Proofs.YthicmlolanifhaaGreat
set_option maxRecDepth 100000
set_option maxHeartbeats 9000000
open Go.RowKit
set_option linter.unusedVariables false
set_option linter.unusedSimpArgs false
variable {C:Cfg} {nx q s y:Int} {base i j n:Nat} {K K':Nat→Pkt} {o o' o2:Obj} {p:Prop} {B R:Rnd} {w wi:World}
theorem dx (h:p:=by
 have kz3:=jI kR4 (.slice none 0 0) (.int .i64 0) (.slice none 0 0)
 have HB:Hid (Below w.heap.size w (nr w4 (w.heap.size+1+1) (.slice none 0 0) (.int .i64 0) (.slice none 0 0))):=B4.trans ((jg _ _ _ _ _).below B4.size (fun x hx=>by simp at hx;omega))
 have cB:=iv kz3
 clear kz3 kX4 kR4 B4 hM4
 unfold nr at cB
 go_wp2_with fail
 exact bodyPost_ret (v:=.tuple #[.agg ag,.bool false]) (by simp [results,Tryz.results142,go_sem,cB]) rfl ⟨tO,rfl,pc _ _,HB,iQ.refl _⟩):p:=h
theorem dy (h:p:=by
 have kz3:=jI kR4 (.slice none 0 0) (.int .i64 0) (.slice none 0 0)
 have HB:Hid (Below w.heap.size w (nr w4 (w.heap.size+1+1) (.slice none 0 0) (.int .i64 0) (.slice none 0 0))):=B4.trans ((jg _ _ _ _ _).below B4.size (fun x hx=>by simp at hx;omega))
 have cB:=iv kz3
 clear kz3 kX4 kR4 B4 hM4
 unfold nr at cB
 go_wp2_with fail
 exact bodyPost_ret (v:=.tuple #[.agg ag,.bool false]) (by simp [results,Tryz.results70,go_sem,cB]) rfl ⟨tO,rfl,pc _ _,HB,iQ.refl _⟩):p:=h
theorem dA (h:p:=by
 go_enter Tryz.func92,Tryz.ntmps92
 go_wp2_with fail
 go_ret
 exact ⟨iD (by simp [jc]),HA _⟩):p:=h
abbrev Hh (g o:Nat):Addr:=⟨g,o,none⟩
theorem uo (R:Rnd) (w:World) (hs:R.Small) (h:mo w R) (ho:R.Ok) (hno:∀ i,i<R.nQ→R.L i=0) :
  Calls Tryz.prog 68 #[.agg R.cells] w fun e w'=>∃ M,e=.returned (.tuple #[.agg M.cells,.int .i64 (-1),.int .i64 0])∧jx w' w.heap.size M∧Below w.heap.size w w'∧Alike R M∧∀ i,i<M.nS→M.L i≤M.C i:=by
 obtain ⟨aQ,nQ,cQ,q,aD,nD,cD,d,turn,fresh,aS,nS,cS,A,L,C,z⟩:=R
 have HSm:=aa hs
 have HRd:=aa h
 have hsS:nS≤1048576:=hs.s
 have HnS:=aa ho.s
 have HNo:=aa hno
 have HRow:=aa h.s
 have hB:Below (w.heap.size+2) ((w.alloc (.cells #[.slice aQ nQ cQ,.slice aD nD cD,.int .i64 turn,.bool fresh,.slice aS nS cS] 46)).alloc (.cells ae 46)) ((w.alloc (.cells #[.slice aQ nQ cQ,.slice aD nD cD,.int .i64 turn,.bool fresh,.slice aS nS cS] 46)).alloc (.cells ae 46)):=Below.refl _ _
 have cb:=CH hB
 clear hs h ho hno
 unfold Rnd.cells
 dsimp only
 go_enter Tryz.func68,Tryz.ntmps68
 go_wp2_with fail
 go_loop [5,6] (fun bv i=>∃ (j:Nat),j≤nS∧i=.int .i64 j∧bv=.bool false) (fun _ i=>nS-(intOf i).toNat)
 case atStart=>exact ⟨0,Nat.zero_le _,rfl,rfl⟩
 obtain ⟨j,hj,rfl,rfl⟩:=hrel
 by_cases hlt:j<nS
 ·
  have hlt':(j:Int)<nS:=by omega
  obtain ⟨g,o,rfl,s1⟩:=(HRow.up (qh hB)) j hlt
  dsimp only at s1
  have hLj:L j=0:=HNo j (by have:=HnS.out;omega)
  rw [hLj] at s1
  clear hLj
  go_wp2_with fail
  go_round
  case rel=>exact ⟨j+1,by omega,by go_num,rfl⟩
  case measure=>simp [intOf];omega
 obtain rfl:j=nS:=by omega
 have hjj:¬ ((j:Nat):Int)<((j:Nat):Int):=by omega
 go_wp2_with fail
 refine (lY ⟨aQ,nQ,cQ,q,aD,nD,cD,d,turn,fresh,aS,j,cS,A,L,C,z⟩ _ HSm (HRd.up (qh hB))).mono ?_
 rintro e w3 ⟨aq,cq,ad,cd,av,cv,A2,C2,rfl,hOw,hb⟩
 have HCap:Hid (∀ i,i<j→L i≤C2 i):=fun i hi=>F3 (hOw.z i hi)
 replace hB:=sb hB hb
 have hA:=(Below.refl w3.heap.size w3).alloc (Nat.le_refl _) (.cells #[.slice aq nQ cq,.slice ad nD cd,.int .i64 turn,.bool fresh,.slice av j cv] 46)
 have kb:=iy w3 (.cells #[.slice aq nQ cq,.slice ad nD cd,.int .i64 turn,.bool fresh,.slice av j cv] 46)
 have hOw2:=hOw.own.up hA
 have hgb:w.heap.size+2≤w3.heap.size:=by have:=lH hB;omega
 replace hB:=sb hB hA
 clear hb hA hOw
 dsimp only [Rnd.cells,Rnd.cp2]
 go_wp2_with fail
 generalize w3.alloc (.cells #[.slice aq nQ cq,.slice ad nD cd,.int .i64 turn,.bool fresh,.slice av j cv] 46)=w4 at *
 generalize w3.heap.size=gb at *
 have HB4:=aa hB
 have kR:=EY hB
 have cR:=iv kR
 have fR:=iF kR
 have cG:=iv kb
 have hne:gb≠w.heap.size+1:=by omega
 have hne2:w.heap.size+1≠gb:=by omega
 have hbase:((w.alloc (.cells #[.slice aQ nQ cQ,.slice aD nD cD,.int .i64 turn,.bool fresh,.slice aS j cS] 46)).alloc (.cells ae 46)).heap.size=w.heap.size+2:=by simp
 rw [hbase] at hOw2
 have HOw:=aa hOw2
 have HKR:=aa kR
 have HUn:=aa (qh hB)
 clear hOw2 hbase hB kR kb HRd HSm HRow HNo HnS
 go_loopw [8] (fun _ wr=>wr=w4) (fun _ _=>0)
 case atStart=>rfl
 obtain rfl:=hrel
 go_wp2_with fail
 have ht:=kI wr (w.heap.size+1) (.slice aq nQ cq) (.slice ad nD cd) (.int .i64 turn) (.bool fresh) (.slice av j cv)
 have cF:=iv (mS HKR (.slice aq nQ cq) (.slice ad nD cd) (.int .i64 turn) (.bool fresh) (.slice av j cv))
 have hBf:=HUn.trans (ht.below HUn.size (fun x hx=>by simp at hx;omega))
 have hOf:=(HOw.jE ht (fun x hx=>by simp at hx;omega)).mono (show w.heap.size≤w.heap.size+2 by omega)
 unfold uf at cF hBf hOf
 exact bodyPost_ret (v:=.tuple #[.agg #[.slice aq nQ cq,.slice ad nD cd,.int .i64 turn,.bool fresh,.slice av j cv],.int .i64 (-1),.int .i64 0]) (by simp [results,Tryz.results68,go_sem,cF]) rfl ⟨Rnd.cp2 ⟨aQ,nQ,cQ,q,aD,nD,cD,d,turn,fresh,aS,j,cS,A,L,C,z⟩ aq cq ad cd av cv A2 C2,rfl,hOf,hBf,⟨rfl,rfl,rfl,rfl,rfl,rfl,rfl,rfl,rfl⟩,HCap⟩
def tz (R M:Rnd) (x s:Int):Prop :=
 (¬ R.Ok∧M=zR∧x=-1∧s=0)∨(R.Ok∧(∀ i,i<R.nQ→R.L i=0)∧M=R∧x=-1∧s=0)∨(R.Ok∧(∃ c0,c0<R.nQ∧R.L c0≠0)∧∃ k c,lj k R M c s∧x=((c:Nat):Int))
theorem DC (R:Rnd):∃ M x s,tz R M x s:=by
 by_cases ho:R.Ok
 ·
  by_cases hw:∃ c0,c0<R.nQ∧R.L c0≠0
  ·
   obtain ⟨c0,h1,h2⟩:=hw
   obtain ⟨k,R',c,s,hp⟩:=DA c0 _ R rfl ho h1 h2
   exact ⟨R',c,s,.inr (.inr ⟨ho,⟨c0,h1,h2⟩,k,c,hp,rfl⟩)⟩
  refine ⟨R,-1,0,.inr (.inl ⟨ho,fun i hi=>?_,rfl,rfl,rfl⟩)⟩
  by_cases e:R.L i=0
  ·
   exact e
  exact absurd ⟨i,hi,e⟩ hw
 exact ⟨zR,-1,0,.inl ⟨ho,rfl,rfl,rfl⟩⟩
theorem Alike.okI {A:Rnd} (h:Alike A B):B.Ok↔A.Ok:=by
 have key:∀ {A B:Rnd},Alike A B→A.Ok→B.Ok:=fun {A B} h ho=>by
  refine ⟨by rw [h.nQ];exact ho.n,by rw [h.nD,h.nQ];exact ho.d,by rw [h.nS,h.nQ];exact ho.s,by rw [h.t,h.nQ];exact ho.t,fun i hi=>?_⟩
  have:=ho.c i (by rw [←h.nQ];exact hi)
  unfold Rnd.begun at this ⊢
  rw [h.q,h.d,h.l,h.z,h.t,h.f]
  exact this
 exact ⟨key h.symm,key h⟩
theorem tz.tL {M:Rnd} {x:Int} (h:tz R M x s) (ha:Alike R B):∃ M',tz B M' x s∧Alike M M':=by
 rcases h with ⟨ho,rfl,h1,h2⟩ | ⟨ho,hn,rfl,h1,h2⟩ | ⟨ho,⟨c0,h1,h2⟩,k,c,hp,hx⟩
 ·
  exact ⟨zR,.inl ⟨fun hb=>ho (ha.okI.1 hb),rfl,h1,h2⟩,Alike.refl _⟩
 ·
  exact ⟨B,.inr (.inl ⟨ha.okI.2 ho,fun i hi=>by rw [ha.l];exact hn i (by rw [←ha.nQ];exact hi),rfl,h1,h2⟩),ha⟩
 obtain ⟨B',hp2,ha2⟩:=hp.tL ha
 exact ⟨B',.inr (.inr ⟨ha.okI.2 ho,⟨c0,by rw [ha.nQ];exact h1,by rw [ha.l];exact h2⟩,k,c,hp2,hx⟩),ha2⟩
theorem vN (R M:Rnd) (x s:Int) (w:World) (hs:R.Small) (h:mo w R) (ho:R.Ok) (hp:tz R M x s) :
  Calls Tryz.prog 68 #[.agg R.cells] w fun e w'=>∃ R',e=.returned (.tuple #[.agg R'.cells,.int .i64 x,.int .i64 s])∧jx w' w.heap.size R'∧Below w.heap.size w w'∧Alike M R'∧∀ i,i<R'.nS→R'.L i≤R'.C i:=by
 rcases hp with ⟨hn,_⟩ | ⟨_,hn,rfl,rfl,rfl⟩ | ⟨_,⟨c0,h1,h2⟩,k,c,hp,rfl⟩
 ·
  exact absurd ho hn
 ·
  exact uo _ w hs h ho hn
 exact xF R w hs h ho c0 h1 h2 k M c s hp
theorem vO (R M:Rnd) (x s:Int) (w:World) (hs:R.Small) (h:mo w R) (ho:R.Ok) (hp:tz R M x s) :
  Calls Tryz.prog 68 #[.agg R.cells] w fun e w'=>∃ R',e=.returned (.tuple #[.agg R'.cells,.int .i64 x,.int .i64 s])∧jx w' w.heap.size R'∧Below w.heap.size w w'∧Alike M R' :=
 (vN R M x s w hs h ho hp).mono fun e w' ⟨M,h1,h2,h3,h4,_⟩=>⟨M,h1,h2,h3,h4⟩
theorem mi (h:Below (w.heap.size+3) (((w.alloc o).alloc o').alloc o2) wi):wi.heap[w.heap.size]?=some o∧wi.heap[w.heap.size+1]?=some o'∧wi.heap[w.heap.size+1+1]?=some o2:=by
 have e1:(w.alloc o).heap.size=w.heap.size+1:=by simp
 have e2:((w.alloc o).alloc o').heap.size=w.heap.size+1+1:=by simp
 refine ⟨(h.block _ (by omega)).trans ((iN _ (by omega)).trans ((iN _ (by omega)).trans (iy _ _))),(h.block _ (by omega)).trans ((iN _ (by omega)).trans ?_),(h.block _ (by omega)).trans ?_⟩
 ·
  have:=iy (w.alloc o) o'
  rw [e1] at this
  exact this
 have:=iy ((w.alloc o).alloc o') o2
 rw [e2] at this
 exact this
theorem kQ (h:Below (w.heap.size+3) (((w.alloc o).alloc o').alloc o2) wi):Below w.heap.size w wi :=
 ((((Below.refl _ _).alloc (Nat.le_refl _) o).alloc (by simp) o').alloc (by simp;omega) o2).trans (h.mono (by omega))
theorem sJ (h:Below (w.heap.size+3) (((w.alloc o).alloc o').alloc o2) wi):w.heap.size+3≤wi.heap.size:=by
 have:=h.size
 simpa using this
theorem rF {wj:World} (h:Below (w.heap.size+3) (((w.alloc o).alloc o').alloc o2) wi) (k:Below wi.heap.size wi wj):Below (w.heap.size+3) (((w.alloc o).alloc o').alloc o2) wj :=
 h.trans (k.mono (sJ h))
def Cnt.ra (N:Cnt) (i:Nat) (y:Int):Cnt:={ N with u:=Go.Proofs.YthicmlolanifhaaGreat.ra N.u i y }
def Cnt.Ea (N:Cnt) (y:Int):Cnt:={ N with lo:=N.lo+y }
def nz (N:Cnt) (ok:Bool):Cnt:=if ok then N else tO
structure zc (C:Cfg) (N:Cnt):Prop where
 u:2≤N.nU∧N.nU≤4
 p:2≤N.nP∧N.nP≤4
 lo:0≤N.lo∧N.lo≤1000
 at':∀ i,i<N.nU→0≤N.u i∧N.u i≤2000
theorem Cnt.Ok.facts {N:Cnt} (h:Cnt.Ok C N):zc C N:=by
 have h1:=h.nU
 have h2:=h.nP
 have h3:=h.c.num.p
 have h4:=h.lo
 have h5:=h.c.num.lo
 have h6:=h.c.num.xo
 have h7:=h.c.num.hd
 exact ⟨⟨by omega,by omega⟩,⟨by omega,by omega⟩,⟨by omega,by omega⟩,fun i hi=>by have:=h.u i hi;omega⟩
theorem zc.small {N:Cnt} (h:zc C N):N.Small:=⟨by have:=h.u;omega,by have:=h.p;omega⟩
theorem wg (C:Cfg) (N:Cnt) (i:Nat) (y:Int) (w:World) (hN:Cnt.Ok C N) (h:mq w N) (hi:i<N.nU) (hy1:-5≤y) (hy2:y≤5) (ok:Bool) (hok:ok=true↔Cnt.Ok C (N.ra i y)) :
  Calls Tryz.prog 142 #[.agg C.cells,.agg N.cells,.iface 155 (.agg #[.int .i64 (i:Int)]),.int .i64 y] w fun e w'=>∃ M:Cnt,e=.returned (.tuple #[.agg M.cells,.bool ok])∧jb w' w.heap.size M∧Below w.heap.size w w'∧iQ (nz (N.ra i y) ok) M:=by
 have HO:=aa hok
 have HR:=aa h
 have HFa:=aa hN.facts
 have HB0:Hid (Below (w.heap.size+3) (((w.alloc (.cells #[.int .i64 C.p,.int .i64 C.c,.int .i64 C.xo,.int .i64 C.xn,.int .i64 C.hd,.int .i64 C.lo,.int .i64 C.dl] 25)).alloc (.cells #[.slice N.aU N.nU N.cU,.int .i64 N.lo,.slice N.aP N.nP N.cP] 30)).alloc (.cells ag 30)) (((w.alloc (.cells #[.int .i64 C.p,.int .i64 C.c,.int .i64 C.xo,.int .i64 C.xn,.int .i64 C.hd,.int .i64 C.lo,.int .i64 C.dl] 25)).alloc (.cells #[.slice N.aU N.nU N.cU,.int .i64 N.lo,.slice N.aP N.nP N.cP] 30)).alloc (.cells ag 30))):=Below.refl _ _
 have hsm:=HFa.small.u
 have HFit:Hid (N.nU≤maxLen∧N.nP≤maxLen):=⟨HFa.small.fit.u,HFa.small.fit.p⟩
 have hl1:=HFa.lo.1
 have hl2:=HFa.lo.2
 have hu1:=(HFa.at' i hi).1
 have hu2:=(HFa.at' i hi).2
 have hi2:(i:Int)<N.nU:=by omega
 have hnm:(N.nU:Int)≤1048576:=by omega
 clear hok h hN
 unfold Cfg.cells Cnt.cells
 go_enter Tryz.func142,Tryz.ntmps142
 go_wp2_with fail
 refine (nn N _ (by have:=HFa.u;omega) (by have:=HFa.p;omega) HFa.small (HR.up (kQ HB0))).mono ?_
 rintro e w1 ⟨M,rfl,hM,hb1,hAM⟩
 have hB:=rF HB0 hb1
 have HL1:=aa (sJ hB)
 have HMb:Hid (w.heap.size+3≤(((w.alloc (.cells #[.int .i64 C.p,.int .i64 C.c,.int .i64 C.xo,.int .i64 C.xn,.int .i64 C.hd,.int .i64 C.lo,.int .i64 C.dl] 25)).alloc (.cells #[.slice N.aU N.nU N.cU,.int .i64 N.lo,.slice N.aP N.nP N.cP] 30)).alloc (.cells ag 30)).heap.size):=by rw [Hid];simp
 obtain ⟨aU,nU',cU,u',lo',aP,nP',cP,p'⟩:=M
 obtain ⟨h1,h2,h3,h4,h5⟩:=hAM
 dsimp only at h1 h2 h3 h4 h5
 subst h1 h2 h3 h4 h5
 obtain ⟨hMu,hMp⟩:=hM
 dsimp only at hMu hMp
 rcases hMu with h0 | ⟨gU,rfl,hgU,hrU⟩
 ·
  have:=HFa.u
  omega
 have hVP:VT 4 w1 (w.heap.size+3) aP N.nP (fun i=>.bool (N.p i)):=hMp.mono HMb.out
 have HgU:=aa (Nat.le_trans HMb hgU)
 clear hb1 hMp hgU
 have hA:=(Below.refl w1.heap.size w1).alloc (Nat.le_refl _) (.cells #[.slice (some (Hh gU 0)) N.nU cU,.int .i64 N.lo,.slice aP N.nP cP] 30)
 have kX:=iy w1 (.cells #[.slice (some (Hh gU 0)) N.nU cU,.int .i64 N.lo,.slice aP N.nP cP] 30)
 have l1:=hrU.lt
 have HgX:Hid (gU≠w1.heap.size):=by show gU≠w1.heap.size;omega
 replace hrU:=hrU.jR (hA.block _ hrU.lt)
 replace hVP:=hVP.up hA
 replace hB:=rF hB hA
 have cb:=iv (mi hB).1
 clear hA l1
 dsimp only [Cnt.cells]
 go_wp2_with fail
 generalize w1.alloc (.cells #[.slice (some (Hh gU 0)) N.nU cU,.int .i64 N.lo,.slice aP N.nP cP] 30)=w2 at *
 refine (pU w1.heap.size gU N.nU cU i _ _ N.u y _ hi (by omega) kX hrU (by omega) (by omega)).mono ?_
 rintro e w3 ⟨rfl,hr3,ht3⟩
 have kX3:=(ht3.block _ (iw kX) (by have:=HgX.out;simp;omega)).trans kX
 have hM3:jb w3 (w.heap.size+3) ⟨some (Hh gU 0),N.nU,cU,Go.Proofs.YthicmlolanifhaaGreat.ra N.u i y,N.lo,aP,N.nP,cP,N.p⟩:=⟨VT.of HgU hr3,hVP.iB ht3 (fun x hx hy=>by simp at hy;subst hy;obtain ⟨arr,hk,_⟩:=hrU;exact VT.nW hVP (by decide) hk hx)⟩
 have kC3:=(ht3.block _ (iw (mi hB).1) (by have:=HgU.out;have:=HL1.out;simp;omega)).trans (mi hB).1
 have kR3:=(ht3.block _ (iw (mi hB).2.2) (by have:=HgU.out;have:=HL1.out;simp;omega)).trans (mi hB).2.2
 have B3:=(kQ hB).trans (ht3.below (kQ hB).size (fun x hx=>by have:=HgU.out;have:=HL1.out;simp at hx;omega))
 clear hB hrU hVP kX hr3 ht3 cb
 have cb:=iv kC3
 have cX:=iv kX3
 go_wp2_with fail
 refine (mA C ⟨some (Hh gU 0),N.nU,cU,Go.Proofs.YthicmlolanifhaaGreat.ra N.u i y,N.lo,aP,N.nP,cP,N.p⟩ _ ⟨HFit.1,HFit.2⟩ hM3.rd ok (HO.trans ⟨fun k=>⟨k.c,k.nU,k.nP,k.lo,k.u⟩,fun k=>⟨k.c,k.nU,k.nP,k.lo,k.u⟩⟩)).mono ?_
 rintro e w4 ⟨rfl,hb4⟩
 have hM4:=hM3.up hb4
 have kX4:=(hb4.block _ (iw kX3)).trans kX3
 have kR4:=(hb4.block _ (iw kR3)).trans kR3
 have B4:=B3.trans (hb4.mono B3.size)
 clear hM3 kX3 kR3 kC3 B3 hb4 cb cX
 have cR:=iv kR4
 have fR:=iF kR4
 have cX:=iv kX4
 cases ok
 · exact dx
 have kz3:=jI kR4 (.slice (some (Hh gU 0)) N.nU cU) (.int .i64 N.lo) (.slice aP N.nP cP)
 have HB:Hid (Below w.heap.size w (nr w4 (w.heap.size+1+1) (.slice (some (Hh gU 0)) N.nU cU) (.int .i64 N.lo) (.slice aP N.nP cP))):=B4.trans ((jg _ _ _ _ _).below B4.size (fun x hx=>by simp at hx;omega))
 have HM:Hid (jb (nr w4 (w.heap.size+1+1) (.slice (some (Hh gU 0)) N.nU cU) (.int .i64 N.lo) (.slice aP N.nP cP)) w.heap.size ⟨some (Hh gU 0),N.nU,cU,Go.Proofs.YthicmlolanifhaaGreat.ra N.u i y,N.lo,aP,N.nP,cP,N.p⟩):=(nw hM4 kR4).mono (by omega)
 have cB:=iv kz3
 clear kz3 kX4 kR4 B4 hM4
 unfold nr at cB
 go_wp2_with fail
 exact bodyPost_ret (v:=.tuple #[.agg #[.slice (some (Hh gU 0)) N.nU cU,.int .i64 N.lo,.slice aP N.nP cP],.bool true]) (by simp [results,Tryz.results142,go_sem,cB]) rfl ⟨⟨some (Hh gU 0),N.nU,cU,Go.Proofs.YthicmlolanifhaaGreat.ra N.u i y,N.lo,aP,N.nP,cP,N.p⟩,rfl,HM,HB,⟨rfl,rfl,rfl,rfl,rfl⟩⟩
theorem wh (C:Cfg) (N:Cnt) (y:Int) (w:World) (hN:Cnt.Ok C N) (h:mq w N) (hy1:-5≤y) (hy2:y≤5) (ok:Bool) (hok:ok=true↔Cnt.Ok C (N.Ea y)) :
  Calls Tryz.prog 142 #[.agg C.cells,.agg N.cells,.iface 153 (.agg #[]),.int .i64 y] w fun e w'=>∃ M:Cnt,e=.returned (.tuple #[.agg M.cells,.bool ok])∧jb w' w.heap.size M∧Below w.heap.size w w'∧iQ (nz (N.Ea y) ok) M:=by
 have HO:=aa hok
 have HR:=aa h
 have HFa:=aa hN.facts
 have HB0:Hid (Below (w.heap.size+3) (((w.alloc (.cells #[.int .i64 C.p,.int .i64 C.c,.int .i64 C.xo,.int .i64 C.xn,.int .i64 C.hd,.int .i64 C.lo,.int .i64 C.dl] 25)).alloc (.cells #[.slice N.aU N.nU N.cU,.int .i64 N.lo,.slice N.aP N.nP N.cP] 30)).alloc (.cells ag 30)) (((w.alloc (.cells #[.int .i64 C.p,.int .i64 C.c,.int .i64 C.xo,.int .i64 C.xn,.int .i64 C.hd,.int .i64 C.lo,.int .i64 C.dl] 25)).alloc (.cells #[.slice N.aU N.nU N.cU,.int .i64 N.lo,.slice N.aP N.nP N.cP] 30)).alloc (.cells ag 30))):=Below.refl _ _
 have hsm:=HFa.small.u
 have HFit:Hid (N.nU≤maxLen∧N.nP≤maxLen):=⟨HFa.small.fit.u,HFa.small.fit.p⟩
 have hl1:=HFa.lo.1
 have hl2:=HFa.lo.2
 clear hok h hN
 unfold Cfg.cells Cnt.cells
 go_enter Tryz.func142,Tryz.ntmps142
 go_wp2_with fail
 refine (nn N _ (by have:=HFa.u;omega) (by have:=HFa.p;omega) HFa.small (HR.up (kQ HB0))).mono ?_
 rintro e w1 ⟨M,rfl,hM,hb1,hAM⟩
 have hB:=rF HB0 hb1
 have HL1:=aa (sJ hB)
 have HMb:Hid (w.heap.size+3≤(((w.alloc (.cells #[.int .i64 C.p,.int .i64 C.c,.int .i64 C.xo,.int .i64 C.xn,.int .i64 C.hd,.int .i64 C.lo,.int .i64 C.dl] 25)).alloc (.cells #[.slice N.aU N.nU N.cU,.int .i64 N.lo,.slice N.aP N.nP N.cP] 30)).alloc (.cells ag 30)).heap.size):=by rw [Hid];simp
 obtain ⟨aU,nU',cU,u',lo',aP,nP',cP,p'⟩:=M
 obtain ⟨h1,h2,h3,h4,h5⟩:=hAM
 dsimp only at h1 h2 h3 h4 h5
 subst h1 h2 h3 h4 h5
 obtain ⟨hMu,hMp⟩:=hM
 dsimp only at hMu hMp
 rcases hMu with h0 | ⟨gU,rfl,hgU,hrU⟩
 ·
  have:=HFa.u
  omega
 have hVP:VT 4 w1 (w.heap.size+3) aP N.nP (fun i=>.bool (N.p i)):=hMp.mono HMb.out
 have HgU:=aa (Nat.le_trans HMb hgU)
 clear hb1 hMp hgU
 have hA:=(Below.refl w1.heap.size w1).alloc (Nat.le_refl _) (.cells #[.slice (some (Hh gU 0)) N.nU cU,.int .i64 N.lo,.slice aP N.nP cP] 30)
 have kX:=iy w1 (.cells #[.slice (some (Hh gU 0)) N.nU cU,.int .i64 N.lo,.slice aP N.nP cP] 30)
 have l1:=hrU.lt
 have HgX:Hid (gU≠w1.heap.size):=by show gU≠w1.heap.size;omega
 replace hrU:=hrU.jR (hA.block _ hrU.lt)
 replace hVP:=hVP.up hA
 replace hB:=rF hB hA
 have cb:=iv (mi hB).1
 clear hA l1
 dsimp only [Cnt.cells]
 go_wp2_with fail
 generalize w1.alloc (.cells #[.slice (some (Hh gU 0)) N.nU cU,.int .i64 N.lo,.slice aP N.nP cP] 30)=w2 at *
 refine (pA w1.heap.size _ _ N.lo y _ kX (by omega) (by omega)).mono ?_
 rintro e w3 ⟨rfl,kX3,ht3⟩
 have hM3:jb w3 (w.heap.size+3) ⟨some (Hh gU 0),N.nU,cU,N.u,N.lo+y,aP,N.nP,cP,N.p⟩:=⟨VT.of HgU (hrU.jR (ht3.block _ hrU.lt (by have:=HgX.out;simp;omega))),hVP.iB ht3 (fun x hx hy=>by simp at hy;subst hy;exact VT.nW hVP (by decide) kX hx)⟩
 have kC3:=(ht3.block _ (iw (mi hB).1) (by have:=HgU.out;have:=HL1.out;simp;omega)).trans (mi hB).1
 have kR3:=(ht3.block _ (iw (mi hB).2.2) (by have:=HgU.out;have:=HL1.out;simp;omega)).trans (mi hB).2.2
 have B3:=(kQ hB).trans (ht3.below (kQ hB).size (fun x hx=>by have:=HgU.out;have:=HL1.out;simp at hx;omega))
 clear hB hrU hVP kX ht3 cb
 have cb:=iv kC3
 have cX:=iv kX3
 go_wp2_with fail
 refine (mA C ⟨some (Hh gU 0),N.nU,cU,N.u,N.lo+y,aP,N.nP,cP,N.p⟩ _ ⟨HFit.1,HFit.2⟩ hM3.rd ok (HO.trans ⟨fun k=>⟨k.c,k.nU,k.nP,k.lo,k.u⟩,fun k=>⟨k.c,k.nU,k.nP,k.lo,k.u⟩⟩)).mono ?_
 rintro e w4 ⟨rfl,hb4⟩
 have hM4:=hM3.up hb4
 have kX4:=(hb4.block _ (iw kX3)).trans kX3
 have kR4:=(hb4.block _ (iw kR3)).trans kR3
 have B4:=B3.trans (hb4.mono B3.size)
 clear hM3 kX3 kR3 kC3 B3 hb4 cb cX
 have cR:=iv kR4
 have fR:=iF kR4
 have cX:=iv kX4
 cases ok
 · exact dx
 have kz3:=jI kR4 (.slice (some (Hh gU 0)) N.nU cU) (.int .i64 (N.lo+y)) (.slice aP N.nP cP)
 have HB:Hid (Below w.heap.size w (nr w4 (w.heap.size+1+1) (.slice (some (Hh gU 0)) N.nU cU) (.int .i64 (N.lo+y)) (.slice aP N.nP cP))):=B4.trans ((jg _ _ _ _ _).below B4.size (fun x hx=>by simp at hx;omega))
 have HM:Hid (jb (nr w4 (w.heap.size+1+1) (.slice (some (Hh gU 0)) N.nU cU) (.int .i64 (N.lo+y)) (.slice aP N.nP cP)) w.heap.size ⟨some (Hh gU 0),N.nU,cU,N.u,N.lo+y,aP,N.nP,cP,N.p⟩):=(nw hM4 kR4).mono (by omega)
 have cB:=iv kz3
 clear kz3 kX4 kR4 B4 hM4
 unfold nr at cB
 go_wp2_with fail
 exact bodyPost_ret (v:=.tuple #[.agg #[.slice (some (Hh gU 0)) N.nU cU,.int .i64 (N.lo+y),.slice aP N.nP cP],.bool true]) (by simp [results,Tryz.results142,go_sem,cB]) rfl ⟨⟨some (Hh gU 0),N.nU,cU,N.u,N.lo+y,aP,N.nP,cP,N.p⟩,rfl,HM,HB,⟨rfl,rfl,rfl,rfl,rfl⟩⟩
theorem qD (C:Cfg) (N:Cnt) (i:Nat) (y:Int) (w:World) (hN:Cnt.Ok C N) (h:mq w N) (hi:i<N.nU) (hy1:-5≤y) (hy2:y≤5) (ok:Bool) (hok:ok=true↔Cnt.Ok C (N.ra i y)) :
  Calls Tryz.prog 70 #[.agg C.cells,.agg N.cells,.int .i64 (i:Int),.int .i64 2,.int .i64 y] w fun e w'=>∃ M:Cnt,e=.returned (.tuple #[.agg M.cells,.bool ok])∧jb w' w.heap.size M∧Below w.heap.size w w'∧iQ (nz (N.ra i y) ok) M:=by
 have HO:=aa hok
 have HR:=aa h
 have HFa:=aa hN.facts
 have HB0:Hid (Below (w.heap.size+3) (((w.alloc (.cells #[.int .i64 C.p,.int .i64 C.c,.int .i64 C.xo,.int .i64 C.xn,.int .i64 C.hd,.int .i64 C.lo,.int .i64 C.dl] 25)).alloc (.cells #[.slice N.aU N.nU N.cU,.int .i64 N.lo,.slice N.aP N.nP N.cP] 30)).alloc (.cells ag 30)) (((w.alloc (.cells #[.int .i64 C.p,.int .i64 C.c,.int .i64 C.xo,.int .i64 C.xn,.int .i64 C.hd,.int .i64 C.lo,.int .i64 C.dl] 25)).alloc (.cells #[.slice N.aU N.nU N.cU,.int .i64 N.lo,.slice N.aP N.nP N.cP] 30)).alloc (.cells ag 30))):=Below.refl _ _
 have hsm:=HFa.small.u
 have HFit:Hid (N.nU≤maxLen∧N.nP≤maxLen):=⟨HFa.small.fit.u,HFa.small.fit.p⟩
 have hl1:=HFa.lo.1
 have hl2:=HFa.lo.2
 have hu1:=(HFa.at' i hi).1
 have hu2:=(HFa.at' i hi).2
 have hi2:(i:Int)<N.nU:=by omega
 have hnm:(N.nU:Int)≤1048576:=by omega
 clear hok h hN
 unfold Cfg.cells Cnt.cells
 go_enter Tryz.func70,Tryz.ntmps70
 go_wp2_with fail
 refine (pK N _ (by have:=HFa.u;omega) (by have:=HFa.p;omega) HFa.small (HR.up (kQ HB0))).mono ?_
 rintro e w1 ⟨M,rfl,hM,hb1,hAM⟩
 have hB:=rF HB0 hb1
 have HL1:=aa (sJ hB)
 have HMb:Hid (w.heap.size+3≤(((w.alloc (.cells #[.int .i64 C.p,.int .i64 C.c,.int .i64 C.xo,.int .i64 C.xn,.int .i64 C.hd,.int .i64 C.lo,.int .i64 C.dl] 25)).alloc (.cells #[.slice N.aU N.nU N.cU,.int .i64 N.lo,.slice N.aP N.nP N.cP] 30)).alloc (.cells ag 30)).heap.size):=by rw [Hid];simp
 obtain ⟨aU,nU',cU,u',lo',aP,nP',cP,p'⟩:=M
 obtain ⟨h1,h2,h3,h4,h5⟩:=hAM
 dsimp only at h1 h2 h3 h4 h5
 subst h1 h2 h3 h4 h5
 obtain ⟨hMu,hMp⟩:=hM
 dsimp only at hMu hMp
 rcases hMu with h0 | ⟨gU,rfl,hgU,hrU⟩
 ·
  have:=HFa.u
  omega
 have hVP:VT 4 w1 (w.heap.size+3) aP N.nP (fun i=>.bool (N.p i)):=hMp.mono HMb.out
 have HgU:=aa (Nat.le_trans HMb hgU)
 clear hb1 hMp hgU
 have hA:=(Below.refl w1.heap.size w1).alloc (Nat.le_refl _) (.cells #[.slice (some (Hh gU 0)) N.nU cU,.int .i64 N.lo,.slice aP N.nP cP] 30)
 have kX:=iy w1 (.cells #[.slice (some (Hh gU 0)) N.nU cU,.int .i64 N.lo,.slice aP N.nP cP] 30)
 have l1:=hrU.lt
 have HgX:Hid (gU≠w1.heap.size):=by show gU≠w1.heap.size;omega
 replace hrU:=hrU.jR (hA.block _ hrU.lt)
 replace hVP:=hVP.up hA
 replace hB:=rF hB hA
 have cb:=iv (mi hB).1
 clear hA l1
 dsimp only [Cnt.cells]
 have cX:=iv kX
 have e1:IntKind.i64.wrap (N.u i+y)=N.u i+y:=lR _ (by omega) (by omega)
 go_wp2_with fail
 generalize w1.alloc (.cells #[.slice (some (Hh gU 0)) N.nU cU,.int .i64 N.lo,.slice aP N.nP cP] 30)=w2 at *
 obtain ⟨w3,hw3⟩:∃ w3,w3=(w2.setCell (Hh gU i) (.int .i64 (N.u i+y))).drew:=⟨_,rfl⟩
 have ht3:Touch [gU] w2 w3:=by
  rw [hw3]
  have t:=(Touch.refl [gU] w2).set (g:=gU) (by simp) i (.int .i64 (N.u i+y))
  exact ⟨t.os,t.tape,t.output,t.size,t.block⟩
 have hr3:ja gU 2 N.nU (fun k=>.int .i64 (Go.Proofs.YthicmlolanifhaaGreat.ra N.u i y k)) N.nU w3:=by
  rw [hw3]
  exact ((hrU.wW i (.int .i64 (N.u i+y)) hi).jR (w':=(w2.setCell (Hh gU i) (.int .i64 (N.u i+y))).drew) rfl).A3 (fun j _=>by
   unfold Go.Proofs.YthicmlolanifhaaGreat.ra
   by_cases e:j=i
   ·
    subst e;simp
   ·
    simp [e])
 have kX3:=(ht3.block _ (iw kX) (by have:=HgX.out;simp;omega)).trans kX
 have cX1:=iv kX3
 have c0:w2.drew.cell? (Hh gU i)=some (.int .i64 (N.u i)):=hrU.at i hi
 have f0:w2.drew.frozen? (Hh gU i)=false:=hrU.free i
 rw [hw3] at cX1
 refine wp_region_held_drew (S:=fun w'=>∀ o,w'.cell? (Hh w1.heap.size o)=(#[.slice (some (Hh gU 0)) N.nU cU,.int .i64 N.lo,.slice aP N.nP cP]:Array Value)[o]?) (by kernel_rfl) cX (fun hHeld=>?_)
 refine t0 ?_
 iterate 6 refine tN ?_
 refine tQ 8 25 ?_
 refine rq1 7 (fun K hK=>?_)
 go_simp
 refine ah (hK _ _ cX) ?_
 intro hHeld
 clear hK K
 refine tQ 9 26 ?_
 refine tQ 10 27 ?_
 refine rq1 11 (fun K hK=>?_)
 go_simp
 refine ah (hK _ _ cX1) ?_
 intro hHeld
 clear hK K
 refine dnq ?_
 rw [←hw3]
 clear hw3 c0 f0 cX cX1 hHeld
 have hM3:jb w3 (w.heap.size+3) ⟨some (Hh gU 0),N.nU,cU,Go.Proofs.YthicmlolanifhaaGreat.ra N.u i y,N.lo,aP,N.nP,cP,N.p⟩:=⟨VT.of HgU hr3,hVP.iB ht3 (fun x hx hy=>by simp at hy;subst hy;obtain ⟨arr,hk,_⟩:=hrU;exact VT.nW hVP (by decide) hk hx)⟩
 have kC3:=(ht3.block _ (iw (mi hB).1) (by have:=HgU.out;have:=HL1.out;simp;omega)).trans (mi hB).1
 have kR3:=(ht3.block _ (iw (mi hB).2.2) (by have:=HgU.out;have:=HL1.out;simp;omega)).trans (mi hB).2.2
 have B3:=(kQ hB).trans (ht3.below (kQ hB).size (fun x hx=>by have:=HgU.out;have:=HL1.out;simp at hx;omega))
 clear hB hrU hVP kX hr3 ht3 cb
 have cb:=iv kC3
 have cX:=iv kX3
 go_wp2_with fail
 refine (oc C ⟨some (Hh gU 0),N.nU,cU,Go.Proofs.YthicmlolanifhaaGreat.ra N.u i y,N.lo,aP,N.nP,cP,N.p⟩ _ ⟨HFit.1,HFit.2⟩ hM3.rd ok (HO.trans ⟨fun k=>⟨k.c,k.nU,k.nP,k.lo,k.u⟩,fun k=>⟨k.c,k.nU,k.nP,k.lo,k.u⟩⟩)).mono ?_
 rintro e w4 ⟨rfl,hb4⟩
 have hM4:=hM3.up hb4
 have kX4:=(hb4.block _ (iw kX3)).trans kX3
 have kR4:=(hb4.block _ (iw kR3)).trans kR3
 have B4:=B3.trans (hb4.mono B3.size)
 clear hM3 kX3 kR3 kC3 B3 hb4 cb cX
 have cR:=iv kR4
 have fR:=iF kR4
 have cX:=iv kX4
 cases ok
 · exact dy
 have kz3:=jI kR4 (.slice (some (Hh gU 0)) N.nU cU) (.int .i64 N.lo) (.slice aP N.nP cP)
 have HB:Hid (Below w.heap.size w (nr w4 (w.heap.size+1+1) (.slice (some (Hh gU 0)) N.nU cU) (.int .i64 N.lo) (.slice aP N.nP cP))):=B4.trans ((jg _ _ _ _ _).below B4.size (fun x hx=>by simp at hx;omega))
 have HM:Hid (jb (nr w4 (w.heap.size+1+1) (.slice (some (Hh gU 0)) N.nU cU) (.int .i64 N.lo) (.slice aP N.nP cP)) w.heap.size ⟨some (Hh gU 0),N.nU,cU,Go.Proofs.YthicmlolanifhaaGreat.ra N.u i y,N.lo,aP,N.nP,cP,N.p⟩):=(nw hM4 kR4).mono (by omega)
 have cB:=iv kz3
 clear kz3 kX4 kR4 B4 hM4
 unfold nr at cB
 go_wp2_with fail
 exact bodyPost_ret (v:=.tuple #[.agg #[.slice (some (Hh gU 0)) N.nU cU,.int .i64 N.lo,.slice aP N.nP cP],.bool true]) (by simp [results,Tryz.results70,go_sem,cB]) rfl ⟨⟨some (Hh gU 0),N.nU,cU,Go.Proofs.YthicmlolanifhaaGreat.ra N.u i y,N.lo,aP,N.nP,cP,N.p⟩,rfl,HM,HB,⟨rfl,rfl,rfl,rfl,rfl⟩⟩
theorem qE (C:Cfg) (N:Cnt) (port prio:Int) (hne:prio≠2) (y:Int) (w:World) (hN:Cnt.Ok C N) (h:mq w N) (hy1:-5≤y) (hy2:y≤5) (ok:Bool) (hok:ok=true↔Cnt.Ok C (N.Ea y)) :
  Calls Tryz.prog 70 #[.agg C.cells,.agg N.cells,.int .i64 port,.int .i64 prio,.int .i64 y] w fun e w'=>∃ M:Cnt,e=.returned (.tuple #[.agg M.cells,.bool ok])∧jb w' w.heap.size M∧Below w.heap.size w w'∧iQ (nz (N.Ea y) ok) M:=by
 have HO:=aa hok
 have HR:=aa h
 have HFa:=aa hN.facts
 have HB0:Hid (Below (w.heap.size+3) (((w.alloc (.cells #[.int .i64 C.p,.int .i64 C.c,.int .i64 C.xo,.int .i64 C.xn,.int .i64 C.hd,.int .i64 C.lo,.int .i64 C.dl] 25)).alloc (.cells #[.slice N.aU N.nU N.cU,.int .i64 N.lo,.slice N.aP N.nP N.cP] 30)).alloc (.cells ag 30)) (((w.alloc (.cells #[.int .i64 C.p,.int .i64 C.c,.int .i64 C.xo,.int .i64 C.xn,.int .i64 C.hd,.int .i64 C.lo,.int .i64 C.dl] 25)).alloc (.cells #[.slice N.aU N.nU N.cU,.int .i64 N.lo,.slice N.aP N.nP N.cP] 30)).alloc (.cells ag 30))):=Below.refl _ _
 have hsm:=HFa.small.u
 have HFit:Hid (N.nU≤maxLen∧N.nP≤maxLen):=⟨HFa.small.fit.u,HFa.small.fit.p⟩
 have hl1:=HFa.lo.1
 have hl2:=HFa.lo.2
 have hne':(prio == 2)=false:=by simpa using hne
 clear hok h hN
 unfold Cfg.cells Cnt.cells
 go_enter Tryz.func70,Tryz.ntmps70
 go_wp2_with fail
 refine (pK N _ (by have:=HFa.u;omega) (by have:=HFa.p;omega) HFa.small (HR.up (kQ HB0))).mono ?_
 rintro e w1 ⟨M,rfl,hM,hb1,hAM⟩
 have hB:=rF HB0 hb1
 have HL1:=aa (sJ hB)
 have HMb:Hid (w.heap.size+3≤(((w.alloc (.cells #[.int .i64 C.p,.int .i64 C.c,.int .i64 C.xo,.int .i64 C.xn,.int .i64 C.hd,.int .i64 C.lo,.int .i64 C.dl] 25)).alloc (.cells #[.slice N.aU N.nU N.cU,.int .i64 N.lo,.slice N.aP N.nP N.cP] 30)).alloc (.cells ag 30)).heap.size):=by rw [Hid];simp
 obtain ⟨aU,nU',cU,u',lo',aP,nP',cP,p'⟩:=M
 obtain ⟨h1,h2,h3,h4,h5⟩:=hAM
 dsimp only at h1 h2 h3 h4 h5
 subst h1 h2 h3 h4 h5
 obtain ⟨hMu,hMp⟩:=hM
 dsimp only at hMu hMp
 rcases hMu with h0 | ⟨gU,rfl,hgU,hrU⟩
 ·
  have:=HFa.u
  omega
 have hVP:VT 4 w1 (w.heap.size+3) aP N.nP (fun i=>.bool (N.p i)):=hMp.mono HMb.out
 have HgU:=aa (Nat.le_trans HMb hgU)
 clear hb1 hMp hgU
 have hA:=(Below.refl w1.heap.size w1).alloc (Nat.le_refl _) (.cells #[.slice (some (Hh gU 0)) N.nU cU,.int .i64 (N.lo+y),.slice aP N.nP cP] 30)
 have kX:=iy w1 (.cells #[.slice (some (Hh gU 0)) N.nU cU,.int .i64 (N.lo+y),.slice aP N.nP cP] 30)
 have l1:=hrU.lt
 have HgX:Hid (gU≠w1.heap.size):=by show gU≠w1.heap.size;omega
 replace hrU:=hrU.jR (hA.block _ hrU.lt)
 replace hVP:=hVP.up hA
 replace hB:=rF hB hA
 have cb:=iv (mi hB).1
 clear hA l1
 dsimp only [Cnt.cells]
 have e1:IntKind.i64.wrap (N.lo+y)=N.lo+y:=lR _ (by omega) (by omega)
 have hM3:jb (w1.alloc (.cells #[.slice (some (Hh gU 0)) N.nU cU,.int .i64 (N.lo+y),.slice aP N.nP cP] 30)) (w.heap.size+3) ⟨some (Hh gU 0),N.nU,cU,N.u,N.lo+y,aP,N.nP,cP,N.p⟩:=⟨VT.of HgU hrU,hVP⟩
 have kX3:=kX
 have kC3:=(mi hB).1
 have kR3:=(mi hB).2.2
 have B3:=kQ hB
 clear hB hrU hVP kX cb
 have cb:=iv kC3
 have cX3:=iv kX3
 go_wp2_with fail
 generalize w1.alloc (.cells #[.slice (some (Hh gU 0)) N.nU cU,.int .i64 (N.lo+y),.slice aP N.nP cP] 30)=w3 at *
 clear cX3
 refine (oc C ⟨some (Hh gU 0),N.nU,cU,N.u,N.lo+y,aP,N.nP,cP,N.p⟩ _ ⟨HFit.1,HFit.2⟩ hM3.rd ok (HO.trans ⟨fun k=>⟨k.c,k.nU,k.nP,k.lo,k.u⟩,fun k=>⟨k.c,k.nU,k.nP,k.lo,k.u⟩⟩)).mono ?_
 rintro e w4 ⟨rfl,hb4⟩
 have hM4:=hM3.up hb4
 have kX4:=(hb4.block _ (iw kX3)).trans kX3
 have kR4:=(hb4.block _ (iw kR3)).trans kR3
 have B4:=B3.trans (hb4.mono B3.size)
 clear hM3 kX3 kR3 kC3 B3 hb4 cb
 have cR:=iv kR4
 have fR:=iF kR4
 have cX:=iv kX4
 cases ok
 · exact dy
 have kz3:=jI kR4 (.slice (some (Hh gU 0)) N.nU cU) (.int .i64 (N.lo+y)) (.slice aP N.nP cP)
 have HB:Hid (Below w.heap.size w (nr w4 (w.heap.size+1+1) (.slice (some (Hh gU 0)) N.nU cU) (.int .i64 (N.lo+y)) (.slice aP N.nP cP))):=B4.trans ((jg _ _ _ _ _).below B4.size (fun x hx=>by simp at hx;omega))
 have HM:Hid (jb (nr w4 (w.heap.size+1+1) (.slice (some (Hh gU 0)) N.nU cU) (.int .i64 (N.lo+y)) (.slice aP N.nP cP)) w.heap.size ⟨some (Hh gU 0),N.nU,cU,N.u,N.lo+y,aP,N.nP,cP,N.p⟩):=(nw hM4 kR4).mono (by omega)
 have cB:=iv kz3
 clear kz3 kX4 kR4 B4 hM4
 unfold nr at cB
 go_wp2_with fail
 exact bodyPost_ret (v:=.tuple #[.agg #[.slice (some (Hh gU 0)) N.nU cU,.int .i64 (N.lo+y),.slice aP N.nP cP],.bool true]) (by simp [results,Tryz.results70,go_sem,cB]) rfl ⟨⟨some (Hh gU 0),N.nU,cU,N.u,N.lo+y,aP,N.nP,cP,N.p⟩,rfl,HM,HB,⟨rfl,rfl,rfl,rfl,rfl⟩⟩
def lu (N:Cnt) (port prio y:Int):Cnt:=if prio=2 then N.ra port.toNat y else N.Ea y
theorem mK {N:Cnt} :lu N (i:Int) 2 y=N.ra i y:=by unfold lu;rw [if_pos rfl,Int.toNat_natCast]
theorem mb {N:Cnt} {port prio:Int} (h:prio≠2):lu N port prio y=N.Ea y:=by unfold lu;rw [if_neg h]
theorem vY (C:Cfg) (N:Cnt) (port prio cells:Int) (w:World) (hf:N.Fit) (h:mq w N) (ok:Bool) (hok:ok=true↔wm C N port prio cells∧Cnt.Ok C (lu N port prio (-cells))) :
  Calls Tryz.prog 128 #[.agg C.cells,.agg N.cells,.int .i64 port,.int .i64 prio,.int .i64 cells] w fun e w'=>∃ M:Cnt,e=.returned (.tuple #[.agg M.cells,.bool ok])∧jb w' w.heap.size M∧Below w.heap.size w w'∧iQ (nz (lu N port prio (-cells)) ok) M:=by
 obtain ⟨b,hb⟩:=qn (wm C N port prio cells)
 have HO:Hid (ok=true↔wm C N port prio cells∧Cnt.Ok C (lu N port prio (-cells))):=hok
 have HR:Hid (mq w N):=h
 have HF:Hid N.Fit:=hf
 have HCb:Hid (b=true↔wm C N port prio cells):=hb
 have HB0:Hid (Below (w.heap.size+3) (((w.alloc (.cells #[.int .i64 C.p,.int .i64 C.c,.int .i64 C.xo,.int .i64 C.xn,.int .i64 C.hd,.int .i64 C.lo,.int .i64 C.dl] 25)).alloc (.cells #[.slice N.aU N.nU N.cU,.int .i64 N.lo,.slice N.aP N.nP N.cP] 30)).alloc (.cells ag 30)) (((w.alloc (.cells #[.int .i64 C.p,.int .i64 C.c,.int .i64 C.xo,.int .i64 C.xn,.int .i64 C.hd,.int .i64 C.lo,.int .i64 C.dl] 25)).alloc (.cells #[.slice N.aU N.nU N.cU,.int .i64 N.lo,.slice N.aP N.nP N.cP] 30)).alloc (.cells ag 30))):=Below.refl _ _
 clear hok h hf hb
 unfold Cfg.cells
 rw [show N.cells=#[.slice N.aU N.nU N.cU,.int .i64 N.lo,.slice N.aP N.nP N.cP] from rfl]
 go_enter Tryz.func128,Tryz.ntmps128
 go_wp2_with fail
 refine (Cq C N port prio cells _ HF (HR.up (kQ HB0)) b HCb).mono ?_
 rintro e w1 ⟨rfl,hb1⟩
 have hB:=rF HB0 hb1
 clear hb1
 cases b
 ·
  have HE:Hid (ok=false):=by
   show ok=false
   rw [Bool.eq_false_iff]
   intro e
   have:=HCb.2 (HO.1 e).1
   cases this
  obtain ⟨kC2,kN2,kR2⟩:=mi hB
  have ht:=jg w1 (w.heap.size+1+1) (.slice none 0 0) (.int .i64 0) (.slice none 0 0)
  have HB:Hid (Below w.heap.size w (nr w1 (w.heap.size+1+1) (.slice none 0 0) (.int .i64 0) (.slice none 0 0))):=(kQ hB).trans (ht.below (kQ hB).size (fun x hx=>by simp at hx;omega))
  have cB:=iv (jI kR2 (.slice none 0 0) (.int .i64 0) (.slice none 0 0))
  have cR:=iv kR2
  have fR:=iF kR2
  clear ht kC2 kN2 kR2 hB
  unfold nr at cB
  go_wp2_with fail
  have e:=HE.out
  subst e
  exact bodyPost_ret (v:=.tuple #[.agg ag,.bool false]) (by simp [results,Tryz.results128,go_sem,cB]) rfl ⟨tO,rfl,pc _ _,HB,iQ.refl _⟩
 have HFo:Hid (wm C N port prio cells):=HCb.1 rfl
 clear HCb
 have hc1:=HFo.cells.1
 have hc2:=HFo.cells.2
 have e9:IntKind.i64.wrap (-cells)=-cells:=lR _ (by omega) (by omega)
 obtain ⟨i,hip⟩:∃ i:Nat,port=(i:Int):=⟨port.toNat,by have:=HFo.port;omega⟩
 by_cases hne:prio=2
 ·
  subst hne
  subst hip
  have HE:Hid (ok=true↔Cnt.Ok C (N.ra i (-cells))):=by
   rw [Hid,HO.out,mK]
   exact ⟨fun k=>k.2,fun k=>⟨HFo,k⟩⟩
  have cb:=iv (mi hB).1
  have cn:=iv (mi hB).2.1
  go_wp2_with fail
  refine wp_region_held_drew (S:=fun w'=>(∀ o,w'.cell? (Hh w.heap.size o)=(#[.int .i64 C.p,.int .i64 C.c,.int .i64 C.xo,.int .i64 C.xn,.int .i64 C.hd,.int .i64 C.lo,.int .i64 C.dl]:Array Value)[o]?)∧(∀ o,w'.cell? (Hh (w.heap.size+1) o)=(#[.slice N.aU N.nU N.cU,.int .i64 N.lo,.slice N.aP N.nP N.cP]:Array Value)[o]?)) (by kernel_rfl) ⟨cb,cn⟩ (fun hHeld=>?_)
  refine t0 ?_
  iterate 3 refine tN ?_
  refine tQ 5 25 ?_
  refine tQ 6 26 ?_
  refine rq1 4 (fun K hK=>?_)
  go_simp
  refine (qM _ _).mono ?_
  rintro e w' ⟨rfl,hw⟩
  rw [hw]
  clear hw w'
  go_wp2_with fail
  refine ah (hK _ _ ⟨cb,cn⟩) ?_
  intro hHeld
  clear hK K
  refine rq1 7 (fun K hK=>?_)
  go_simp
  replace hB:=hB.drew
  refine (wg C N i (-cells) _ HFo.ok (HR.up (kQ hB)) (by have:=HFo.port;have:=HFo.ok.nU;omega) (by omega) (by omega) ok HE).mono ?_
  rintro e w2 ⟨M,rfl,hM,hb2,hAM⟩
  have HAM:Hid (iQ (nz (N.ra i (-cells)) ok) M):=hAM
  have HLb:Hid (w.heap.size+3≤w1.drew.heap.size):=sJ hB
  replace hB:=rF hB hb2
  obtain ⟨kC2,kN2,kR2⟩:=mi hB
  replace hM:=hM.mono (base':=w.heap.size) (by have:=HLb.out;omega)
  have ht:=jg w2 (w.heap.size+1+1) (.slice M.aU M.nU M.cU) (.int .i64 M.lo) (.slice M.aP M.nP M.cP)
  have HM:Hid (jb (nr w2 (w.heap.size+1+1) (.slice M.aU M.nU M.cU) (.int .i64 M.lo) (.slice M.aP M.nP M.cP)) w.heap.size M):=nw hM kR2
  have HB:Hid (Below w.heap.size w (nr w2 (w.heap.size+1+1) (.slice M.aU M.nU M.cU) (.int .i64 M.lo) (.slice M.aP M.nP M.cP))):=(kQ hB).trans (ht.below (kQ hB).size (fun x hx=>by simp at hx;omega))
  have cB:=iv (jI kR2 (.slice M.aU M.nU M.cU) (.int .i64 M.lo) (.slice M.aP M.nP M.cP))
  have cC:=iv ((ht.block _ (iw kC2) (fun hx=>by have:=List.mem_singleton.1 hx;omega)).trans kC2)
  have cN:=iv ((ht.block _ (iw kN2) (fun hx=>by have:=List.mem_singleton.1 hx;omega)).trans kN2)
  have cR:=iv kR2
  have fR:=iF kR2
  have s1:=iv kC2
  have s2:=iv kN2
  clear hM hb2 hAM ht kC2 kN2 kR2 hB
  unfold nr at cB cC cN
  dsimp only [Cnt.cells]
  clear cb cn
  go_wp2_with fail
  refine ah (hK _ _ ⟨s1,s2⟩) ?_
  intro hHeld
  clear hK K
  refine tQ 8 28 ?_
  refine tQ 9 29 ?_
  refine rq1 10 (fun K hK=>?_)
  go_simp
  refine ah (hK _ _ ⟨cC,cN⟩) ?_
  intro hHeld
  clear hK K
  refine rq1 11 (fun K hK=>?_)
  go_simp
  refine ah (hK _ _ ⟨cC,cN⟩) ?_
  intro hHeld
  clear hK K
  refine dnq ?_
  clear cC cN cR fR s1 s2 hHeld
  go_wp2_with fail
  exact bodyPost_ret (v:=.tuple #[.agg M.cells,.bool ok]) (by simp [results,Tryz.results128,go_sem,cB,Cnt.cells]) rfl ⟨M,rfl,HM,HB,by rw [mK];exact HAM⟩
 clear hip
 have HE:Hid (ok=true↔Cnt.Ok C (N.Ea (-cells))):=by
  rw [Hid,HO.out,mb hne]
  exact ⟨fun k=>k.2,fun k=>⟨HFo,k⟩⟩
 have cb:=iv (mi hB).1
 have cn:=iv (mi hB).2.1
 have Hne:Hid (prio≠2):=hne
 clear hne
 go_wp2_with fail
 refine wp_region_held_drew (S:=fun w'=>(∀ o,w'.cell? (Hh w.heap.size o)=(#[.int .i64 C.p,.int .i64 C.c,.int .i64 C.xo,.int .i64 C.xn,.int .i64 C.hd,.int .i64 C.lo,.int .i64 C.dl]:Array Value)[o]?)∧(∀ o,w'.cell? (Hh (w.heap.size+1) o)=(#[.slice N.aU N.nU N.cU,.int .i64 N.lo,.slice N.aP N.nP N.cP]:Array Value)[o]?)) (by kernel_rfl) ⟨cb,cn⟩ (fun hHeld=>?_)
 refine t0 ?_
 iterate 3 refine tN ?_
 refine tQ 5 25 ?_
 refine tQ 6 26 ?_
 refine rq1 4 (fun K hK=>?_)
 go_simp
 refine (pW _ _ _ Hne).mono ?_
 rintro e w' ⟨rfl,hw⟩
 rw [hw]
 clear hw w'
 go_wp2_with fail
 refine ah (hK _ _ ⟨cb,cn⟩) ?_
 intro hHeld
 clear hK K
 refine rq1 7 (fun K hK=>?_)
 go_simp
 replace hB:=hB.drew
 refine (wh C N (-cells) _ HFo.ok (HR.up (kQ hB)) (by omega) (by omega) ok HE).mono ?_
 rintro e w2 ⟨M,rfl,hM,hb2,hAM⟩
 have HAM:Hid (iQ (nz (N.Ea (-cells)) ok) M):=hAM
 have HLb:Hid (w.heap.size+3≤w1.drew.heap.size):=sJ hB
 replace hB:=rF hB hb2
 obtain ⟨kC2,kN2,kR2⟩:=mi hB
 replace hM:=hM.mono (base':=w.heap.size) (by have:=HLb.out;omega)
 have ht:=jg w2 (w.heap.size+1+1) (.slice M.aU M.nU M.cU) (.int .i64 M.lo) (.slice M.aP M.nP M.cP)
 have HM:Hid (jb (nr w2 (w.heap.size+1+1) (.slice M.aU M.nU M.cU) (.int .i64 M.lo) (.slice M.aP M.nP M.cP)) w.heap.size M):=nw hM kR2
 have HB:Hid (Below w.heap.size w (nr w2 (w.heap.size+1+1) (.slice M.aU M.nU M.cU) (.int .i64 M.lo) (.slice M.aP M.nP M.cP))):=(kQ hB).trans (ht.below (kQ hB).size (fun x hx=>by simp at hx;omega))
 have cB:=iv (jI kR2 (.slice M.aU M.nU M.cU) (.int .i64 M.lo) (.slice M.aP M.nP M.cP))
 have cC:=iv ((ht.block _ (iw kC2) (fun hx=>by have:=List.mem_singleton.1 hx;omega)).trans kC2)
 have cN:=iv ((ht.block _ (iw kN2) (fun hx=>by have:=List.mem_singleton.1 hx;omega)).trans kN2)
 have cR:=iv kR2
 have fR:=iF kR2
 have s1:=iv kC2
 have s2:=iv kN2
 clear hM hb2 hAM ht kC2 kN2 kR2 hB
 unfold nr at cB cC cN
 dsimp only [Cnt.cells]
 clear cb cn
 go_wp2_with fail
 refine ah (hK _ _ ⟨s1,s2⟩) ?_
 intro hHeld
 clear hK K
 refine tQ 8 28 ?_
 refine tQ 9 29 ?_
 refine rq1 10 (fun K hK=>?_)
 go_simp
 refine ah (hK _ _ ⟨cC,cN⟩) ?_
 intro hHeld
 clear hK K
 refine rq1 11 (fun K hK=>?_)
 go_simp
 refine ah (hK _ _ ⟨cC,cN⟩) ?_
 intro hHeld
 clear hK K
 refine dnq ?_
 clear cC cN cR fR s1 s2 hHeld
 go_wp2_with fail
 exact bodyPost_ret (v:=.tuple #[.agg M.cells,.bool ok]) (by simp [results,Tryz.results128,go_sem,cB,Cnt.cells]) rfl ⟨M,rfl,HM,HB,by rw [mb Hne.out];exact HAM⟩
def yB (N:Cnt):List Nat:=ju N.aU N.nU++ju N.aP N.nP
theorem jb.tbl {N:Cnt} (h:jb w base N):∀ x∈yB N,base≤x∧x<w.heap.size:=by
 intro x hx
 rcases List.mem_append.1 hx with hx | hx
 ·
  exact h.u.blk x hx
 exact h.p.blk x hx
theorem jb.nW {N:Cnt} (h:jb w base N) {g:Nat} {cs:Array Value} {t:TypeId} (h2:2≠t) (h4:4≠t) (hk:w.heap[g]?=some (.cells cs t (0,0))):g∉yB N:=by
 intro hx
 rcases List.mem_append.1 hx with hx | hx
 ·
  exact VT.nW h.u h2 hk hx
 exact VT.nW h.p h4 hk hx
def jc (C:Cfg) (u:Int) (p:Bool):Bool:=if p then decide (C.xn<u) else decide (C.xo≤u)
theorem vG (C:Cfg) (u:Int) (p:Bool) (w:World) :
  Calls Tryz.prog 92 #[.agg C.cells,.int .i64 u,.bool p] w fun e w'=>e=.returned (.bool (jc C u p))∧Below w.heap.size w w':=by
 have HA:Hid (∀ o,Below w.heap.size w (w.alloc o)):=fun o=>(Below.refl _ _).alloc (Nat.le_refl _) _
 unfold Cfg.cells
 cases p
 · exact dA
 exact dA
def flN (C:Cfg) (N:Cnt) (i:Nat):Bool:=!(jc C (N.u i) (N.p i) == N.p i)
def mn (C:Cfg) (N:Cnt) (i:Nat):Cnt:={ N with p:=fun j=>if j=i then jc C (N.u j) (N.p j) else N.p j }
theorem Ap (C:Cfg) (N:Cnt) (i:Nat) (w:World) (hU:i<N.nU) (hP:i<N.nP) (hs:N.Small) (h:mq w N) :
  Calls Tryz.prog 67 #[.agg C.cells,.agg N.cells,.int .i64 (i:Int)] w fun e w'=>∃ M:Cnt,e=.returned (.tuple #[.agg M.cells,.bool (flN C N i)])∧jb w' w.heap.size M∧Below w.heap.size w w'∧iQ (mn C N i) M:=by
 obtain ⟨aU,nU,cU,u,lo,aP,nP,cP,p⟩:=N
 have hU':i<nU:=hU
 have hP':i<nP:=hP
 obtain ⟨gu,qu,ea,hcU⟩:=rd_some h.u (by show 0<nU;omega)
 obtain ⟨gp,qp,eb,hcP⟩:=rd_some h.p (by show 0<nP;omega)
 dsimp only at ea eb hcU hcP
 subst ea eb
 have hs1:nU≤1048576:=hs.u
 have hs2:nP≤1048576:=hs.p
 have hi1:(i:Int)<nU:=by omega
 have hi2:(i:Int)<nP:=by omega
 have hi3:(nU:Int)≤1048576:=by omega
 have hi4:(nP:Int)≤1048576:=by omega
 have cu0:=hcU i hU'
 have cp0:=hcP i hP'
 have HR:Hid (mq w (⟨some (Hh gu qu),nU,cU,u,lo,some (Hh gp qp),nP,cP,p⟩:Cnt)):=h
 have HS:Hid (Cnt.Small (⟨some (Hh gu qu),nU,cU,u,lo,some (Hh gp qp),nP,cP,p⟩:Cnt)):=hs
 have HB0:Hid (Below (w.heap.size+3) (((w.alloc (.cells #[.int .i64 C.p,.int .i64 C.c,.int .i64 C.xo,.int .i64 C.xn,.int .i64 C.hd,.int .i64 C.lo,.int .i64 C.dl] 25)).alloc (.cells #[.slice (some (Hh gu qu)) nU cU,.int .i64 lo,.slice (some (Hh gp qp)) nP cP] 30)).alloc (.cells ag 30)) (((w.alloc (.cells #[.int .i64 C.p,.int .i64 C.c,.int .i64 C.xo,.int .i64 C.xn,.int .i64 C.hd,.int .i64 C.lo,.int .i64 C.dl] 25)).alloc (.cells #[.slice (some (Hh gu qu)) nU cU,.int .i64 lo,.slice (some (Hh gp qp)) nP cP] 30)).alloc (.cells ag 30))):=Below.refl _ _
 clear hU hP hcU hcP h hs
 unfold flN
 dsimp only
 unfold Cfg.cells
 rw [show Cnt.cells (⟨some (Hh gu qu),nU,cU,u,lo,some (Hh gp qp),nP,cP,p⟩:Cnt)=#[.slice (some (Hh gu qu)) nU cU,.int .i64 lo,.slice (some (Hh gp qp)) nP cP] from rfl]
 go_enter Tryz.func67,Tryz.ntmps67
 go_wp2_with fail
 refine (pK (⟨some (Hh gu qu),nU,cU,u,lo,some (Hh gp qp),nP,cP,p⟩:Cnt) _ (by show 0<nU;omega) (by show 0<nP;omega) HS (HR.up (kQ HB0))).mono ?_
 rintro e w1 ⟨M,rfl,hM,hb1,hAM⟩
 have hB:=rF HB0 hb1
 have HMb:Hid (w.heap.size+3≤(((w.alloc (.cells #[.int .i64 C.p,.int .i64 C.c,.int .i64 C.xo,.int .i64 C.xn,.int .i64 C.hd,.int .i64 C.lo,.int .i64 C.dl] 25)).alloc (.cells #[.slice (some (Hh gu qu)) nU cU,.int .i64 lo,.slice (some (Hh gp qp)) nP cP] 30)).alloc (.cells ag 30)).heap.size):=by rw [Hid];simp
 obtain ⟨aU,nU',mU,u',lo',aP,nP',mP,p'⟩:=M
 obtain ⟨h1,h2,h3,h4,h5⟩:=hAM
 dsimp only at h1 h2 h3 h4 h5
 subst nU'
 subst u'
 subst lo'
 subst nP'
 subst p'
 obtain ⟨hMu,hMp⟩:=hM
 dsimp only at hMu hMp
 rcases hMu with h0 | ⟨gU,rfl,hgU,hrU⟩
 ·
  omega
 rcases hMp with h0 | ⟨gP,rfl,hgP,hrP⟩
 ·
  omega
 have HgU:Hid (w.heap.size+3≤gU):=Nat.le_trans HMb hgU
 have HgP:Hid (w.heap.size+3≤gP):=Nat.le_trans HMb hgP
 have lU:=hrU.lt
 have lP:=hrP.lt
 have HUP:Hid (gU≠gP):=by
  rintro rfl
  obtain ⟨a1,b1,_⟩:=hrU
  obtain ⟨a2,b2,_⟩:=hrP
  rw [b1] at b2
  simp at b2
 have HPX:Hid (gP<w1.heap.size):=lP
 clear hb1 hgU hgP
 have hA:=(Below.refl w1.heap.size w1).alloc (Nat.le_refl _) (.cells #[.slice (some (Hh gU 0)) nU mU,.int .i64 lo,.slice (some (Hh gP 0)) nP mP] 30)
 have kX:=iy w1 (.cells #[.slice (some (Hh gU 0)) nU mU,.int .i64 lo,.slice (some (Hh gP 0)) nP mP] 30)
 replace hrU:=hrU.jR (hA.block _ hrU.lt)
 replace hrP:=hrP.jR (hA.block _ hrP.lt)
 replace hB:=rF hB hA
 clear hA lU lP
 dsimp only [Cnt.cells]
 go_wp2_with fail
 generalize w1.alloc (.cells #[.slice (some (Hh gU 0)) nU mU,.int .i64 lo,.slice (some (Hh gP 0)) nP mP] 30)=w2 at *
 obtain ⟨kC,kN,kR⟩:=mi hB
 have B2:=kQ hB
 have cb:=iv kC
 have cn:=iv kN
 have cX:=iv kX
 have cu:=(B2.cell (p:=(Hh gu (qu+i))) (la cu0)).trans cu0
 have cp:=(B2.cell (p:=(Hh gp (qp+i))) (la cp0)).trans cp0
 have HNP:Hid (gp≠gP):=by show gp≠gP;have:=la cp0;have:=HgP.out;simp at *;omega
 have HB2:Hid (Below w.heap.size w w2):=B2
 clear hB cu0 cp0 B2
 by_cases hpi:p i=true
 ·
  rw [hpi] at cp
  by_cases hc:u i≤C.xn
  ·
   have hc':decide (u i≤C.xn)=true:=decide_eq_true hc
   have HV:Hid (jc C (u i) true=false):=by rw [Hid];simp [jc];omega
   refine wp_region_held_drew (S:=fun w'=>(∀ o,w'.cell? (Hh w.heap.size o)=(#[.int .i64 C.p,.int .i64 C.c,.int .i64 C.xo,.int .i64 C.xn,.int .i64 C.hd,.int .i64 C.lo,.int .i64 C.dl]:Array Value)[o]?)∧(∀ o,w'.cell? (Hh (w.heap.size+1) o)=(#[.slice (some (Hh gu qu)) nU cU,.int .i64 lo,.slice (some (Hh gp qp)) nP cP]:Array Value)[o]?)∧w'.cell? (Hh gu (qu+i))=some (.int .i64 (u i))∧w'.cell? (Hh gp (qp+i))=some (.bool true)) (by kernel_rfl) ⟨cb,cn,cu,cp⟩ (fun hHeld=>?_)
   refine t0 ?_
   iterate 6 refine tN ?_
   iterate 8 refine sN ?_
   iterate 18 refine tN ?_
   refine dnq ?_
   clear hHeld
   have cn2:∀ o,w2.drew.cell? (Hh (w.heap.size+1) o)=(#[.slice (some (Hh gu qu)) nU cU,.int .i64 lo,.slice (some (Hh gp qp)) nP cP]:Array Value)[o]?:=cn
   have cX2:∀ o,w2.drew.cell? (Hh w1.heap.size o)=(#[.slice (some (Hh gU 0)) nU mU,.int .i64 lo,.slice (some (Hh gP 0)) nP mP]:Array Value)[o]?:=cX
   have cp2:w2.drew.cell? (Hh gp (qp+i))=some (.bool true):=cp
   have rPd:ja gP 4 nP (fun i=>.bool (p i)) nP w2.drew:=hrP.jR rfl
   have rUd:ja gU 2 nU (fun i=>.int .i64 (u i)) nU w2.drew:=hrU.jR rfl
   have kRd:w2.drew.heap[w.heap.size+1+1]?=some (.cells ag 30 (0,0)):=kR
   have kNd:w2.drew.heap[w.heap.size+1]?=some (.cells #[.slice (some (Hh gu qu)) nU cU,.int .i64 lo,.slice (some (Hh gp qp)) nP cP] 30 (0,0)):=kN
   have kXd:w2.drew.heap[w1.heap.size]?=some (.cells #[.slice (some (Hh gU 0)) nU mU,.int .i64 lo,.slice (some (Hh gP 0)) nP mP] 30 (0,0)):=kX
   have HBd:Hid (Below w.heap.size w w2.drew):=HB2.drew
   clear kC kN kR kX hrU hrP cb cn cu cp cX HB2
   generalize w2.drew=wd at *
   go_wp2_with fail
   have hd:Touch [] wd wd.drew:=⟨rfl,rfl,rfl,Nat.le_refl _,fun _ _ _=>rfl⟩
   have cn2:∀ o,wd.drew.cell? (Hh (w.heap.size+1) o)=(#[.slice (some (Hh gu qu)) nU cU,.int .i64 lo,.slice (some (Hh gp qp)) nP cP]:Array Value)[o]?:=cn2
   have cX2:∀ o,wd.drew.cell? (Hh w1.heap.size o)=(#[.slice (some (Hh gU 0)) nU mU,.int .i64 lo,.slice (some (Hh gP 0)) nP mP]:Array Value)[o]?:=cX2
   have cp2:wd.drew.cell? (Hh gp (qp+i))=some (.bool true):=cp2
   obtain ⟨v0,hv0⟩:=rPd.there i hP'
   have f0:=rPd.free i
   have hp9:=HgP.out
   have hx9:=HPX.out
   have hn9:=HNP.out
   have cn3:∀ o,(wd.setCell (Hh gP i) (.bool false)).drew.cell? (Hh (w.heap.size+1) o)=(#[.slice (some (Hh gu qu)) nU cU,.int .i64 lo,.slice (some (Hh gp qp)) nP cP]:Array Value)[o]?:=iv ((iJ (w:=wd) (i:=i) (show w.heap.size+1≠gP by omega) (.bool false)).trans kNd)
   have cX3:∀ o,(wd.setCell (Hh gP i) (.bool false)).drew.cell? (Hh w1.heap.size o)=(#[.slice (some (Hh gU 0)) nU mU,.int .i64 lo,.slice (some (Hh gP 0)) nP mP]:Array Value)[o]?:=iv ((iJ (w:=wd) (i:=i) (show w1.heap.size≠gP by omega) (.bool false)).trans kXd)
   have cp3:(wd.setCell (Hh gP i) (.bool false)).drew.cell? (Hh gp (qp+i))=some (.bool true):=(World.cell?_of_block (w:=wd) (a:=(Hh gp (qp+i))) (iJ (w:=wd) (i:=i) hn9 (.bool false))).trans cp2
   refine wp_region_held_drew (S:=fun w'=>(∀ o,w'.cell? (Hh (w.heap.size+1) o)=(#[.slice (some (Hh gu qu)) nU cU,.int .i64 lo,.slice (some (Hh gp qp)) nP cP]:Array Value)[o]?)∧(∀ o,w'.cell? (Hh w1.heap.size o)=(#[.slice (some (Hh gU 0)) nU mU,.int .i64 lo,.slice (some (Hh gP 0)) nP mP]:Array Value)[o]?)∧w'.cell? (Hh gp (qp+i))=some (.bool true)) (by kernel_rfl) ⟨cn2,cX2,cp2⟩ (fun hHeld=>?_)
   refine t0 ?_
   iterate 9 refine tN ?_
   refine rq1 10 (fun K hK=>?_)
   go_simp
   refine ah (hK _ _ ⟨cn3,cX3,cp3⟩) ?_
   intro hHeld
   clear hK K
   refine dnq ?_
   clear hHeld cn2 cX2 cp2 cn3 cp3 hv0 f0
   have kRs:(wd.setCell (Hh gP i) (.bool false)).drew.heap[w.heap.size+1+1]?=some (.cells ag 30 (0,0)):=(iJ (w:=wd) (i:=i) (show w.heap.size+1+1≠gP by omega) (.bool false)).trans kRd
   have rPs:ja gP 4 nP (fun j=>.bool (if j=i then jc C (u j) (p j) else p j)) nP (wd.setCell (Hh gP i) (.bool false)).drew:=((rPd.wW i (.bool false) hP').A3 (fun j _=>by
    by_cases e:j=i
    ·
     subst e
     rw [if_pos rfl,if_pos rfl,hpi,HV.out]
    ·
     rw [if_neg e,if_neg e])).jR rfl
   have rUs:ja gU 2 nU (fun i=>.int .i64 (u i)) nU (wd.setCell (Hh gP i) (.bool false)).drew:=rUd.jR (iJ (w:=wd) (i:=i) (fun e=>HUP e) (.bool false))
   have HBs:Hid (Below w.heap.size w (wd.setCell (Hh gP i) (.bool false)).drew):=(HBd.setCell (by show w.heap.size≤gP;omega) _).drew
   clear kRd kNd kXd rPd rUd hd hp9 hx9 hn9
   generalize (wd.setCell (Hh gP i) (.bool false)).drew=we at *
   have ht:=jg we (w.heap.size+1+1) (.slice (some (Hh gU 0)) nU mU) (.int .i64 lo) (.slice (some (Hh gP 0)) nP mP)
   have hO:jb we w.heap.size ⟨some (Hh gU 0),nU,mU,u,lo,some (Hh gP 0),nP,mP,fun j=>if j=i then jc C (u j) (p j) else p j⟩:=⟨VT.of (by have:=HgU.out;omega) rUs,VT.of (by have:=HgP.out;omega) rPs⟩
   have HO:Hid (jb (nr we (w.heap.size+1+1) (.slice (some (Hh gU 0)) nU mU) (.int .i64 lo) (.slice (some (Hh gP 0)) nP mP)) w.heap.size ⟨some (Hh gU 0),nU,mU,u,lo,some (Hh gP 0),nP,mP,fun j=>if j=i then jc C (u j) (p j) else p j⟩):=nw hO kRs
   have HB:Hid (Below w.heap.size w (nr we (w.heap.size+1+1) (.slice (some (Hh gU 0)) nU mU) (.int .i64 lo) (.slice (some (Hh gP 0)) nP mP))):=HBs.trans (ht.below HBs.size (fun x hx=>by have:=List.mem_singleton.1 hx;omega))
   have cB:=iv (jI kRs (.slice (some (Hh gU 0)) nU mU) (.int .i64 lo) (.slice (some (Hh gP 0)) nP mP))
   have cR:=iv kRs
   have fR:=iF kRs
   clear ht hO kRs rPs rUs
   unfold nr at cB
   go_wp2_with fail
   exact bodyPost_ret (v:=.tuple #[.agg #[.slice (some (Hh gU 0)) nU mU,.int .i64 lo,.slice (some (Hh gP 0)) nP mP],.bool true]) (by simp [results,Tryz.results67,go_sem,cB]) rfl ⟨⟨some (Hh gU 0),nU,mU,u,lo,some (Hh gP 0),nP,mP,fun j=>if j=i then jc C (u j) (p j) else p j⟩,by first | (rw [hpi,HV.out];rfl) | (rw [HV.out];rfl) | rfl | simp [Cnt.cells],HO,HB,⟨rfl,rfl,rfl,rfl,rfl⟩⟩
  have hc':decide (u i≤C.xn)=false:=decide_eq_false hc
  have HV:Hid (jc C (u i) true=true):=by rw [Hid];simp [jc];omega
  refine wp_region_held_drew (S:=fun w'=>(∀ o,w'.cell? (Hh w.heap.size o)=(#[.int .i64 C.p,.int .i64 C.c,.int .i64 C.xo,.int .i64 C.xn,.int .i64 C.hd,.int .i64 C.lo,.int .i64 C.dl]:Array Value)[o]?)∧(∀ o,w'.cell? (Hh (w.heap.size+1) o)=(#[.slice (some (Hh gu qu)) nU cU,.int .i64 lo,.slice (some (Hh gp qp)) nP cP]:Array Value)[o]?)∧w'.cell? (Hh gu (qu+i))=some (.int .i64 (u i))∧w'.cell? (Hh gp (qp+i))=some (.bool true)) (by kernel_rfl) ⟨cb,cn,cu,cp⟩ (fun hHeld=>?_)
  refine t0 ?_
  iterate 6 refine tN ?_
  iterate 8 refine sN ?_
  iterate 18 refine tN ?_
  refine dnq ?_
  clear hHeld
  have ht:=jg w2.drew (w.heap.size+1+1) (.slice (some (Hh gU 0)) nU mU) (.int .i64 lo) (.slice (some (Hh gP 0)) nP mP)
  have kRd:w2.drew.heap[w.heap.size+1+1]?=some (.cells ag 30 (0,0)):=kR
  have hO:jb w2.drew w.heap.size ⟨some (Hh gU 0),nU,mU,u,lo,some (Hh gP 0),nP,mP,fun j=>if j=i then jc C (u j) (p j) else p j⟩:=⟨VT.of (by have:=HgU.out;omega) (hrU.jR (w':=w2.drew) rfl),VT.of (by have:=HgP.out;omega) ((hrP.jR (w':=w2.drew) rfl).A3 (fun j _=>by
   show Value.bool (p j)=Value.bool (if j=i then jc C (u j) (p j) else p j)
   by_cases e:j=i
   ·
    subst e
    rw [if_pos rfl,hpi,HV.out]
   ·
    rw [if_neg e]))⟩
  have HO:Hid (jb (nr w2.drew (w.heap.size+1+1) (.slice (some (Hh gU 0)) nU mU) (.int .i64 lo) (.slice (some (Hh gP 0)) nP mP)) w.heap.size ⟨some (Hh gU 0),nU,mU,u,lo,some (Hh gP 0),nP,mP,fun j=>if j=i then jc C (u j) (p j) else p j⟩):=nw hO kRd
  have HB:Hid (Below w.heap.size w (nr w2.drew (w.heap.size+1+1) (.slice (some (Hh gU 0)) nU mU) (.int .i64 lo) (.slice (some (Hh gP 0)) nP mP))):=HB2.drew.trans (ht.below HB2.drew.size (fun x hx=>by have:=List.mem_singleton.1 hx;omega))
  have cB:=iv (jI kRd (.slice (some (Hh gU 0)) nU mU) (.int .i64 lo) (.slice (some (Hh gP 0)) nP mP))
  have cR:=iv kRd
  have fR:=iF kRd
  have cXd:∀ o,w2.drew.cell? (Hh w1.heap.size o)=(#[.slice (some (Hh gU 0)) nU mU,.int .i64 lo,.slice (some (Hh gP 0)) nP mP]:Array Value)[o]?:=cX
  clear ht hO kRd kR kC kN kX hrU hrP cb cn cu cp cX
  unfold nr at cB
  generalize w2.drew=wd at *
  go_wp2_with fail
  exact bodyPost_ret (v:=.tuple #[.agg #[.slice (some (Hh gU 0)) nU mU,.int .i64 lo,.slice (some (Hh gP 0)) nP mP],.bool false]) (by simp [results,Tryz.results67,go_sem,cB]) rfl ⟨⟨some (Hh gU 0),nU,mU,u,lo,some (Hh gP 0),nP,mP,fun j=>if j=i then jc C (u j) (p j) else p j⟩,by first | (rw [hpi,HV.out];rfl) | (rw [HV.out];rfl) | rfl | simp [Cnt.cells],HO,HB,⟨rfl,rfl,rfl,rfl,rfl⟩⟩
 have hpf:p i=false:=by simpa using hpi
 rw [hpf] at cp
 by_cases hc:C.xo≤u i
 ·
  have hc':decide (C.xo≤u i)=true:=decide_eq_true hc
  have HV:Hid (jc C (u i) false=true):=by rw [Hid];simp [jc];omega
  refine wp_region_held_drew (S:=fun w'=>(∀ o,w'.cell? (Hh w.heap.size o)=(#[.int .i64 C.p,.int .i64 C.c,.int .i64 C.xo,.int .i64 C.xn,.int .i64 C.hd,.int .i64 C.lo,.int .i64 C.dl]:Array Value)[o]?)∧(∀ o,w'.cell? (Hh (w.heap.size+1) o)=(#[.slice (some (Hh gu qu)) nU cU,.int .i64 lo,.slice (some (Hh gp qp)) nP cP]:Array Value)[o]?)∧w'.cell? (Hh gu (qu+i))=some (.int .i64 (u i))∧w'.cell? (Hh gp (qp+i))=some (.bool false)) (by kernel_rfl) ⟨cb,cn,cu,cp⟩ (fun hHeld=>?_)
  refine t0 ?_
  iterate 16 refine tN ?_
  iterate 15 refine sN ?_
  refine tN ?_
  refine dnq ?_
  clear hHeld
  have cn2:∀ o,w2.drew.cell? (Hh (w.heap.size+1) o)=(#[.slice (some (Hh gu qu)) nU cU,.int .i64 lo,.slice (some (Hh gp qp)) nP cP]:Array Value)[o]?:=cn
  have cX2:∀ o,w2.drew.cell? (Hh w1.heap.size o)=(#[.slice (some (Hh gU 0)) nU mU,.int .i64 lo,.slice (some (Hh gP 0)) nP mP]:Array Value)[o]?:=cX
  have cp2:w2.drew.cell? (Hh gp (qp+i))=some (.bool false):=cp
  have rPd:ja gP 4 nP (fun i=>.bool (p i)) nP w2.drew:=hrP.jR rfl
  have rUd:ja gU 2 nU (fun i=>.int .i64 (u i)) nU w2.drew:=hrU.jR rfl
  have kRd:w2.drew.heap[w.heap.size+1+1]?=some (.cells ag 30 (0,0)):=kR
  have kNd:w2.drew.heap[w.heap.size+1]?=some (.cells #[.slice (some (Hh gu qu)) nU cU,.int .i64 lo,.slice (some (Hh gp qp)) nP cP] 30 (0,0)):=kN
  have kXd:w2.drew.heap[w1.heap.size]?=some (.cells #[.slice (some (Hh gU 0)) nU mU,.int .i64 lo,.slice (some (Hh gP 0)) nP mP] 30 (0,0)):=kX
  have HBd:Hid (Below w.heap.size w w2.drew):=HB2.drew
  clear kC kN kR kX hrU hrP cb cn cu cp cX HB2
  generalize w2.drew=wd at *
  go_wp2_with fail
  have hd:Touch [] wd wd.drew:=⟨rfl,rfl,rfl,Nat.le_refl _,fun _ _ _=>rfl⟩
  have cn2:∀ o,wd.drew.cell? (Hh (w.heap.size+1) o)=(#[.slice (some (Hh gu qu)) nU cU,.int .i64 lo,.slice (some (Hh gp qp)) nP cP]:Array Value)[o]?:=cn2
  have cX2:∀ o,wd.drew.cell? (Hh w1.heap.size o)=(#[.slice (some (Hh gU 0)) nU mU,.int .i64 lo,.slice (some (Hh gP 0)) nP mP]:Array Value)[o]?:=cX2
  have cp2:wd.drew.cell? (Hh gp (qp+i))=some (.bool false):=cp2
  obtain ⟨v0,hv0⟩:=rPd.there i hP'
  have f0:=rPd.free i
  have hp9:=HgP.out
  have hx9:=HPX.out
  have hn9:=HNP.out
  have cn3:∀ o,(wd.setCell (Hh gP i) (.bool true)).drew.cell? (Hh (w.heap.size+1) o)=(#[.slice (some (Hh gu qu)) nU cU,.int .i64 lo,.slice (some (Hh gp qp)) nP cP]:Array Value)[o]?:=iv ((iJ (w:=wd) (i:=i) (show w.heap.size+1≠gP by omega) (.bool true)).trans kNd)
  have cX3:∀ o,(wd.setCell (Hh gP i) (.bool true)).drew.cell? (Hh w1.heap.size o)=(#[.slice (some (Hh gU 0)) nU mU,.int .i64 lo,.slice (some (Hh gP 0)) nP mP]:Array Value)[o]?:=iv ((iJ (w:=wd) (i:=i) (show w1.heap.size≠gP by omega) (.bool true)).trans kXd)
  have cp3:(wd.setCell (Hh gP i) (.bool true)).drew.cell? (Hh gp (qp+i))=some (.bool false):=(World.cell?_of_block (w:=wd) (a:=(Hh gp (qp+i))) (iJ (w:=wd) (i:=i) hn9 (.bool true))).trans cp2
  refine wp_region_held_drew (S:=fun w'=>(∀ o,w'.cell? (Hh (w.heap.size+1) o)=(#[.slice (some (Hh gu qu)) nU cU,.int .i64 lo,.slice (some (Hh gp qp)) nP cP]:Array Value)[o]?)∧(∀ o,w'.cell? (Hh w1.heap.size o)=(#[.slice (some (Hh gU 0)) nU mU,.int .i64 lo,.slice (some (Hh gP 0)) nP mP]:Array Value)[o]?)∧w'.cell? (Hh gp (qp+i))=some (.bool false)) (by kernel_rfl) ⟨cn2,cX2,cp2⟩ (fun hHeld=>?_)
  refine t0 ?_
  iterate 9 refine tN ?_
  refine rq1 10 (fun K hK=>?_)
  go_simp
  refine ah (hK _ _ ⟨cn3,cX3,cp3⟩) ?_
  intro hHeld
  clear hK K
  refine dnq ?_
  clear hHeld cn2 cX2 cp2 cn3 cp3 hv0 f0
  have kRs:(wd.setCell (Hh gP i) (.bool true)).drew.heap[w.heap.size+1+1]?=some (.cells ag 30 (0,0)):=(iJ (w:=wd) (i:=i) (show w.heap.size+1+1≠gP by omega) (.bool true)).trans kRd
  have rPs:ja gP 4 nP (fun j=>.bool (if j=i then jc C (u j) (p j) else p j)) nP (wd.setCell (Hh gP i) (.bool true)).drew:=((rPd.wW i (.bool true) hP').A3 (fun j _=>by
   by_cases e:j=i
   ·
    subst e
    rw [if_pos rfl,if_pos rfl,hpf,HV.out]
   ·
    rw [if_neg e,if_neg e])).jR rfl
  have rUs:ja gU 2 nU (fun i=>.int .i64 (u i)) nU (wd.setCell (Hh gP i) (.bool true)).drew:=rUd.jR (iJ (w:=wd) (i:=i) (fun e=>HUP e) (.bool true))
  have HBs:Hid (Below w.heap.size w (wd.setCell (Hh gP i) (.bool true)).drew):=(HBd.setCell (by show w.heap.size≤gP;omega) _).drew
  clear kRd kNd kXd rPd rUd hd hp9 hx9 hn9
  generalize (wd.setCell (Hh gP i) (.bool true)).drew=we at *
  have ht:=jg we (w.heap.size+1+1) (.slice (some (Hh gU 0)) nU mU) (.int .i64 lo) (.slice (some (Hh gP 0)) nP mP)
  have hO:jb we w.heap.size ⟨some (Hh gU 0),nU,mU,u,lo,some (Hh gP 0),nP,mP,fun j=>if j=i then jc C (u j) (p j) else p j⟩:=⟨VT.of (by have:=HgU.out;omega) rUs,VT.of (by have:=HgP.out;omega) rPs⟩
  have HO:Hid (jb (nr we (w.heap.size+1+1) (.slice (some (Hh gU 0)) nU mU) (.int .i64 lo) (.slice (some (Hh gP 0)) nP mP)) w.heap.size ⟨some (Hh gU 0),nU,mU,u,lo,some (Hh gP 0),nP,mP,fun j=>if j=i then jc C (u j) (p j) else p j⟩):=nw hO kRs
  have HB:Hid (Below w.heap.size w (nr we (w.heap.size+1+1) (.slice (some (Hh gU 0)) nU mU) (.int .i64 lo) (.slice (some (Hh gP 0)) nP mP))):=HBs.trans (ht.below HBs.size (fun x hx=>by have:=List.mem_singleton.1 hx;omega))
  have cB:=iv (jI kRs (.slice (some (Hh gU 0)) nU mU) (.int .i64 lo) (.slice (some (Hh gP 0)) nP mP))
  have cR:=iv kRs
  have fR:=iF kRs
  clear ht hO kRs rPs rUs
  unfold nr at cB
  go_wp2_with fail
  exact bodyPost_ret (v:=.tuple #[.agg #[.slice (some (Hh gU 0)) nU mU,.int .i64 lo,.slice (some (Hh gP 0)) nP mP],.bool true]) (by simp [results,Tryz.results67,go_sem,cB]) rfl ⟨⟨some (Hh gU 0),nU,mU,u,lo,some (Hh gP 0),nP,mP,fun j=>if j=i then jc C (u j) (p j) else p j⟩,by first | (rw [hpf,HV.out];rfl) | (rw [HV.out];rfl) | rfl | simp [Cnt.cells],HO,HB,⟨rfl,rfl,rfl,rfl,rfl⟩⟩
 have hc':decide (C.xo≤u i)=false:=decide_eq_false hc
 have HV:Hid (jc C (u i) false=false):=by rw [Hid];simp [jc];omega
 refine wp_region_held_drew (S:=fun w'=>(∀ o,w'.cell? (Hh w.heap.size o)=(#[.int .i64 C.p,.int .i64 C.c,.int .i64 C.xo,.int .i64 C.xn,.int .i64 C.hd,.int .i64 C.lo,.int .i64 C.dl]:Array Value)[o]?)∧(∀ o,w'.cell? (Hh (w.heap.size+1) o)=(#[.slice (some (Hh gu qu)) nU cU,.int .i64 lo,.slice (some (Hh gp qp)) nP cP]:Array Value)[o]?)∧w'.cell? (Hh gu (qu+i))=some (.int .i64 (u i))∧w'.cell? (Hh gp (qp+i))=some (.bool false)) (by kernel_rfl) ⟨cb,cn,cu,cp⟩ (fun hHeld=>?_)
 refine t0 ?_
 iterate 22 refine tN ?_
 iterate 8 refine sN ?_
 iterate 2 refine tN ?_
 refine dnq ?_
 clear hHeld
 have ht:=jg w2.drew (w.heap.size+1+1) (.slice (some (Hh gU 0)) nU mU) (.int .i64 lo) (.slice (some (Hh gP 0)) nP mP)
 have kRd:w2.drew.heap[w.heap.size+1+1]?=some (.cells ag 30 (0,0)):=kR
 have hO:jb w2.drew w.heap.size ⟨some (Hh gU 0),nU,mU,u,lo,some (Hh gP 0),nP,mP,fun j=>if j=i then jc C (u j) (p j) else p j⟩:=⟨VT.of (by have:=HgU.out;omega) (hrU.jR (w':=w2.drew) rfl),VT.of (by have:=HgP.out;omega) ((hrP.jR (w':=w2.drew) rfl).A3 (fun j _=>by
  show Value.bool (p j)=Value.bool (if j=i then jc C (u j) (p j) else p j)
  by_cases e:j=i
  ·
   subst e
   rw [if_pos rfl,hpf,HV.out]
  ·
   rw [if_neg e]))⟩
 have HO:Hid (jb (nr w2.drew (w.heap.size+1+1) (.slice (some (Hh gU 0)) nU mU) (.int .i64 lo) (.slice (some (Hh gP 0)) nP mP)) w.heap.size ⟨some (Hh gU 0),nU,mU,u,lo,some (Hh gP 0),nP,mP,fun j=>if j=i then jc C (u j) (p j) else p j⟩):=nw hO kRd
 have HB:Hid (Below w.heap.size w (nr w2.drew (w.heap.size+1+1) (.slice (some (Hh gU 0)) nU mU) (.int .i64 lo) (.slice (some (Hh gP 0)) nP mP))):=HB2.drew.trans (ht.below HB2.drew.size (fun x hx=>by have:=List.mem_singleton.1 hx;omega))
 have cB:=iv (jI kRd (.slice (some (Hh gU 0)) nU mU) (.int .i64 lo) (.slice (some (Hh gP 0)) nP mP))
 have cR:=iv kRd
 have fR:=iF kRd
 have cXd:∀ o,w2.drew.cell? (Hh w1.heap.size o)=(#[.slice (some (Hh gU 0)) nU mU,.int .i64 lo,.slice (some (Hh gP 0)) nP mP]:Array Value)[o]?:=cX
 clear ht hO kRd kR kC kN kX hrU hrP cb cn cu cp cX
 unfold nr at cB
 generalize w2.drew=wd at *
 go_wp2_with fail
 exact bodyPost_ret (v:=.tuple #[.agg #[.slice (some (Hh gU 0)) nU mU,.int .i64 lo,.slice (some (Hh gP 0)) nP mP],.bool false]) (by simp [results,Tryz.results67,go_sem,cB]) rfl ⟨⟨some (Hh gU 0),nU,mU,u,lo,some (Hh gP 0),nP,mP,fun j=>if j=i then jc C (u j) (p j) else p j⟩,by first | (rw [hpf,HV.out];rfl) | (rw [HV.out];rfl) | rfl | simp [Cnt.cells],HO,HB,⟨rfl,rfl,rfl,rfl,rfl⟩⟩
theorem lj.rows {k:Nat} {R':Rnd} {c:Nat} (h:lj k R R' c s):R.L c≠0∧s=R.z c 0∧R'.L=mj R.L c (R.L c-1)∧R'.z=sj R.z c (fun j=>R.z c (j+1))∧R'.q=R.q∧R'.nQ=R.nQ:=by
 induction h with
 | skip h0 _ ih=>exact ih
 | short h0 h1 _ ih =>
  rename_i R0 _ _ _ _
  have e1:(iY (iH R0)).L=R0.L:=oC R0
  have e2:(iY (iH R0)).z=R0.z:=sy R0
  have e3:(iY (iH R0)).q=R0.q:=zE R0
  have e4:(iY (iH R0)).nQ=R0.nQ:=jP R0
  rw [e1,e2,e3,e4] at ih
  exact ih
 | take h0 h1 =>
  rename_i R0
  refine ⟨h0,rfl,?_,?_,?_,?_⟩
  ·
   unfold ml;split <;> (show mj (iH R0).L (iH R0).now _=_;rw [oC,jL])
  ·
   unfold ml;split <;> (show sj (iH R0).z (iH R0).now _=_;rw [sy,jL])
  ·
   unfold ml;split <;> exact zE R0
  unfold ml;split <;> exact jP R0
def CW (b:Bool):Pkt:=⟨0,0,0,if b then 2 else 3,0,0,2,⟨#[]⟩⟩
def lr (C:Cfg) (N:Cnt) (i:Nat):List Pkt:=if flN C N i=true then [CW (jc C (N.u i) (N.p i))] else []
def Lng.Ex (l:Lng):Lng:={ l with nT:=l.nT-1,t:=fun i=>l.t (i+1) }
def Lng.Gg (l:Lng) (c:Nat) (M:Rnd):Lng:={ l with uL:=mj l.uL c (l.uL c-1),uz:=sj l.uz c (fun j=>l.uz c (j+1)),R:=M }
def pO (l l':Lng) (id:Int):Prop :=
 (0<l.nT∧l.st=false∧id=l.t 0∧l'=l.Ex) ∨
 (¬ (0<l.nT∧l.st=false)∧∃ M x s,tz l.R M x s∧((x=-1∧id=0∧l'={ l with R:=M })∨∃ c:Nat,x=(c:Int)∧id=l.uz c 0∧l'=l.Gg c M))
theorem EG (l:Lng):∃ l' id,pO l l' id:=by
 by_cases h:0<l.nT∧l.st=false
 ·
  exact ⟨_,_,.inl ⟨h.1,h.2,rfl,rfl⟩⟩
 obtain ⟨M,x,s,hp⟩:=DC l.R
 have hx:x=-1∨∃ c:Nat,x=(c:Int):=by
  rcases hp with ⟨_,_,e,_⟩ | ⟨_,_,_,e,_⟩ | ⟨_,_,k,c,_,e⟩
  ·
   exact .inl e
  ·
   exact .inl e
  exact .inr ⟨c,e⟩
 rcases hx with e | ⟨c,e⟩
 ·
  exact ⟨_,_,.inr ⟨h,M,x,s,hp,.inl ⟨e,rfl,rfl⟩⟩⟩
 exact ⟨_,_,.inr ⟨h,M,x,s,hp,.inr ⟨c,e,rfl,rfl⟩⟩⟩
def jM (K:Nat→Pkt) (j:Nat):Nat→Pkt:=fun i=>if i=j then { K i with refs:=(K i).refs-1 } else K i
def rmK (K:Nat→Pkt) (j:Nat):Nat→Pkt:=fun i=>if i<j then K i else K (i+1)
def Swg.GM (S:Swg) (i:Nat) (l':Lng):Swg:={ S with N:=mn S.C S.N i,L:=fun k=>if k=i then l' else S.L k }
def mO (S S':Swg) (i:Nat) (fs:List Pkt):Prop :=
 ∃ l' id,pO (S.L i) l' id ∧
  ((id=0∧S'=S.GM i l'∧fs=lr S.C S.N i) ∨
   (id≠0∧∃ j,j<S.nK∧(S.K j).id=id∧fs=lr S.C S.N i++[S.K j] ∧
    (((S.K j).refs≠1∧S'={ S.GM i l' with K:=jM S.K j }) ∨
    ((S.K j).refs=1∧S'={ S.GM i l' with nK:=S.nK-1,K:=rmK S.K j,N:=lu (mn S.C S.N i) (S.K j).inn (S.K j).p (-(S.K j).cl) }))))
theorem pO.GL {S:Swg} (h:S.Ok) (hi:i<S.nL) {l':Lng} {id:Int} (ht:pO (S.L i) l' id):id=0∨∃ j,j<S.nK∧(S.K j).id=id:=by
 have hl:=h.l i hi
 rcases ht with ⟨h1,h2,rfl,rfl⟩ | ⟨_,M,x,s,hp,⟨_,rfl,_⟩ | ⟨c,rfl,rfl,rfl⟩⟩
 ·
  obtain ⟨⟨j,hj,e,_⟩,_⟩:=hl.t 0 h1
  exact .inr ⟨j,hj,e⟩
 ·
  exact .inl rfl
 rcases hp with ⟨hno,_⟩ | ⟨_,_,_,e,_⟩ | ⟨ho,_,k,c',hpk,e⟩
 ·
  exact absurd hl.r hno
 ·
  omega
 have e2:c'=c:=by omega
 subst e2
 have hw:=hpk.rows.1
 have hc2:c'<2:=by
  have:=(hpk.ok ho).2.2.1
  have:=hl.n
  omega
 obtain ⟨hz1,hz2,_⟩:=hl.z c' hc2
 obtain ⟨⟨j,hj,e3,_⟩,_⟩:=hz1 0 (by rw [hz2];exact Nat.pos_of_ne_zero hw)
 exact .inr ⟨j,hj,e3⟩
theorem EM {S:Swg} (h:S.Ok) (hi:i<S.nL):∃ S' fs,mO S S' i fs:=by
 obtain ⟨l',id,ht⟩:=EG (S.L i)
 by_cases h0:id=0
 ·
  exact ⟨_,_,l',id,ht,.inl ⟨h0,rfl,rfl⟩⟩
 rcases ht.GL h hi with e | ⟨j,hj,e⟩
 ·
  exact absurd e h0
 by_cases h1:(S.K j).refs=1
 ·
  exact ⟨_,_,l',id,ht,.inr ⟨h0,j,hj,e,rfl,.inr ⟨h1,rfl⟩⟩⟩
 exact ⟨_,_,l',id,ht,.inr ⟨h0,j,hj,e,rfl,.inl ⟨h1,rfl⟩⟩⟩
theorem pq (h:i<j):rmK K j i=K i:=by unfold rmK;rw [if_pos h]
theorem pT (h:j≤i):rmK K j i=K (i+1):=by unfold rmK;rw [if_neg (by omega)]
theorem sP {K K':Nat→Pkt} {q:Int}:∀ n,(∀ i,i<n→K i=K' i)→jX K q n=jX K' q n
 | 0,_=>rfl
 | n+1,h=>by
  show jX K q n+_=jX K' q n+_
  rw [sP n (fun i hi=>h i (by omega)),h n (by omega)]
theorem rr {K K':Nat→Pkt}:∀ n,(∀ i,i<n→K i=K' i)→iZ K n=iZ K' n
 | 0,_=>rfl
 | n+1,h=>by
  show iZ K n+_=iZ K' n+_
  rw [rr n (fun i hi=>h i (by omega)),h n (by omega)]
theorem yu {K:Nat→Pkt} {q:Int}:∀ (n j:Nat),j≤n→jX (rmK K j) q n+(if (K j).p=2∧(K j).inn=q then (K j).cl else 0)=jX K q (n+1)
 | 0,j,h=>by
  obtain rfl:j=0:=by omega
  rfl
 | n+1,j,h=>by
  by_cases e:j=n+1
  ·
   subst e
   rw [sP (K':=K) (n+1) (fun i hi=>pq hi)]
   rfl
  have ih:=yu (K:=K) (q:=q) n j (by omega)
  show jX (rmK K j) q n+(if (rmK K j n).p=2∧(rmK K j n).inn=q then (rmK K j n).cl else 0)+_=jX K q (n+1)+(if (K (n+1)).p=2∧(K (n+1)).inn=q then (K (n+1)).cl else 0)
  rw [pT (K:=K) (show j≤n by omega),←ih]
  omega
theorem vk {K:Nat→Pkt}:∀ (n j:Nat),j≤n→iZ (rmK K j) n+(if (K j).p=2 then 0 else (K j).cl)=iZ K (n+1)
 | 0,j,h=>by
  obtain rfl:j=0:=by omega
  rfl
 | n+1,j,h=>by
  by_cases e:j=n+1
  ·
   subst e
   rw [rr (K':=K) (n+1) (fun i hi=>pq hi)]
   rfl
  have ih:=vk (K:=K) n j (by omega)
  show iZ (rmK K j) n+(if (rmK K j n).p=2 then 0 else (rmK K j n).cl)+_=iZ K (n+1)+(if (K (n+1)).p=2 then 0 else (K (n+1)).cl)
  rw [pT (K:=K) (show j≤n by omega),←ih]
  omega
theorem lC.rm {p:Int} (h:lC nx p n K) (hj:j<n):lC nx p (n-1) (rmK K j):=by
 have hlt:=pv h.up
 refine ⟨by have:=h.le;omega,fun i hi=>?_,fun i hi h0=>?_⟩
 ·
  by_cases c:i<j
  ·
   rw [pq c];exact h.one i (by omega)
  rw [pT (by omega)];exact h.one (i+1) (by omega)
 by_cases c:i<j
 ·
  rw [pq c,pq (by omega)];exact hlt i (i-1) (by omega) (by omega)
 rw [pT (show j≤i by omega)]
 by_cases c2:i-1<j
 ·
  rw [pq c2];exact hlt (i+1) (i-1) (by omega) (by omega)
 rw [pT (show j≤i-1 by omega)];exact hlt (i+1) (i-1+1) (by omega) (by omega)
theorem wU {nx p:Int} {K:Nat→Pkt} {m:Nat} (h:lC nx p m K):∀ n,n≤m→0≤iZ K n
 | 0,_=>Int.le_refl _
 | n+1,hn=>by
  have:=wU h n (by omega)
  have hc:=(h.one n (by omega)).2.2.cl
  show 0≤iZ K n+_
  split <;> omega
theorem lC.only {p:Int} (h:lC nx p n K) (hj:j<n):∀ i,i<n→i≠j→(K i).id≠(K j).id:=fun i hi hne e=>hne (mR h.up hi hj e)
theorem yU {N:Cnt} (i:Nat) (h:Cnt.Ok C N):Cnt.Ok C (mn C N i):=⟨h.c,h.nU,h.nP,h.lo,h.u⟩
theorem Swg.Ok.rel {S:Swg} (h:S.Ok) (hj:j<S.nK):wm S.C S.N (S.K j).inn (S.K j).p (S.K j).cl∧Cnt.Ok S.C (lu S.N (S.K j).inn (S.K j).p (-(S.K j).cl)):=by
 obtain ⟨_,o2,o3⟩:=h.k.one j hj
 have hcl:=o3.cl
 have hrm:=h.k.rm hj
 refine ⟨⟨h.n,o2,o3.pr,hcl⟩,?_⟩
 by_cases e:(S.K j).p=2
 ·
  obtain ⟨i,ei⟩:∃ i:Nat,(S.K j).inn=(i:Int):=⟨(S.K j).inn.toNat,by omega⟩
  rw [ei,e,mK]
  have hnU:=h.n.nU
  refine ⟨h.n.c,h.n.nU,h.n.nP,h.n.lo,fun k hk=>?_⟩
  have hu:=h.n.u k hk
  show 0≤(if k=i then S.N.u k+-(S.K j).cl else S.N.u k)∧(if k=i then S.N.u k+-(S.K j).cl else S.N.u k)≤_
  by_cases ek:k=i
  ·
   subst ek
   rw [if_pos rfl]
   have hh:=h.held.2 k hk
   have hs:=yu (K:=S.K) (q:=(k:Int)) (S.nK-1) j (by omega)
   rw [if_pos ⟨e,ei⟩,show S.nK-1+1=S.nK by omega] at hs
   have hp:=(yr (q:=(k:Int)) hrm (S.nK-1) (Nat.le_refl _)).1
   omega
  rw [if_neg ek]
  exact hu
 rw [mb e]
 refine ⟨h.n.c,h.n.nU,h.n.nP,?_,h.n.u⟩
 show 0≤S.N.lo+-(S.K j).cl∧S.N.lo+-(S.K j).cl≤_
 have hlo:=h.n.lo
 have hh:=h.held.1
 have hs:=vk (K:=S.K) (S.nK-1) j (by omega)
 rw [if_neg e,show S.nK-1+1=S.nK by omega] at hs
 have hp:=wU hrm (S.nK-1) (Nat.le_refl _)
 omega
