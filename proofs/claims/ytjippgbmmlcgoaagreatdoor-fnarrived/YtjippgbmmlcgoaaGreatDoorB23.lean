import Derived.Test.YtjippgbmmlcgoaaGreatDoorB09
import Derived.Test.YtjippgbmmlcgoaaGreatDoorB22
namespace Go.Proofs.YtjippgbmmlcgoaaGreatDoor
set_option maxRecDepth 100000
set_option maxHeartbeats 9000000
open Go.RowKit
set_option linter.unusedVariables false
set_option linter.unusedSimpArgs false
variable {C:Cfg} {nx p q s y:Int} {base i j n:Nat} {K K':Nat→Pkt} {o o' o2:Obj} {B R:Rnd} {w wi:World}
theorem dq {p:Prop} (h:p:=by
 have kz3:=jw kR4 (.slice none 0 0) (.int .i64 0) (.slice none 0 0)
 have HB:Hid (Below w.heap.size w (mB w4 (w.heap.size+1+1) (.slice none 0 0) (.int .i64 0) (.slice none 0 0))):=B4.trans ((iW _ _ _ _ _).below B4.size (fun x hx=>by simp at hx;omega))
 have cB:=ie kz3
 clear kz3 kX4 kR4 B4 hM4
 unfold mB at cB
 go_wp2_with fail
 exact bodyPost_ret (v:=.tuple #[.agg ag,.bool false]) (by simp [results,Tryz.results132,go_sem,cB]) rfl ⟨vQ,rfl,pJ _ _,HB,iR.refl _⟩):p:=h
theorem dt {p:Prop} (h:p:=by
 have kz3:=jw kR4 (.slice none 0 0) (.int .i64 0) (.slice none 0 0)
 have HB:Hid (Below w.heap.size w (mB w4 (w.heap.size+1+1) (.slice none 0 0) (.int .i64 0) (.slice none 0 0))):=B4.trans ((iW _ _ _ _ _).below B4.size (fun x hx=>by simp at hx;omega))
 have cB:=ie kz3
 clear kz3 kX4 kR4 B4 hM4
 unfold mB at cB
 go_wp2_with fail
 exact bodyPost_ret (v:=.tuple #[.agg ag,.bool false]) (by simp [results,Tryz.results63,go_sem,cB]) rfl ⟨vQ,rfl,pJ _ _,HB,iR.refl _⟩):p:=h
theorem tp (R:Rnd) (w:World) (hs:R.Small) (h:mN w R) (ho:R.Ok) (hno:∀ i,i<R.nQ→R.L i=0) :
  Calls Tryz.prog 112 #[.agg R.cells] w fun e w'=>∃ M,e=.returned (.tuple #[.agg M.cells,.int .i64 (-1),.int .i64 0])∧jy w' w.heap.size M∧Below w.heap.size w w'∧Alike R M∧∀ i,i<M.nS→M.L i≤M.C i:=by
 obtain ⟨aQ,nQ,cQ,q,aD,nD,cD,d,turn,fresh,aS,nS,cS,A,L,C,z⟩:=R
 have HSm:=aa hs
 have HRd:=aa h
 have hsS:nS≤1048576:=hs.s
 have HnS:=aa ho.s
 have HNo:=aa hno
 have HRow:=aa h.s
 have hB:Below (w.heap.size+2) ((w.alloc (.cells #[.slice aQ nQ cQ,.slice aD nD cD,.int .i64 turn,.bool fresh,.slice aS nS cS] 45)).alloc (.cells ae 45)) ((w.alloc (.cells #[.slice aQ nQ cQ,.slice aD nD cD,.int .i64 turn,.bool fresh,.slice aS nS cS] 45)).alloc (.cells ae 45)):=Below.refl _ _
 have cb:=Cu hB
 clear hs h ho hno
 unfold Rnd.cells
 dsimp only
 go_enter Tryz.func112,Tryz.ntmps112
 go_wp2_with fail
 go_loop [5,6] (fun bv i=>∃ (j:Nat),j≤nS∧i=.int .i64 j∧bv=.bool false) (fun _ i=>nS-(intOf i).toNat)
 case atStart=>exact ⟨0,Nat.zero_le _,rfl,rfl⟩
 obtain ⟨j,hj,rfl,rfl⟩:=hrel
 by_cases hlt:j<nS
 ·
  have hlt':(j:Int)<nS:=by omega
  obtain ⟨g,o,rfl,s1⟩:=(HRow.up (pw hB)) j hlt
  dsimp only at s1
  have hLj:L j=0:=HNo j (by have:=HnS.out;omega)
  rw [hLj] at s1
  clear hLj
  go_wp2_with fail
  go_round
  case rel=>exact ⟨j+1,by omega,by go_num,rfl⟩
  case measure=>simp [intOf];omega
 obtain rfl:j=nS:=by omega
 have hjj:¬ ((j:Nat):Int)<((j:Nat):Int):=by omega
 go_wp2_with fail
 refine (lz ⟨aQ,nQ,cQ,q,aD,nD,cD,d,turn,fresh,aS,j,cS,A,L,C,z⟩ _ HSm (HRd.up (pw hB))).mono ?_
 rintro e w3 ⟨aq,cq,ad,cd,av,cv,A2,C2,rfl,hOw,hb⟩
 have HCap:Hid (∀ i,i<j→L i≤C2 i):=fun i hi=>FF (hOw.z i hi)
 replace hB:=ri hB hb
 have hA:=(Below.refl w3.heap.size w3).alloc (Nat.le_refl _) (.cells #[.slice aq nQ cq,.slice ad nD cd,.int .i64 turn,.bool fresh,.slice av j cv] 45)
 have kb:=im w3 (.cells #[.slice aq nQ cq,.slice ad nD cd,.int .i64 turn,.bool fresh,.slice av j cv] 45)
 have hOw2:=hOw.own.up hA
 have hgb:w.heap.size+2≤w3.heap.size:=by have:=lh hB;omega
 replace hB:=ri hB hA
 clear hb hA hOw
 dsimp only [Rnd.cells,Rnd.cp2]
 go_wp2_with fail
 generalize w3.alloc (.cells #[.slice aq nQ cq,.slice ad nD cd,.int .i64 turn,.bool fresh,.slice av j cv] 45)=w4 at *
 generalize w3.heap.size=gb at *
 have HB4:=aa hB
 have kR:=EM hB
 have cR:=ie kR
 have fR:=ix kR
 have cG:=ie kb
 have hne:gb≠w.heap.size+1:=by omega
 have hne2:w.heap.size+1≠gb:=by omega
 have hbase:((w.alloc (.cells #[.slice aQ nQ cQ,.slice aD nD cD,.int .i64 turn,.bool fresh,.slice aS j cS] 45)).alloc (.cells ae 45)).heap.size=w.heap.size+2:=by simp
 rw [hbase] at hOw2
 have HOw:=aa hOw2
 have HKR:=aa kR
 have HUn:=aa (pw hB)
 clear hOw2 hbase hB kR kb HRd HSm HRow HNo HnS
 go_loopw [8] (fun _ wr=>wr=w4) (fun _ _=>0)
 case atStart=>rfl
 obtain rfl:=hrel
 go_wp2_with fail
 have ht:=jv wr (w.heap.size+1) (.slice aq nQ cq) (.slice ad nD cd) (.int .i64 turn) (.bool fresh) (.slice av j cv)
 have cF:=ie (ln HKR (.slice aq nQ cq) (.slice ad nD cd) (.int .i64 turn) (.bool fresh) (.slice av j cv))
 have hBf:=HUn.trans (ht.below HUn.size (fun x hx=>by simp at hx;omega))
 have hOf:=(HOw.kk ht (fun x hx=>by simp at hx;omega)).mono (show w.heap.size≤w.heap.size+2 by omega)
 unfold sg at cF hBf hOf
 exact bodyPost_ret (v:=.tuple #[.agg #[.slice aq nQ cq,.slice ad nD cd,.int .i64 turn,.bool fresh,.slice av j cv],.int .i64 (-1),.int .i64 0]) (by simp [results,Tryz.results112,go_sem,cF]) rfl ⟨Rnd.cp2 ⟨aQ,nQ,cQ,q,aD,nD,cD,d,turn,fresh,aS,j,cS,A,L,C,z⟩ aq cq ad cd av cv A2 C2,rfl,hOf,hBf,⟨rfl,rfl,rfl,rfl,rfl,rfl,rfl,rfl,rfl⟩,HCap⟩
def xD (R M:Rnd) (x s:Int):Prop :=
 (¬ R.Ok∧M=zR∧x=-1∧s=0)∨(R.Ok∧(∀ i,i<R.nQ→R.L i=0)∧M=R∧x=-1∧s=0)∨(R.Ok∧(∃ c0,c0<R.nQ∧R.L c0≠0)∧∃ k c,lu k R M c s∧x=((c:Nat):Int))
theorem De (R:Rnd):∃ M x s,xD R M x s:=by
 by_cases ho:R.Ok
 ·
  by_cases hw:∃ c0,c0<R.nQ∧R.L c0≠0
  ·
   obtain ⟨c0,h1,h2⟩:=hw
   obtain ⟨k,R',c,s,hp⟩:=Dd c0 _ R rfl ho h1 h2
   exact ⟨R',c,s,.inr (.inr ⟨ho,⟨c0,h1,h2⟩,k,c,hp,rfl⟩)⟩
  refine ⟨R,-1,0,.inr (.inl ⟨ho,fun i hi=>?_,rfl,rfl,rfl⟩)⟩
  by_cases e:R.L i=0
  ·
   exact e
  exact absurd ⟨i,hi,e⟩ hw
 exact ⟨zR,-1,0,.inl ⟨ho,rfl,rfl,rfl⟩⟩
theorem Alike.okI {A:Rnd} (h:Alike A B):B.Ok↔A.Ok:=by
 have key:∀ {A B:Rnd},Alike A B→A.Ok→B.Ok:=fun {A B} h ho=>by
  refine ⟨by rw [h.nQ];exact ho.n,by rw [h.nD,h.nQ];exact ho.d,by rw [h.nS,h.nQ];exact ho.s,by rw [h.t,h.nQ];exact ho.t,fun i hi=>?_⟩
  have:=ho.c i (by rw [←h.nQ];exact hi)
  unfold Rnd.begun at this ⊢
  rw [h.q,h.d,h.l,h.z,h.t,h.f]
  exact this
 exact ⟨key h.symm,key h⟩
theorem xD.vN {M:Rnd} {x:Int} (h:xD R M x s) (ha:Alike R B):∃ M',xD B M' x s∧Alike M M':=by
 rcases h with ⟨ho,rfl,h1,h2⟩ | ⟨ho,hn,rfl,h1,h2⟩ | ⟨ho,⟨c0,h1,h2⟩,k,c,hp,hx⟩
 ·
  exact ⟨zR,.inl ⟨fun hb=>ho (ha.okI.1 hb),rfl,h1,h2⟩,Alike.refl _⟩
 ·
  exact ⟨B,.inr (.inl ⟨ha.okI.2 ho,fun i hi=>by rw [ha.l];exact hn i (by rw [←ha.nQ];exact hi),rfl,h1,h2⟩),ha⟩
 obtain ⟨B',hp2,ha2⟩:=hp.vN ha
 exact ⟨B',.inr (.inr ⟨ha.okI.2 ho,⟨c0,by rw [ha.nQ];exact h1,by rw [ha.l];exact h2⟩,k,c,hp2,hx⟩),ha2⟩
theorem vj (R M:Rnd) (x s:Int) (w:World) (hs:R.Small) (h:mN w R) (ho:R.Ok) (hp:xD R M x s) :
  Calls Tryz.prog 112 #[.agg R.cells] w fun e w'=>∃ R',e=.returned (.tuple #[.agg R'.cells,.int .i64 x,.int .i64 s])∧jy w' w.heap.size R'∧Below w.heap.size w w'∧Alike M R'∧∀ i,i<R'.nS→R'.L i≤R'.C i:=by
 rcases hp with ⟨hn,_⟩ | ⟨_,hn,rfl,rfl,rfl⟩ | ⟨_,⟨c0,h1,h2⟩,k,c,hp,rfl⟩
 ·
  exact absurd ho hn
 ·
  exact tp _ w hs h ho hn
 exact wS R w hs h ho c0 h1 h2 k M c s hp
theorem vk (R M:Rnd) (x s:Int) (w:World) (hs:R.Small) (h:mN w R) (ho:R.Ok) (hp:xD R M x s) :
  Calls Tryz.prog 112 #[.agg R.cells] w fun e w'=>∃ R',e=.returned (.tuple #[.agg R'.cells,.int .i64 x,.int .i64 s])∧jy w' w.heap.size R'∧Below w.heap.size w w'∧Alike M R' :=
 (vj R M x s w hs h ho hp).mono fun e w' ⟨M,h1,h2,h3,h4,_⟩=>⟨M,h1,h2,h3,h4⟩
theorem lN (h:Below (w.heap.size+3) (((w.alloc o).alloc o').alloc o2) wi):wi.heap[w.heap.size]?=some o∧wi.heap[w.heap.size+1]?=some o'∧wi.heap[w.heap.size+1+1]?=some o2:=by
 have e1:(w.alloc o).heap.size=w.heap.size+1:=by simp
 have e2:((w.alloc o).alloc o').heap.size=w.heap.size+1+1:=by simp
 refine ⟨(h.block _ (by omega)).trans ((iH _ (by omega)).trans ((iH _ (by omega)).trans (im _ _))),(h.block _ (by omega)).trans ((iH _ (by omega)).trans ?_),(h.block _ (by omega)).trans ?_⟩
 ·
  have:=im (w.alloc o) o'
  rw [e1] at this
  exact this
 have:=im ((w.alloc o).alloc o') o2
 rw [e2] at this
 exact this
theorem jY (h:Below (w.heap.size+3) (((w.alloc o).alloc o').alloc o2) wi):Below w.heap.size w wi :=
 ((((Below.refl _ _).alloc (Nat.le_refl _) o).alloc (by simp) o').alloc (by simp;omega) o2).trans (h.mono (by omega))
theorem rW (h:Below (w.heap.size+3) (((w.alloc o).alloc o').alloc o2) wi):w.heap.size+3≤wi.heap.size:=by
 have:=h.size
 simpa using this
theorem qI {wj:World} (h:Below (w.heap.size+3) (((w.alloc o).alloc o').alloc o2) wi) (k:Below wi.heap.size wi wj):Below (w.heap.size+3) (((w.alloc o).alloc o').alloc o2) wj :=
 h.trans (k.mono (rW h))
def Cnt.qt (N:Cnt) (i:Nat) (y:Int):Cnt:={ N with u:=Go.Proofs.YtjippgbmmlcgoaaGreatDoor.qt N.u i y }
def Cnt.DT (N:Cnt) (y:Int):Cnt:={ N with lo:=N.lo+y }
def mF (N:Cnt) (ok:Bool):Cnt:=if ok then N else vQ
structure yC (C:Cfg) (N:Cnt):Prop where
 u:2≤N.nU∧N.nU≤4
 p:2≤N.nP∧N.nP≤4
 lo:0≤N.lo∧N.lo≤1000
 at':∀ i,i<N.nU→0≤N.u i∧N.u i≤2000
theorem Cnt.Ok.facts {N:Cnt} (h:Cnt.Ok C N):yC C N:=by
 have h1:=h.nU
 have h2:=h.nP
 have h3:=h.c.num.p
 have h4:=h.lo
 have h5:=h.c.num.lo
 have h6:=h.c.num.xo
 have h7:=h.c.num.hd
 exact ⟨⟨by omega,by omega⟩,⟨by omega,by omega⟩,⟨by omega,by omega⟩,fun i hi=>by have:=h.u i hi;omega⟩
theorem yC.small {N:Cnt} (h:yC C N):N.Small:=⟨by have:=h.u;omega,by have:=h.p;omega⟩
theorem vw (C:Cfg) (N:Cnt) (i:Nat) (y:Int) (w:World) (hN:Cnt.Ok C N) (h:my w N) (hi:i<N.nU) (hy1:-5≤y) (hy2:y≤5) (ok:Bool) (hok:ok=true↔Cnt.Ok C (N.qt i y)) :
  Calls Tryz.prog 132 #[.agg C.cells,.agg N.cells,.iface 156 (.agg #[.int .i64 (i:Int)]),.int .i64 y] w fun e w'=>∃ M:Cnt,e=.returned (.tuple #[.agg M.cells,.bool ok])∧iN w' w.heap.size M∧Below w.heap.size w w'∧iR (mF (N.qt i y) ok) M:=by
 have HO:=aa hok
 have HR:=aa h
 have HFa:=aa hN.facts
 have HB0:Hid (Below (w.heap.size+3) (((w.alloc (.cells #[.int .i64 C.p,.int .i64 C.c,.int .i64 C.xo,.int .i64 C.xn,.int .i64 C.hd,.int .i64 C.lo,.int .i64 C.dl] 25)).alloc (.cells #[.slice N.aU N.nU N.cU,.int .i64 N.lo,.slice N.aP N.nP N.cP] 30)).alloc (.cells ag 30)) (((w.alloc (.cells #[.int .i64 C.p,.int .i64 C.c,.int .i64 C.xo,.int .i64 C.xn,.int .i64 C.hd,.int .i64 C.lo,.int .i64 C.dl] 25)).alloc (.cells #[.slice N.aU N.nU N.cU,.int .i64 N.lo,.slice N.aP N.nP N.cP] 30)).alloc (.cells ag 30))):=Below.refl _ _
 have hsm:=HFa.small.u
 have HFit:Hid (N.nU≤maxLen∧N.nP≤maxLen):=⟨HFa.small.fit.u,HFa.small.fit.p⟩
 have hl1:=HFa.lo.1
 have hl2:=HFa.lo.2
 have hu1:=(HFa.at' i hi).1
 have hu2:=(HFa.at' i hi).2
 have hi2:(i:Int)<N.nU:=by omega
 have hnm:(N.nU:Int)≤1048576:=by omega
 clear hok h hN
 unfold Cfg.cells Cnt.cells
 go_enter Tryz.func132,Tryz.ntmps132
 go_wp2_with fail
 refine (mM N _ (by have:=HFa.u;omega) (by have:=HFa.p;omega) HFa.small (HR.up (jY HB0))).mono ?_
 rintro e w1 ⟨M,rfl,hM,hb1,hAM⟩
 have hB:=qI HB0 hb1
 have HL1:=aa (rW hB)
 have HMb:Hid (w.heap.size+3≤(((w.alloc (.cells #[.int .i64 C.p,.int .i64 C.c,.int .i64 C.xo,.int .i64 C.xn,.int .i64 C.hd,.int .i64 C.lo,.int .i64 C.dl] 25)).alloc (.cells #[.slice N.aU N.nU N.cU,.int .i64 N.lo,.slice N.aP N.nP N.cP] 30)).alloc (.cells ag 30)).heap.size):=by rw [Hid];simp
 obtain ⟨aU,nU',cU,u',lo',aP,nP',cP,p'⟩:=M
 obtain ⟨h1,h2,h3,h4,h5⟩:=hAM
 dsimp only at h1 h2 h3 h4 h5
 subst h1 h2 h3 h4 h5
 obtain ⟨hMu,hMp⟩:=hM
 dsimp only at hMu hMp
 rcases hMu with h0 | ⟨gU,rfl,hgU,hrU⟩
 ·
  have:=HFa.u
  omega
 have hVP:VT 4 w1 (w.heap.size+3) aP N.nP (fun i=>.bool (N.p i)):=hMp.mono HMb.out
 have HgU:=aa (Nat.le_trans HMb hgU)
 clear hb1 hMp hgU
 have hA:=(Below.refl w1.heap.size w1).alloc (Nat.le_refl _) (.cells #[.slice (some ⟨gU,0,none⟩) N.nU cU,.int .i64 N.lo,.slice aP N.nP cP] 30)
 have kX:=im w1 (.cells #[.slice (some ⟨gU,0,none⟩) N.nU cU,.int .i64 N.lo,.slice aP N.nP cP] 30)
 have l1:=hrU.lt
 have HgX:Hid (gU≠w1.heap.size):=by show gU≠w1.heap.size;omega
 replace hrU:=hrU.jQ (hA.block _ hrU.lt)
 replace hVP:=hVP.up hA
 replace hB:=qI hB hA
 have cb:=ie (lN hB).1
 clear hA l1
 dsimp only [Cnt.cells]
 go_wp2_with fail
 generalize w1.alloc (.cells #[.slice (some ⟨gU,0,none⟩) N.nU cU,.int .i64 N.lo,.slice aP N.nP cP] 30)=w2 at *
 refine (pg w1.heap.size gU N.nU cU i _ _ N.u y _ hi (by omega) kX hrU (by omega) (by omega)).mono ?_
 rintro e w3 ⟨rfl,hr3,ht3⟩
 have kX3:=(ht3.block _ (ig kX) (by have:=HgX.out;simp;omega)).trans kX
 have hM3:iN w3 (w.heap.size+3) ⟨some ⟨gU,0,none⟩,N.nU,cU,Go.Proofs.YtjippgbmmlcgoaaGreatDoor.qt N.u i y,N.lo,aP,N.nP,cP,N.p⟩:=⟨VT.of HgU hr3,hVP.iu ht3 (fun x hx hy=>by simp at hy;subst hy;obtain ⟨arr,hk,_⟩:=hrU;exact VT.nf hVP (by decide) hk hx)⟩
 have kC3:=(ht3.block _ (ig (lN hB).1) (by have:=HgU.out;have:=HL1.out;simp;omega)).trans (lN hB).1
 have kR3:=(ht3.block _ (ig (lN hB).2.2) (by have:=HgU.out;have:=HL1.out;simp;omega)).trans (lN hB).2.2
 have B3:=(jY hB).trans (ht3.below (jY hB).size (fun x hx=>by have:=HgU.out;have:=HL1.out;simp at hx;omega))
 clear hB hrU hVP kX hr3 ht3 cb
 have cb:=ie kC3
 have cX:=ie kX3
 go_wp2_with fail
 refine (ma C ⟨some ⟨gU,0,none⟩,N.nU,cU,Go.Proofs.YtjippgbmmlcgoaaGreatDoor.qt N.u i y,N.lo,aP,N.nP,cP,N.p⟩ _ ⟨HFit.1,HFit.2⟩ hM3.rd ok (HO.trans ⟨fun k=>⟨k.c,k.nU,k.nP,k.lo,k.u⟩,fun k=>⟨k.c,k.nU,k.nP,k.lo,k.u⟩⟩)).mono ?_
 rintro e w4 ⟨rfl,hb4⟩
 have hM4:=hM3.up hb4
 have kX4:=(hb4.block _ (ig kX3)).trans kX3
 have kR4:=(hb4.block _ (ig kR3)).trans kR3
 have B4:=B3.trans (hb4.mono B3.size)
 clear hM3 kX3 kR3 kC3 B3 hb4 cb cX
 have cR:=ie kR4
 have fR:=ix kR4
 have cX:=ie kX4
 cases ok
 · exact dq
 have kz3:=jw kR4 (.slice (some ⟨gU,0,none⟩) N.nU cU) (.int .i64 N.lo) (.slice aP N.nP cP)
 have HB:Hid (Below w.heap.size w (mB w4 (w.heap.size+1+1) (.slice (some ⟨gU,0,none⟩) N.nU cU) (.int .i64 N.lo) (.slice aP N.nP cP))):=B4.trans ((iW _ _ _ _ _).below B4.size (fun x hx=>by simp at hx;omega))
 have HM:Hid (iN (mB w4 (w.heap.size+1+1) (.slice (some ⟨gU,0,none⟩) N.nU cU) (.int .i64 N.lo) (.slice aP N.nP cP)) w.heap.size ⟨some ⟨gU,0,none⟩,N.nU,cU,Go.Proofs.YtjippgbmmlcgoaaGreatDoor.qt N.u i y,N.lo,aP,N.nP,cP,N.p⟩):=(nM hM4 kR4).mono (by omega)
 have cB:=ie kz3
 clear kz3 kX4 kR4 B4 hM4
 unfold mB at cB
 go_wp2_with fail
 exact bodyPost_ret (v:=.tuple #[.agg #[.slice (some ⟨gU,0,none⟩) N.nU cU,.int .i64 N.lo,.slice aP N.nP cP],.bool true]) (by simp [results,Tryz.results132,go_sem,cB]) rfl ⟨⟨some ⟨gU,0,none⟩,N.nU,cU,Go.Proofs.YtjippgbmmlcgoaaGreatDoor.qt N.u i y,N.lo,aP,N.nP,cP,N.p⟩,rfl,HM,HB,⟨rfl,rfl,rfl,rfl,rfl⟩⟩
theorem vy (C:Cfg) (N:Cnt) (y:Int) (w:World) (hN:Cnt.Ok C N) (h:my w N) (hy1:-5≤y) (hy2:y≤5) (ok:Bool) (hok:ok=true↔Cnt.Ok C (N.DT y)) :
  Calls Tryz.prog 132 #[.agg C.cells,.agg N.cells,.iface 154 (.agg #[]),.int .i64 y] w fun e w'=>∃ M:Cnt,e=.returned (.tuple #[.agg M.cells,.bool ok])∧iN w' w.heap.size M∧Below w.heap.size w w'∧iR (mF (N.DT y) ok) M:=by
 have HO:=aa hok
 have HR:=aa h
 have HFa:=aa hN.facts
 have HB0:Hid (Below (w.heap.size+3) (((w.alloc (.cells #[.int .i64 C.p,.int .i64 C.c,.int .i64 C.xo,.int .i64 C.xn,.int .i64 C.hd,.int .i64 C.lo,.int .i64 C.dl] 25)).alloc (.cells #[.slice N.aU N.nU N.cU,.int .i64 N.lo,.slice N.aP N.nP N.cP] 30)).alloc (.cells ag 30)) (((w.alloc (.cells #[.int .i64 C.p,.int .i64 C.c,.int .i64 C.xo,.int .i64 C.xn,.int .i64 C.hd,.int .i64 C.lo,.int .i64 C.dl] 25)).alloc (.cells #[.slice N.aU N.nU N.cU,.int .i64 N.lo,.slice N.aP N.nP N.cP] 30)).alloc (.cells ag 30))):=Below.refl _ _
 have hsm:=HFa.small.u
 have HFit:Hid (N.nU≤maxLen∧N.nP≤maxLen):=⟨HFa.small.fit.u,HFa.small.fit.p⟩
 have hl1:=HFa.lo.1
 have hl2:=HFa.lo.2
 clear hok h hN
 unfold Cfg.cells Cnt.cells
 go_enter Tryz.func132,Tryz.ntmps132
 go_wp2_with fail
 refine (mM N _ (by have:=HFa.u;omega) (by have:=HFa.p;omega) HFa.small (HR.up (jY HB0))).mono ?_
 rintro e w1 ⟨M,rfl,hM,hb1,hAM⟩
 have hB:=qI HB0 hb1
 have HL1:=aa (rW hB)
 have HMb:Hid (w.heap.size+3≤(((w.alloc (.cells #[.int .i64 C.p,.int .i64 C.c,.int .i64 C.xo,.int .i64 C.xn,.int .i64 C.hd,.int .i64 C.lo,.int .i64 C.dl] 25)).alloc (.cells #[.slice N.aU N.nU N.cU,.int .i64 N.lo,.slice N.aP N.nP N.cP] 30)).alloc (.cells ag 30)).heap.size):=by rw [Hid];simp
 obtain ⟨aU,nU',cU,u',lo',aP,nP',cP,p'⟩:=M
 obtain ⟨h1,h2,h3,h4,h5⟩:=hAM
 dsimp only at h1 h2 h3 h4 h5
 subst h1 h2 h3 h4 h5
 obtain ⟨hMu,hMp⟩:=hM
 dsimp only at hMu hMp
 rcases hMu with h0 | ⟨gU,rfl,hgU,hrU⟩
 ·
  have:=HFa.u
  omega
 have hVP:VT 4 w1 (w.heap.size+3) aP N.nP (fun i=>.bool (N.p i)):=hMp.mono HMb.out
 have HgU:=aa (Nat.le_trans HMb hgU)
 clear hb1 hMp hgU
 have hA:=(Below.refl w1.heap.size w1).alloc (Nat.le_refl _) (.cells #[.slice (some ⟨gU,0,none⟩) N.nU cU,.int .i64 N.lo,.slice aP N.nP cP] 30)
 have kX:=im w1 (.cells #[.slice (some ⟨gU,0,none⟩) N.nU cU,.int .i64 N.lo,.slice aP N.nP cP] 30)
 have l1:=hrU.lt
 have HgX:Hid (gU≠w1.heap.size):=by show gU≠w1.heap.size;omega
 replace hrU:=hrU.jQ (hA.block _ hrU.lt)
 replace hVP:=hVP.up hA
 replace hB:=qI hB hA
 have cb:=ie (lN hB).1
 clear hA l1
 dsimp only [Cnt.cells]
 go_wp2_with fail
 generalize w1.alloc (.cells #[.slice (some ⟨gU,0,none⟩) N.nU cU,.int .i64 N.lo,.slice aP N.nP cP] 30)=w2 at *
 refine (ov w1.heap.size _ _ N.lo y _ kX (by omega) (by omega)).mono ?_
 rintro e w3 ⟨rfl,kX3,ht3⟩
 have hM3:iN w3 (w.heap.size+3) ⟨some ⟨gU,0,none⟩,N.nU,cU,N.u,N.lo+y,aP,N.nP,cP,N.p⟩:=⟨VT.of HgU (hrU.jQ (ht3.block _ hrU.lt (by have:=HgX.out;simp;omega))),hVP.iu ht3 (fun x hx hy=>by simp at hy;subst hy;exact VT.nf hVP (by decide) kX hx)⟩
 have kC3:=(ht3.block _ (ig (lN hB).1) (by have:=HgU.out;have:=HL1.out;simp;omega)).trans (lN hB).1
 have kR3:=(ht3.block _ (ig (lN hB).2.2) (by have:=HgU.out;have:=HL1.out;simp;omega)).trans (lN hB).2.2
 have B3:=(jY hB).trans (ht3.below (jY hB).size (fun x hx=>by have:=HgU.out;have:=HL1.out;simp at hx;omega))
 clear hB hrU hVP kX ht3 cb
 have cb:=ie kC3
 have cX:=ie kX3
 go_wp2_with fail
 refine (ma C ⟨some ⟨gU,0,none⟩,N.nU,cU,N.u,N.lo+y,aP,N.nP,cP,N.p⟩ _ ⟨HFit.1,HFit.2⟩ hM3.rd ok (HO.trans ⟨fun k=>⟨k.c,k.nU,k.nP,k.lo,k.u⟩,fun k=>⟨k.c,k.nU,k.nP,k.lo,k.u⟩⟩)).mono ?_
 rintro e w4 ⟨rfl,hb4⟩
 have hM4:=hM3.up hb4
 have kX4:=(hb4.block _ (ig kX3)).trans kX3
 have kR4:=(hb4.block _ (ig kR3)).trans kR3
 have B4:=B3.trans (hb4.mono B3.size)
 clear hM3 kX3 kR3 kC3 B3 hb4 cb cX
 have cR:=ie kR4
 have fR:=ix kR4
 have cX:=ie kX4
 cases ok
 · exact dq
 have kz3:=jw kR4 (.slice (some ⟨gU,0,none⟩) N.nU cU) (.int .i64 (N.lo+y)) (.slice aP N.nP cP)
 have HB:Hid (Below w.heap.size w (mB w4 (w.heap.size+1+1) (.slice (some ⟨gU,0,none⟩) N.nU cU) (.int .i64 (N.lo+y)) (.slice aP N.nP cP))):=B4.trans ((iW _ _ _ _ _).below B4.size (fun x hx=>by simp at hx;omega))
 have HM:Hid (iN (mB w4 (w.heap.size+1+1) (.slice (some ⟨gU,0,none⟩) N.nU cU) (.int .i64 (N.lo+y)) (.slice aP N.nP cP)) w.heap.size ⟨some ⟨gU,0,none⟩,N.nU,cU,N.u,N.lo+y,aP,N.nP,cP,N.p⟩):=(nM hM4 kR4).mono (by omega)
 have cB:=ie kz3
 clear kz3 kX4 kR4 B4 hM4
 unfold mB at cB
 go_wp2_with fail
 exact bodyPost_ret (v:=.tuple #[.agg #[.slice (some ⟨gU,0,none⟩) N.nU cU,.int .i64 (N.lo+y),.slice aP N.nP cP],.bool true]) (by simp [results,Tryz.results132,go_sem,cB]) rfl ⟨⟨some ⟨gU,0,none⟩,N.nU,cU,N.u,N.lo+y,aP,N.nP,cP,N.p⟩,rfl,HM,HB,⟨rfl,rfl,rfl,rfl,rfl⟩⟩
theorem pO (C:Cfg) (N:Cnt) (i:Nat) (y:Int) (w:World) (hN:Cnt.Ok C N) (h:my w N) (hi:i<N.nU) (hy1:-5≤y) (hy2:y≤5) (ok:Bool) (hok:ok=true↔Cnt.Ok C (N.qt i y)) :
  Calls Tryz.prog 63 #[.agg C.cells,.agg N.cells,.int .i64 (i:Int),.int .i64 2,.int .i64 y] w fun e w'=>∃ M:Cnt,e=.returned (.tuple #[.agg M.cells,.bool ok])∧iN w' w.heap.size M∧Below w.heap.size w w'∧iR (mF (N.qt i y) ok) M:=by
 have HO:=aa hok
 have HR:=aa h
 have HFa:=aa hN.facts
 have HB0:Hid (Below (w.heap.size+3) (((w.alloc (.cells #[.int .i64 C.p,.int .i64 C.c,.int .i64 C.xo,.int .i64 C.xn,.int .i64 C.hd,.int .i64 C.lo,.int .i64 C.dl] 25)).alloc (.cells #[.slice N.aU N.nU N.cU,.int .i64 N.lo,.slice N.aP N.nP N.cP] 30)).alloc (.cells ag 30)) (((w.alloc (.cells #[.int .i64 C.p,.int .i64 C.c,.int .i64 C.xo,.int .i64 C.xn,.int .i64 C.hd,.int .i64 C.lo,.int .i64 C.dl] 25)).alloc (.cells #[.slice N.aU N.nU N.cU,.int .i64 N.lo,.slice N.aP N.nP N.cP] 30)).alloc (.cells ag 30))):=Below.refl _ _
 have hsm:=HFa.small.u
 have HFit:Hid (N.nU≤maxLen∧N.nP≤maxLen):=⟨HFa.small.fit.u,HFa.small.fit.p⟩
 have hl1:=HFa.lo.1
 have hl2:=HFa.lo.2
 have hu1:=(HFa.at' i hi).1
 have hu2:=(HFa.at' i hi).2
 have hi2:(i:Int)<N.nU:=by omega
 have hnm:(N.nU:Int)≤1048576:=by omega
 clear hok h hN
 unfold Cfg.cells Cnt.cells
 go_enter Tryz.func63,Tryz.ntmps63
 go_wp2_with fail
 refine (oN N _ (by have:=HFa.u;omega) (by have:=HFa.p;omega) HFa.small (HR.up (jY HB0))).mono ?_
 rintro e w1 ⟨M,rfl,hM,hb1,hAM⟩
 have hB:=qI HB0 hb1
 have HL1:=aa (rW hB)
 have HMb:Hid (w.heap.size+3≤(((w.alloc (.cells #[.int .i64 C.p,.int .i64 C.c,.int .i64 C.xo,.int .i64 C.xn,.int .i64 C.hd,.int .i64 C.lo,.int .i64 C.dl] 25)).alloc (.cells #[.slice N.aU N.nU N.cU,.int .i64 N.lo,.slice N.aP N.nP N.cP] 30)).alloc (.cells ag 30)).heap.size):=by rw [Hid];simp
 obtain ⟨aU,nU',cU,u',lo',aP,nP',cP,p'⟩:=M
 obtain ⟨h1,h2,h3,h4,h5⟩:=hAM
 dsimp only at h1 h2 h3 h4 h5
 subst h1 h2 h3 h4 h5
 obtain ⟨hMu,hMp⟩:=hM
 dsimp only at hMu hMp
 rcases hMu with h0 | ⟨gU,rfl,hgU,hrU⟩
 ·
  have:=HFa.u
  omega
 have hVP:VT 4 w1 (w.heap.size+3) aP N.nP (fun i=>.bool (N.p i)):=hMp.mono HMb.out
 have HgU:=aa (Nat.le_trans HMb hgU)
 clear hb1 hMp hgU
 have hA:=(Below.refl w1.heap.size w1).alloc (Nat.le_refl _) (.cells #[.slice (some ⟨gU,0,none⟩) N.nU cU,.int .i64 N.lo,.slice aP N.nP cP] 30)
 have kX:=im w1 (.cells #[.slice (some ⟨gU,0,none⟩) N.nU cU,.int .i64 N.lo,.slice aP N.nP cP] 30)
 have l1:=hrU.lt
 have HgX:Hid (gU≠w1.heap.size):=by show gU≠w1.heap.size;omega
 replace hrU:=hrU.jQ (hA.block _ hrU.lt)
 replace hVP:=hVP.up hA
 replace hB:=qI hB hA
 have cb:=ie (lN hB).1
 clear hA l1
 dsimp only [Cnt.cells]
 have cX:=ie kX
 have e1:IntKind.i64.wrap (N.u i+y)=N.u i+y:=lI _ (by omega) (by omega)
 go_wp2_with fail
 generalize w1.alloc (.cells #[.slice (some ⟨gU,0,none⟩) N.nU cU,.int .i64 N.lo,.slice aP N.nP cP] 30)=w2 at *
 obtain ⟨w3,hw3⟩:∃ w3,w3=(w2.setCell ⟨gU,i,none⟩ (.int .i64 (N.u i+y))).drew:=⟨_,rfl⟩
 have ht3:Touch [gU] w2 w3:=by
  rw [hw3]
  have t:=(Touch.refl [gU] w2).set (g:=gU) (by simp) i (.int .i64 (N.u i+y))
  exact ⟨t.os,t.tape,t.output,t.size,t.block⟩
 have hr3:ja gU 2 N.nU (fun k=>.int .i64 (Go.Proofs.YtjippgbmmlcgoaaGreatDoor.qt N.u i y k)) N.nU w3:=by
  rw [hw3]
  exact ((hrU.wz i (.int .i64 (N.u i+y)) hi).jQ (w':=(w2.setCell ⟨gU,i,none⟩ (.int .i64 (N.u i+y))).drew) rfl).AM (fun j _=>by
   unfold Go.Proofs.YtjippgbmmlcgoaaGreatDoor.qt
   by_cases e:j=i
   ·
    subst e;simp
   ·
    simp [e])
 have kX3:=(ht3.block _ (ig kX) (by have:=HgX.out;simp;omega)).trans kX
 have cX1:=ie kX3
 have c0:w2.drew.cell? ⟨gU,i,none⟩=some (.int .i64 (N.u i)):=hrU.at i hi
 have f0:w2.drew.frozen? ⟨gU,i,none⟩=false:=hrU.free i
 rw [hw3] at cX1
 refine wp_region_held_drew (S:=fun w'=>∀ o,w'.cell? ⟨w1.heap.size,o,none⟩=(#[.slice (some ⟨gU,0,none⟩) N.nU cU,.int .i64 N.lo,.slice aP N.nP cP]:Array Value)[o]?) (by kernel_rfl) cX (fun hHeld=>?_)
 refine t0 ?_
 iterate 6 refine tN ?_
 refine tQ 8 25 ?_
 refine rq1 7 (fun K hK=>?_)
 go_simp
 refine ah (hK _ _ cX) ?_
 intro hHeld
 clear hK K
 refine tQ 9 26 ?_
 refine tQ 10 27 ?_
 refine rq1 11 (fun K hK=>?_)
 go_simp
 refine ah (hK _ _ cX1) ?_
 intro hHeld
 clear hK K
 refine dnq ?_
 rw [←hw3]
 clear hw3 c0 f0 cX cX1 hHeld
 have hM3:iN w3 (w.heap.size+3) ⟨some ⟨gU,0,none⟩,N.nU,cU,Go.Proofs.YtjippgbmmlcgoaaGreatDoor.qt N.u i y,N.lo,aP,N.nP,cP,N.p⟩:=⟨VT.of HgU hr3,hVP.iu ht3 (fun x hx hy=>by simp at hy;subst hy;obtain ⟨arr,hk,_⟩:=hrU;exact VT.nf hVP (by decide) hk hx)⟩
 have kC3:=(ht3.block _ (ig (lN hB).1) (by have:=HgU.out;have:=HL1.out;simp;omega)).trans (lN hB).1
 have kR3:=(ht3.block _ (ig (lN hB).2.2) (by have:=HgU.out;have:=HL1.out;simp;omega)).trans (lN hB).2.2
 have B3:=(jY hB).trans (ht3.below (jY hB).size (fun x hx=>by have:=HgU.out;have:=HL1.out;simp at hx;omega))
 clear hB hrU hVP kX hr3 ht3 cb
 have cb:=ie kC3
 have cX:=ie kX3
 go_wp2_with fail
 refine (nk C ⟨some ⟨gU,0,none⟩,N.nU,cU,Go.Proofs.YtjippgbmmlcgoaaGreatDoor.qt N.u i y,N.lo,aP,N.nP,cP,N.p⟩ _ ⟨HFit.1,HFit.2⟩ hM3.rd ok (HO.trans ⟨fun k=>⟨k.c,k.nU,k.nP,k.lo,k.u⟩,fun k=>⟨k.c,k.nU,k.nP,k.lo,k.u⟩⟩)).mono ?_
 rintro e w4 ⟨rfl,hb4⟩
 have hM4:=hM3.up hb4
 have kX4:=(hb4.block _ (ig kX3)).trans kX3
 have kR4:=(hb4.block _ (ig kR3)).trans kR3
 have B4:=B3.trans (hb4.mono B3.size)
 clear hM3 kX3 kR3 kC3 B3 hb4 cb cX
 have cR:=ie kR4
 have fR:=ix kR4
 have cX:=ie kX4
 cases ok
 · exact dt
 have kz3:=jw kR4 (.slice (some ⟨gU,0,none⟩) N.nU cU) (.int .i64 N.lo) (.slice aP N.nP cP)
 have HB:Hid (Below w.heap.size w (mB w4 (w.heap.size+1+1) (.slice (some ⟨gU,0,none⟩) N.nU cU) (.int .i64 N.lo) (.slice aP N.nP cP))):=B4.trans ((iW _ _ _ _ _).below B4.size (fun x hx=>by simp at hx;omega))
 have HM:Hid (iN (mB w4 (w.heap.size+1+1) (.slice (some ⟨gU,0,none⟩) N.nU cU) (.int .i64 N.lo) (.slice aP N.nP cP)) w.heap.size ⟨some ⟨gU,0,none⟩,N.nU,cU,Go.Proofs.YtjippgbmmlcgoaaGreatDoor.qt N.u i y,N.lo,aP,N.nP,cP,N.p⟩):=(nM hM4 kR4).mono (by omega)
 have cB:=ie kz3
 clear kz3 kX4 kR4 B4 hM4
 unfold mB at cB
 go_wp2_with fail
 exact bodyPost_ret (v:=.tuple #[.agg #[.slice (some ⟨gU,0,none⟩) N.nU cU,.int .i64 N.lo,.slice aP N.nP cP],.bool true]) (by simp [results,Tryz.results63,go_sem,cB]) rfl ⟨⟨some ⟨gU,0,none⟩,N.nU,cU,Go.Proofs.YtjippgbmmlcgoaaGreatDoor.qt N.u i y,N.lo,aP,N.nP,cP,N.p⟩,rfl,HM,HB,⟨rfl,rfl,rfl,rfl,rfl⟩⟩
theorem pP (C:Cfg) (N:Cnt) (port prio:Int) (hne:prio≠2) (y:Int) (w:World) (hN:Cnt.Ok C N) (h:my w N) (hy1:-5≤y) (hy2:y≤5) (ok:Bool) (hok:ok=true↔Cnt.Ok C (N.DT y)) :
  Calls Tryz.prog 63 #[.agg C.cells,.agg N.cells,.int .i64 port,.int .i64 prio,.int .i64 y] w fun e w'=>∃ M:Cnt,e=.returned (.tuple #[.agg M.cells,.bool ok])∧iN w' w.heap.size M∧Below w.heap.size w w'∧iR (mF (N.DT y) ok) M:=by
 have HO:=aa hok
 have HR:=aa h
 have HFa:=aa hN.facts
 have HB0:Hid (Below (w.heap.size+3) (((w.alloc (.cells #[.int .i64 C.p,.int .i64 C.c,.int .i64 C.xo,.int .i64 C.xn,.int .i64 C.hd,.int .i64 C.lo,.int .i64 C.dl] 25)).alloc (.cells #[.slice N.aU N.nU N.cU,.int .i64 N.lo,.slice N.aP N.nP N.cP] 30)).alloc (.cells ag 30)) (((w.alloc (.cells #[.int .i64 C.p,.int .i64 C.c,.int .i64 C.xo,.int .i64 C.xn,.int .i64 C.hd,.int .i64 C.lo,.int .i64 C.dl] 25)).alloc (.cells #[.slice N.aU N.nU N.cU,.int .i64 N.lo,.slice N.aP N.nP N.cP] 30)).alloc (.cells ag 30))):=Below.refl _ _
 have hsm:=HFa.small.u
 have HFit:Hid (N.nU≤maxLen∧N.nP≤maxLen):=⟨HFa.small.fit.u,HFa.small.fit.p⟩
 have hl1:=HFa.lo.1
 have hl2:=HFa.lo.2
 have hne':(prio == 2)=false:=by simpa using hne
 clear hok h hN
 unfold Cfg.cells Cnt.cells
 go_enter Tryz.func63,Tryz.ntmps63
 go_wp2_with fail
 refine (oN N _ (by have:=HFa.u;omega) (by have:=HFa.p;omega) HFa.small (HR.up (jY HB0))).mono ?_
 rintro e w1 ⟨M,rfl,hM,hb1,hAM⟩
 have hB:=qI HB0 hb1
 have HL1:=aa (rW hB)
 have HMb:Hid (w.heap.size+3≤(((w.alloc (.cells #[.int .i64 C.p,.int .i64 C.c,.int .i64 C.xo,.int .i64 C.xn,.int .i64 C.hd,.int .i64 C.lo,.int .i64 C.dl] 25)).alloc (.cells #[.slice N.aU N.nU N.cU,.int .i64 N.lo,.slice N.aP N.nP N.cP] 30)).alloc (.cells ag 30)).heap.size):=by rw [Hid];simp
 obtain ⟨aU,nU',cU,u',lo',aP,nP',cP,p'⟩:=M
 obtain ⟨h1,h2,h3,h4,h5⟩:=hAM
 dsimp only at h1 h2 h3 h4 h5
 subst h1 h2 h3 h4 h5
 obtain ⟨hMu,hMp⟩:=hM
 dsimp only at hMu hMp
 rcases hMu with h0 | ⟨gU,rfl,hgU,hrU⟩
 ·
  have:=HFa.u
  omega
 have hVP:VT 4 w1 (w.heap.size+3) aP N.nP (fun i=>.bool (N.p i)):=hMp.mono HMb.out
 have HgU:=aa (Nat.le_trans HMb hgU)
 clear hb1 hMp hgU
 have hA:=(Below.refl w1.heap.size w1).alloc (Nat.le_refl _) (.cells #[.slice (some ⟨gU,0,none⟩) N.nU cU,.int .i64 (N.lo+y),.slice aP N.nP cP] 30)
 have kX:=im w1 (.cells #[.slice (some ⟨gU,0,none⟩) N.nU cU,.int .i64 (N.lo+y),.slice aP N.nP cP] 30)
 have l1:=hrU.lt
 have HgX:Hid (gU≠w1.heap.size):=by show gU≠w1.heap.size;omega
 replace hrU:=hrU.jQ (hA.block _ hrU.lt)
 replace hVP:=hVP.up hA
 replace hB:=qI hB hA
 have cb:=ie (lN hB).1
 clear hA l1
 dsimp only [Cnt.cells]
 have e1:IntKind.i64.wrap (N.lo+y)=N.lo+y:=lI _ (by omega) (by omega)
 have hM3:iN (w1.alloc (.cells #[.slice (some ⟨gU,0,none⟩) N.nU cU,.int .i64 (N.lo+y),.slice aP N.nP cP] 30)) (w.heap.size+3) ⟨some ⟨gU,0,none⟩,N.nU,cU,N.u,N.lo+y,aP,N.nP,cP,N.p⟩:=⟨VT.of HgU hrU,hVP⟩
 have kX3:=kX
 have kC3:=(lN hB).1
 have kR3:=(lN hB).2.2
 have B3:=jY hB
 clear hB hrU hVP kX cb
 have cb:=ie kC3
 have cX3:=ie kX3
 go_wp2_with fail
 generalize w1.alloc (.cells #[.slice (some ⟨gU,0,none⟩) N.nU cU,.int .i64 (N.lo+y),.slice aP N.nP cP] 30)=w3 at *
 clear cX3
 refine (nk C ⟨some ⟨gU,0,none⟩,N.nU,cU,N.u,N.lo+y,aP,N.nP,cP,N.p⟩ _ ⟨HFit.1,HFit.2⟩ hM3.rd ok (HO.trans ⟨fun k=>⟨k.c,k.nU,k.nP,k.lo,k.u⟩,fun k=>⟨k.c,k.nU,k.nP,k.lo,k.u⟩⟩)).mono ?_
 rintro e w4 ⟨rfl,hb4⟩
 have hM4:=hM3.up hb4
 have kX4:=(hb4.block _ (ig kX3)).trans kX3
 have kR4:=(hb4.block _ (ig kR3)).trans kR3
 have B4:=B3.trans (hb4.mono B3.size)
 clear hM3 kX3 kR3 kC3 B3 hb4 cb
 have cR:=ie kR4
 have fR:=ix kR4
 have cX:=ie kX4
 cases ok
 · exact dt
 have kz3:=jw kR4 (.slice (some ⟨gU,0,none⟩) N.nU cU) (.int .i64 (N.lo+y)) (.slice aP N.nP cP)
 have HB:Hid (Below w.heap.size w (mB w4 (w.heap.size+1+1) (.slice (some ⟨gU,0,none⟩) N.nU cU) (.int .i64 (N.lo+y)) (.slice aP N.nP cP))):=B4.trans ((iW _ _ _ _ _).below B4.size (fun x hx=>by simp at hx;omega))
 have HM:Hid (iN (mB w4 (w.heap.size+1+1) (.slice (some ⟨gU,0,none⟩) N.nU cU) (.int .i64 (N.lo+y)) (.slice aP N.nP cP)) w.heap.size ⟨some ⟨gU,0,none⟩,N.nU,cU,N.u,N.lo+y,aP,N.nP,cP,N.p⟩):=(nM hM4 kR4).mono (by omega)
 have cB:=ie kz3
 clear kz3 kX4 kR4 B4 hM4
 unfold mB at cB
 go_wp2_with fail
 exact bodyPost_ret (v:=.tuple #[.agg #[.slice (some ⟨gU,0,none⟩) N.nU cU,.int .i64 (N.lo+y),.slice aP N.nP cP],.bool true]) (by simp [results,Tryz.results63,go_sem,cB]) rfl ⟨⟨some ⟨gU,0,none⟩,N.nU,cU,N.u,N.lo+y,aP,N.nP,cP,N.p⟩,rfl,HM,HB,⟨rfl,rfl,rfl,rfl,rfl⟩⟩
def lq (N:Cnt) (port prio y:Int):Cnt:=if prio=2 then N.qt port.toNat y else N.DT y
theorem mx {N:Cnt} :lq N (i:Int) 2 y=N.qt i y:=by unfold lq;rw [if_pos rfl,Int.toNat_natCast]
theorem lC {N:Cnt} {port prio:Int} (h:prio≠2):lq N port prio y=N.DT y:=by unfold lq;rw [if_neg h]
theorem qg (C:Cfg) (N:Cnt) (port prio cells:Int) (w:World) (hf:N.Fit) (h:my w N) (ok:Bool) (hok:ok=true↔yn C N port prio cells∧Cnt.Ok C (lq N port prio cells)) :
  Calls Tryz.prog 116 #[.agg C.cells,.agg N.cells,.int .i64 port,.int .i64 prio,.int .i64 cells] w fun e w'=>∃ M:Cnt,e=.returned (.tuple #[.agg M.cells,.bool ok])∧iN w' w.heap.size M∧Below w.heap.size w w'∧iR (mF (lq N port prio cells) ok) M:=by
 obtain ⟨b,hb⟩:=oo (yn C N port prio cells)
 have HO:Hid (ok=true↔yn C N port prio cells∧Cnt.Ok C (lq N port prio cells)):=hok
 have HR:Hid (my w N):=h
 have HF:Hid N.Fit:=hf
 have HCb:Hid (b=true↔yn C N port prio cells):=hb
 have HB0:Hid (Below (w.heap.size+3) (((w.alloc (.cells #[.int .i64 C.p,.int .i64 C.c,.int .i64 C.xo,.int .i64 C.xn,.int .i64 C.hd,.int .i64 C.lo,.int .i64 C.dl] 25)).alloc (.cells #[.slice N.aU N.nU N.cU,.int .i64 N.lo,.slice N.aP N.nP N.cP] 30)).alloc (.cells ag 30)) (((w.alloc (.cells #[.int .i64 C.p,.int .i64 C.c,.int .i64 C.xo,.int .i64 C.xn,.int .i64 C.hd,.int .i64 C.lo,.int .i64 C.dl] 25)).alloc (.cells #[.slice N.aU N.nU N.cU,.int .i64 N.lo,.slice N.aP N.nP N.cP] 30)).alloc (.cells ag 30))):=Below.refl _ _
 clear hok h hf hb
 unfold Cfg.cells
 rw [show N.cells=#[.slice N.aU N.nU N.cU,.int .i64 N.lo,.slice N.aP N.nP N.cP] from rfl]
 go_enter Tryz.func116,Tryz.ntmps116
 go_wp2_with fail
 refine (Ca C N port prio cells _ HF (HR.up (jY HB0)) b HCb).mono ?_
 rintro e w1 ⟨rfl,hb1⟩
 have hB:=qI HB0 hb1
 clear hb1
 cases b
 ·
  have HE:Hid (ok=false):=by
   show ok=false
   rw [Bool.eq_false_iff]
   intro e
   have:=HCb.2 (HO.1 e).1
   cases this
  obtain ⟨kC2,kN2,kR2⟩:=lN hB
  have ht:=iW w1 (w.heap.size+1+1) (.slice none 0 0) (.int .i64 0) (.slice none 0 0)
  have HB:Hid (Below w.heap.size w (mB w1 (w.heap.size+1+1) (.slice none 0 0) (.int .i64 0) (.slice none 0 0))):=(jY hB).trans (ht.below (jY hB).size (fun x hx=>by simp at hx;omega))
  have cB:=ie (jw kR2 (.slice none 0 0) (.int .i64 0) (.slice none 0 0))
  have cR:=ie kR2
  have fR:=ix kR2
  clear ht kC2 kN2 kR2 hB
  unfold mB at cB
  go_wp2_with fail
  have e:=HE.out
  subst e
  exact bodyPost_ret (v:=.tuple #[.agg ag,.bool false]) (by simp [results,Tryz.results116,go_sem,cB]) rfl ⟨vQ,rfl,pJ _ _,HB,iR.refl _⟩
 have HFo:Hid (yn C N port prio cells):=HCb.1 rfl
 clear HCb
 have hc1:=HFo.cells.1
 have hc2:=HFo.cells.2
 obtain ⟨i,hip⟩:∃ i:Nat,port=(i:Int):=⟨port.toNat,by have:=HFo.port;omega⟩
 by_cases hne:prio=2
 ·
  subst hne
  subst hip
  have HE:Hid (ok=true↔Cnt.Ok C (N.qt i cells)):=by
   rw [Hid,HO.out,mx]
   exact ⟨fun k=>k.2,fun k=>⟨HFo,k⟩⟩
  have cb:=ie (lN hB).1
  have cn:=ie (lN hB).2.1
  go_wp2_with fail
  refine wp_region_held_drew (S:=fun w'=>(∀ o,w'.cell? ⟨w.heap.size,o,none⟩=(#[.int .i64 C.p,.int .i64 C.c,.int .i64 C.xo,.int .i64 C.xn,.int .i64 C.hd,.int .i64 C.lo,.int .i64 C.dl]:Array Value)[o]?)∧(∀ o,w'.cell? ⟨w.heap.size+1,o,none⟩=(#[.slice N.aU N.nU N.cU,.int .i64 N.lo,.slice N.aP N.nP N.cP]:Array Value)[o]?)) (by kernel_rfl) ⟨cb,cn⟩ (fun hHeld=>?_)
  refine t0 ?_
  iterate 3 refine tN ?_
  refine tQ 5 25 ?_
  refine rq1 4 (fun K hK=>?_)
  go_simp
  refine (pW _ _).mono ?_
  rintro e w' ⟨rfl,hw⟩
  rw [hw]
  clear hw w'
  go_wp2_with fail
  refine ah (hK _ _ ⟨cb,cn⟩) ?_
  intro hHeld
  clear hK K
  refine rq1 6 (fun K hK=>?_)
  go_simp
  replace hB:=hB.drew
  refine (vw C N i cells _ HFo.ok (HR.up (jY hB)) (by have:=HFo.port;have:=HFo.ok.nU;omega) (by omega) (by omega) ok HE).mono ?_
  rintro e w2 ⟨M,rfl,hM,hb2,hAM⟩
  have HAM:Hid (iR (mF (N.qt i cells) ok) M):=hAM
  have HLb:Hid (w.heap.size+3≤w1.drew.heap.size):=rW hB
  replace hB:=qI hB hb2
  obtain ⟨kC2,kN2,kR2⟩:=lN hB
  replace hM:=hM.mono (base':=w.heap.size) (by have:=HLb.out;omega)
  have ht:=iW w2 (w.heap.size+1+1) (.slice M.aU M.nU M.cU) (.int .i64 M.lo) (.slice M.aP M.nP M.cP)
  have HM:Hid (iN (mB w2 (w.heap.size+1+1) (.slice M.aU M.nU M.cU) (.int .i64 M.lo) (.slice M.aP M.nP M.cP)) w.heap.size M):=nM hM kR2
  have HB:Hid (Below w.heap.size w (mB w2 (w.heap.size+1+1) (.slice M.aU M.nU M.cU) (.int .i64 M.lo) (.slice M.aP M.nP M.cP))):=(jY hB).trans (ht.below (jY hB).size (fun x hx=>by simp at hx;omega))
  have cB:=ie (jw kR2 (.slice M.aU M.nU M.cU) (.int .i64 M.lo) (.slice M.aP M.nP M.cP))
  have cC:=ie ((ht.block _ (ig kC2) (fun hx=>by have:=List.mem_singleton.1 hx;omega)).trans kC2)
  have cN:=ie ((ht.block _ (ig kN2) (fun hx=>by have:=List.mem_singleton.1 hx;omega)).trans kN2)
  have cR:=ie kR2
  have fR:=ix kR2
  have s1:=ie kC2
  have s2:=ie kN2
  clear hM hb2 hAM ht kC2 kN2 kR2 hB
  unfold mB at cB cC cN
  dsimp only [Cnt.cells]
  clear cb cn
  go_wp2_with fail
  refine ah (hK _ _ ⟨s1,s2⟩) ?_
  intro hHeld
  clear hK K
  refine tQ 7 27 ?_
  refine tQ 8 28 ?_
  refine rq1 9 (fun K hK=>?_)
  go_simp
  refine ah (hK _ _ ⟨cC,cN⟩) ?_
  intro hHeld
  clear hK K
  refine rq1 10 (fun K hK=>?_)
  go_simp
  refine ah (hK _ _ ⟨cC,cN⟩) ?_
  intro hHeld
  clear hK K
  refine dnq ?_
  clear cC cN cR fR s1 s2 hHeld
  go_wp2_with fail
  exact bodyPost_ret (v:=.tuple #[.agg M.cells,.bool ok]) (by simp [results,Tryz.results116,go_sem,cB,Cnt.cells]) rfl ⟨M,rfl,HM,HB,by rw [mx];exact HAM⟩
 clear hip
 have HE:Hid (ok=true↔Cnt.Ok C (N.DT cells)):=by
  rw [Hid,HO.out,lC hne]
  exact ⟨fun k=>k.2,fun k=>⟨HFo,k⟩⟩
 have cb:=ie (lN hB).1
 have cn:=ie (lN hB).2.1
 have Hne:Hid (prio≠2):=hne
 clear hne
 go_wp2_with fail
 refine wp_region_held_drew (S:=fun w'=>(∀ o,w'.cell? ⟨w.heap.size,o,none⟩=(#[.int .i64 C.p,.int .i64 C.c,.int .i64 C.xo,.int .i64 C.xn,.int .i64 C.hd,.int .i64 C.lo,.int .i64 C.dl]:Array Value)[o]?)∧(∀ o,w'.cell? ⟨w.heap.size+1,o,none⟩=(#[.slice N.aU N.nU N.cU,.int .i64 N.lo,.slice N.aP N.nP N.cP]:Array Value)[o]?)) (by kernel_rfl) ⟨cb,cn⟩ (fun hHeld=>?_)
 refine t0 ?_
 iterate 3 refine tN ?_
 refine tQ 5 25 ?_
 refine rq1 4 (fun K hK=>?_)
 go_simp
 refine (pn _ _ _ Hne).mono ?_
 rintro e w' ⟨rfl,hw⟩
 rw [hw]
 clear hw w'
 go_wp2_with fail
 refine ah (hK _ _ ⟨cb,cn⟩) ?_
 intro hHeld
 clear hK K
 refine rq1 6 (fun K hK=>?_)
 go_simp
 replace hB:=hB.drew
 refine (vy C N cells _ HFo.ok (HR.up (jY hB)) (by omega) (by omega) ok HE).mono ?_
 rintro e w2 ⟨M,rfl,hM,hb2,hAM⟩
 have HAM:Hid (iR (mF (N.DT cells) ok) M):=hAM
 have HLb:Hid (w.heap.size+3≤w1.drew.heap.size):=rW hB
 replace hB:=qI hB hb2
 obtain ⟨kC2,kN2,kR2⟩:=lN hB
 replace hM:=hM.mono (base':=w.heap.size) (by have:=HLb.out;omega)
 have ht:=iW w2 (w.heap.size+1+1) (.slice M.aU M.nU M.cU) (.int .i64 M.lo) (.slice M.aP M.nP M.cP)
 have HM:Hid (iN (mB w2 (w.heap.size+1+1) (.slice M.aU M.nU M.cU) (.int .i64 M.lo) (.slice M.aP M.nP M.cP)) w.heap.size M):=nM hM kR2
 have HB:Hid (Below w.heap.size w (mB w2 (w.heap.size+1+1) (.slice M.aU M.nU M.cU) (.int .i64 M.lo) (.slice M.aP M.nP M.cP))):=(jY hB).trans (ht.below (jY hB).size (fun x hx=>by simp at hx;omega))
 have cB:=ie (jw kR2 (.slice M.aU M.nU M.cU) (.int .i64 M.lo) (.slice M.aP M.nP M.cP))
 have cC:=ie ((ht.block _ (ig kC2) (fun hx=>by have:=List.mem_singleton.1 hx;omega)).trans kC2)
 have cN:=ie ((ht.block _ (ig kN2) (fun hx=>by have:=List.mem_singleton.1 hx;omega)).trans kN2)
 have cR:=ie kR2
 have fR:=ix kR2
 have s1:=ie kC2
 have s2:=ie kN2
 clear hM hb2 hAM ht kC2 kN2 kR2 hB
 unfold mB at cB cC cN
 dsimp only [Cnt.cells]
 clear cb cn
 go_wp2_with fail
 refine ah (hK _ _ ⟨s1,s2⟩) ?_
 intro hHeld
 clear hK K
 refine tQ 7 27 ?_
 refine tQ 8 28 ?_
 refine rq1 9 (fun K hK=>?_)
 go_simp
 refine ah (hK _ _ ⟨cC,cN⟩) ?_
 intro hHeld
 clear hK K
 refine rq1 10 (fun K hK=>?_)
 go_simp
 refine ah (hK _ _ ⟨cC,cN⟩) ?_
 intro hHeld
 clear hK K
 refine dnq ?_
 clear cC cN cR fR s1 s2 hHeld
 go_wp2_with fail
 exact bodyPost_ret (v:=.tuple #[.agg M.cells,.bool ok]) (by simp [results,Tryz.results116,go_sem,cB,Cnt.cells]) rfl ⟨M,rfl,HM,HB,by rw [lC Hne.out];exact HAM⟩
def zC (N:Cnt):List Nat:=ku N.aU N.nU++ku N.aP N.nP
theorem iN.tbl {N:Cnt} (h:iN w base N):∀ x∈zC N,base≤x∧x<w.heap.size:=by
 intro x hx
 rcases List.mem_append.1 hx with hx | hx
 ·
  exact h.u.blk x hx
 exact h.p.blk x hx
theorem iN.nf {N:Cnt} (h:iN w base N) {g:Nat} {cs:Array Value} {t:TypeId} (h2:2≠t) (h4:4≠t) (hk:w.heap[g]?=some (.cells cs t (0,0))):g∉zC N:=by
 intro hx
 rcases List.mem_append.1 hx with hx | hx
 ·
  exact VT.nf h.u h2 hk hx
 exact VT.nf h.p h4 hk hx
def jh (C:Cfg) (u:Int) (p:Bool):Bool:=if p then decide (C.xn<u) else decide (C.xo≤u)
def flN (C:Cfg) (N:Cnt) (i:Nat):Bool:=!(jh C (N.u i) (N.p i) == N.p i)
def nC (C:Cfg) (N:Cnt) (i:Nat):Cnt:={ N with p:=fun j=>if j=i then jh C (N.u j) (N.p j) else N.p j }
theorem zY (C:Cfg) (N:Cnt) (i:Nat) (w:World) (hU:i<N.nU) (hP:i<N.nP) (hs:N.Small) (h:my w N) :
  Calls Tryz.prog 111 #[.agg C.cells,.agg N.cells,.int .i64 (i:Int)] w fun e w'=>∃ M:Cnt,e=.returned (.tuple #[.agg M.cells,.bool (flN C N i)])∧iN w' w.heap.size M∧Below w.heap.size w w'∧iR (nC C N i) M:=by
 obtain ⟨aU,nU,cU,u,lo,aP,nP,cP,p⟩:=N
 have hU':i<nU:=hU
 have hP':i<nP:=hP
 obtain ⟨gu,qu,ea,hcU⟩:=rd_some h.u (by show 0<nU;omega)
 obtain ⟨gp,qp,eb,hcP⟩:=rd_some h.p (by show 0<nP;omega)
 dsimp only at ea eb hcU hcP
 subst ea eb
 have hs1:nU≤1048576:=hs.u
 have hs2:nP≤1048576:=hs.p
 have hi1:(i:Int)<nU:=by omega
 have hi2:(i:Int)<nP:=by omega
 have hi3:(nU:Int)≤1048576:=by omega
 have hi4:(nP:Int)≤1048576:=by omega
 have cu0:=hcU i hU'
 have cp0:=hcP i hP'
 have HR:Hid (my w (⟨some ⟨gu,qu,none⟩,nU,cU,u,lo,some ⟨gp,qp,none⟩,nP,cP,p⟩:Cnt)):=h
 have HS:Hid (Cnt.Small (⟨some ⟨gu,qu,none⟩,nU,cU,u,lo,some ⟨gp,qp,none⟩,nP,cP,p⟩:Cnt)):=hs
 have HB0:Hid (Below (w.heap.size+3) (((w.alloc (.cells #[.int .i64 C.p,.int .i64 C.c,.int .i64 C.xo,.int .i64 C.xn,.int .i64 C.hd,.int .i64 C.lo,.int .i64 C.dl] 25)).alloc (.cells #[.slice (some ⟨gu,qu,none⟩) nU cU,.int .i64 lo,.slice (some ⟨gp,qp,none⟩) nP cP] 30)).alloc (.cells ag 30)) (((w.alloc (.cells #[.int .i64 C.p,.int .i64 C.c,.int .i64 C.xo,.int .i64 C.xn,.int .i64 C.hd,.int .i64 C.lo,.int .i64 C.dl] 25)).alloc (.cells #[.slice (some ⟨gu,qu,none⟩) nU cU,.int .i64 lo,.slice (some ⟨gp,qp,none⟩) nP cP] 30)).alloc (.cells ag 30))):=Below.refl _ _
 clear hU hP hcU hcP h hs
 unfold flN
 dsimp only
 unfold Cfg.cells
 rw [show Cnt.cells (⟨some ⟨gu,qu,none⟩,nU,cU,u,lo,some ⟨gp,qp,none⟩,nP,cP,p⟩:Cnt)=#[.slice (some ⟨gu,qu,none⟩) nU cU,.int .i64 lo,.slice (some ⟨gp,qp,none⟩) nP cP] from rfl]
 go_enter Tryz.func111,Tryz.ntmps111
 go_wp2_with fail
 refine (oN (⟨some ⟨gu,qu,none⟩,nU,cU,u,lo,some ⟨gp,qp,none⟩,nP,cP,p⟩:Cnt) _ (by show 0<nU;omega) (by show 0<nP;omega) HS (HR.up (jY HB0))).mono ?_
 rintro e w1 ⟨M,rfl,hM,hb1,hAM⟩
 have hB:=qI HB0 hb1
 have HMb:Hid (w.heap.size+3≤(((w.alloc (.cells #[.int .i64 C.p,.int .i64 C.c,.int .i64 C.xo,.int .i64 C.xn,.int .i64 C.hd,.int .i64 C.lo,.int .i64 C.dl] 25)).alloc (.cells #[.slice (some ⟨gu,qu,none⟩) nU cU,.int .i64 lo,.slice (some ⟨gp,qp,none⟩) nP cP] 30)).alloc (.cells ag 30)).heap.size):=by rw [Hid];simp
 obtain ⟨aU,nU',mU,u',lo',aP,nP',mP,p'⟩:=M
 obtain ⟨h1,h2,h3,h4,h5⟩:=hAM
 dsimp only at h1 h2 h3 h4 h5
 subst nU'
 subst u'
 subst lo'
 subst nP'
 subst p'
 obtain ⟨hMu,hMp⟩:=hM
 dsimp only at hMu hMp
 rcases hMu with h0 | ⟨gU,rfl,hgU,hrU⟩
 ·
  omega
 rcases hMp with h0 | ⟨gP,rfl,hgP,hrP⟩
 ·
  omega
 have HgU:Hid (w.heap.size+3≤gU):=Nat.le_trans HMb hgU
 have HgP:Hid (w.heap.size+3≤gP):=Nat.le_trans HMb hgP
 have lU:=hrU.lt
 have lP:=hrP.lt
 have HUP:Hid (gU≠gP):=by
  rintro rfl
  obtain ⟨a1,b1,_⟩:=hrU
  obtain ⟨a2,b2,_⟩:=hrP
  rw [b1] at b2
  simp at b2
 have HPX:Hid (gP<w1.heap.size):=lP
 clear hb1 hgU hgP
 have hA:=(Below.refl w1.heap.size w1).alloc (Nat.le_refl _) (.cells #[.slice (some ⟨gU,0,none⟩) nU mU,.int .i64 lo,.slice (some ⟨gP,0,none⟩) nP mP] 30)
 have kX:=im w1 (.cells #[.slice (some ⟨gU,0,none⟩) nU mU,.int .i64 lo,.slice (some ⟨gP,0,none⟩) nP mP] 30)
 replace hrU:=hrU.jQ (hA.block _ hrU.lt)
 replace hrP:=hrP.jQ (hA.block _ hrP.lt)
 replace hB:=qI hB hA
 clear hA lU lP
 dsimp only [Cnt.cells]
 go_wp2_with fail
 generalize w1.alloc (.cells #[.slice (some ⟨gU,0,none⟩) nU mU,.int .i64 lo,.slice (some ⟨gP,0,none⟩) nP mP] 30)=w2 at *
 obtain ⟨kC,kN,kR⟩:=lN hB
 have B2:=jY hB
 have cb:=ie kC
 have cn:=ie kN
 have cX:=ie kX
 have cu:=(B2.cell (p:=⟨gu,qu+i,none⟩) (kQ cu0)).trans cu0
 have cp:=(B2.cell (p:=⟨gp,qp+i,none⟩) (kQ cp0)).trans cp0
 have HNP:Hid (gp≠gP):=by show gp≠gP;have:=kQ cp0;have:=HgP.out;simp at *;omega
 have HB2:Hid (Below w.heap.size w w2):=B2
 clear hB cu0 cp0 B2
 by_cases hpi:p i=true
 ·
  rw [hpi] at cp
  by_cases hc:u i≤C.xn
  ·
   have hc':decide (u i≤C.xn)=true:=decide_eq_true hc
   have HV:Hid (jh C (u i) true=false):=by rw [Hid];simp [jh];omega
   refine wp_region_held_drew (S:=fun w'=>(∀ o,w'.cell? ⟨w.heap.size,o,none⟩=(#[.int .i64 C.p,.int .i64 C.c,.int .i64 C.xo,.int .i64 C.xn,.int .i64 C.hd,.int .i64 C.lo,.int .i64 C.dl]:Array Value)[o]?)∧(∀ o,w'.cell? ⟨w.heap.size+1,o,none⟩=(#[.slice (some ⟨gu,qu,none⟩) nU cU,.int .i64 lo,.slice (some ⟨gp,qp,none⟩) nP cP]:Array Value)[o]?)∧w'.cell? ⟨gu,qu+i,none⟩=some (.int .i64 (u i))∧w'.cell? ⟨gp,qp+i,none⟩=some (.bool true)) (by kernel_rfl) ⟨cb,cn,cu,cp⟩ (fun hHeld=>?_)
   refine t0 ?_
   iterate 6 refine tN ?_
   iterate 8 refine sN ?_
   iterate 18 refine tN ?_
   refine dnq ?_
   clear hHeld
   have cn2:∀ o,w2.drew.cell? ⟨w.heap.size+1,o,none⟩=(#[.slice (some ⟨gu,qu,none⟩) nU cU,.int .i64 lo,.slice (some ⟨gp,qp,none⟩) nP cP]:Array Value)[o]?:=cn
   have cX2:∀ o,w2.drew.cell? ⟨w1.heap.size,o,none⟩=(#[.slice (some ⟨gU,0,none⟩) nU mU,.int .i64 lo,.slice (some ⟨gP,0,none⟩) nP mP]:Array Value)[o]?:=cX
   have cp2:w2.drew.cell? ⟨gp,qp+i,none⟩=some (.bool true):=cp
   have rPd:ja gP 4 nP (fun i=>.bool (p i)) nP w2.drew:=hrP.jQ rfl
   have rUd:ja gU 2 nU (fun i=>.int .i64 (u i)) nU w2.drew:=hrU.jQ rfl
   have kRd:w2.drew.heap[w.heap.size+1+1]?=some (.cells ag 30 (0,0)):=kR
   have kNd:w2.drew.heap[w.heap.size+1]?=some (.cells #[.slice (some ⟨gu,qu,none⟩) nU cU,.int .i64 lo,.slice (some ⟨gp,qp,none⟩) nP cP] 30 (0,0)):=kN
   have kXd:w2.drew.heap[w1.heap.size]?=some (.cells #[.slice (some ⟨gU,0,none⟩) nU mU,.int .i64 lo,.slice (some ⟨gP,0,none⟩) nP mP] 30 (0,0)):=kX
   have HBd:Hid (Below w.heap.size w w2.drew):=HB2.drew
   clear kC kN kR kX hrU hrP cb cn cu cp cX HB2
   generalize w2.drew=wd at *
   go_wp2_with fail
   have hd:Touch [] wd wd.drew:=⟨rfl,rfl,rfl,Nat.le_refl _,fun _ _ _=>rfl⟩
   have cn2:∀ o,wd.drew.cell? ⟨w.heap.size+1,o,none⟩=(#[.slice (some ⟨gu,qu,none⟩) nU cU,.int .i64 lo,.slice (some ⟨gp,qp,none⟩) nP cP]:Array Value)[o]?:=cn2
   have cX2:∀ o,wd.drew.cell? ⟨w1.heap.size,o,none⟩=(#[.slice (some ⟨gU,0,none⟩) nU mU,.int .i64 lo,.slice (some ⟨gP,0,none⟩) nP mP]:Array Value)[o]?:=cX2
   have cp2:wd.drew.cell? ⟨gp,qp+i,none⟩=some (.bool true):=cp2
   obtain ⟨v0,hv0⟩:=rPd.there i hP'
   have f0:=rPd.free i
   have hp9:=HgP.out
   have hx9:=HPX.out
   have hn9:=HNP.out
   have cn3:∀ o,(wd.setCell ⟨gP,i,none⟩ (.bool false)).drew.cell? ⟨w.heap.size+1,o,none⟩=(#[.slice (some ⟨gu,qu,none⟩) nU cU,.int .i64 lo,.slice (some ⟨gp,qp,none⟩) nP cP]:Array Value)[o]?:=ie ((iE (w:=wd) (i:=i) (show w.heap.size+1≠gP by omega) (.bool false)).trans kNd)
   have cX3:∀ o,(wd.setCell ⟨gP,i,none⟩ (.bool false)).drew.cell? ⟨w1.heap.size,o,none⟩=(#[.slice (some ⟨gU,0,none⟩) nU mU,.int .i64 lo,.slice (some ⟨gP,0,none⟩) nP mP]:Array Value)[o]?:=ie ((iE (w:=wd) (i:=i) (show w1.heap.size≠gP by omega) (.bool false)).trans kXd)
   have cp3:(wd.setCell ⟨gP,i,none⟩ (.bool false)).drew.cell? ⟨gp,qp+i,none⟩=some (.bool true):=(World.cell?_of_block (w:=wd) (a:=⟨gp,qp+i,none⟩) (iE (w:=wd) (i:=i) hn9 (.bool false))).trans cp2
   refine wp_region_held_drew (S:=fun w'=>(∀ o,w'.cell? ⟨w.heap.size+1,o,none⟩=(#[.slice (some ⟨gu,qu,none⟩) nU cU,.int .i64 lo,.slice (some ⟨gp,qp,none⟩) nP cP]:Array Value)[o]?)∧(∀ o,w'.cell? ⟨w1.heap.size,o,none⟩=(#[.slice (some ⟨gU,0,none⟩) nU mU,.int .i64 lo,.slice (some ⟨gP,0,none⟩) nP mP]:Array Value)[o]?)∧w'.cell? ⟨gp,qp+i,none⟩=some (.bool true)) (by kernel_rfl) ⟨cn2,cX2,cp2⟩ (fun hHeld=>?_)
   refine t0 ?_
   iterate 9 refine tN ?_
   refine rq1 10 (fun K hK=>?_)
   go_simp
   refine ah (hK _ _ ⟨cn3,cX3,cp3⟩) ?_
   intro hHeld
   clear hK K
   refine dnq ?_
   clear hHeld cn2 cX2 cp2 cn3 cp3 hv0 f0
   have kRs:(wd.setCell ⟨gP,i,none⟩ (.bool false)).drew.heap[w.heap.size+1+1]?=some (.cells ag 30 (0,0)):=(iE (w:=wd) (i:=i) (show w.heap.size+1+1≠gP by omega) (.bool false)).trans kRd
   have rPs:ja gP 4 nP (fun j=>.bool (if j=i then jh C (u j) (p j) else p j)) nP (wd.setCell ⟨gP,i,none⟩ (.bool false)).drew:=((rPd.wz i (.bool false) hP').AM (fun j _=>by
    by_cases e:j=i
    ·
     subst e
     rw [if_pos rfl,if_pos rfl,hpi,HV.out]
    ·
     rw [if_neg e,if_neg e])).jQ rfl
   have rUs:ja gU 2 nU (fun i=>.int .i64 (u i)) nU (wd.setCell ⟨gP,i,none⟩ (.bool false)).drew:=rUd.jQ (iE (w:=wd) (i:=i) (fun e=>HUP e) (.bool false))
   have HBs:Hid (Below w.heap.size w (wd.setCell ⟨gP,i,none⟩ (.bool false)).drew):=(HBd.setCell (by show w.heap.size≤gP;omega) _).drew
   clear kRd kNd kXd rPd rUd hd hp9 hx9 hn9
   generalize (wd.setCell ⟨gP,i,none⟩ (.bool false)).drew=we at *
   have ht:=iW we (w.heap.size+1+1) (.slice (some ⟨gU,0,none⟩) nU mU) (.int .i64 lo) (.slice (some ⟨gP,0,none⟩) nP mP)
   have hO:iN we w.heap.size ⟨some ⟨gU,0,none⟩,nU,mU,u,lo,some ⟨gP,0,none⟩,nP,mP,fun j=>if j=i then jh C (u j) (p j) else p j⟩:=⟨VT.of (by have:=HgU.out;omega) rUs,VT.of (by have:=HgP.out;omega) rPs⟩
   have HO:Hid (iN (mB we (w.heap.size+1+1) (.slice (some ⟨gU,0,none⟩) nU mU) (.int .i64 lo) (.slice (some ⟨gP,0,none⟩) nP mP)) w.heap.size ⟨some ⟨gU,0,none⟩,nU,mU,u,lo,some ⟨gP,0,none⟩,nP,mP,fun j=>if j=i then jh C (u j) (p j) else p j⟩):=nM hO kRs
   have HB:Hid (Below w.heap.size w (mB we (w.heap.size+1+1) (.slice (some ⟨gU,0,none⟩) nU mU) (.int .i64 lo) (.slice (some ⟨gP,0,none⟩) nP mP))):=HBs.trans (ht.below HBs.size (fun x hx=>by have:=List.mem_singleton.1 hx;omega))
   have cB:=ie (jw kRs (.slice (some ⟨gU,0,none⟩) nU mU) (.int .i64 lo) (.slice (some ⟨gP,0,none⟩) nP mP))
   have cR:=ie kRs
   have fR:=ix kRs
   clear ht hO kRs rPs rUs
   unfold mB at cB
   go_wp2_with fail
   exact bodyPost_ret (v:=.tuple #[.agg #[.slice (some ⟨gU,0,none⟩) nU mU,.int .i64 lo,.slice (some ⟨gP,0,none⟩) nP mP],.bool true]) (by simp [results,Tryz.results111,go_sem,cB]) rfl ⟨⟨some ⟨gU,0,none⟩,nU,mU,u,lo,some ⟨gP,0,none⟩,nP,mP,fun j=>if j=i then jh C (u j) (p j) else p j⟩,by first | (rw [hpi,HV.out];rfl) | (rw [HV.out];rfl) | rfl | simp [Cnt.cells],HO,HB,⟨rfl,rfl,rfl,rfl,rfl⟩⟩
  have hc':decide (u i≤C.xn)=false:=decide_eq_false hc
  have HV:Hid (jh C (u i) true=true):=by rw [Hid];simp [jh];omega
  refine wp_region_held_drew (S:=fun w'=>(∀ o,w'.cell? ⟨w.heap.size,o,none⟩=(#[.int .i64 C.p,.int .i64 C.c,.int .i64 C.xo,.int .i64 C.xn,.int .i64 C.hd,.int .i64 C.lo,.int .i64 C.dl]:Array Value)[o]?)∧(∀ o,w'.cell? ⟨w.heap.size+1,o,none⟩=(#[.slice (some ⟨gu,qu,none⟩) nU cU,.int .i64 lo,.slice (some ⟨gp,qp,none⟩) nP cP]:Array Value)[o]?)∧w'.cell? ⟨gu,qu+i,none⟩=some (.int .i64 (u i))∧w'.cell? ⟨gp,qp+i,none⟩=some (.bool true)) (by kernel_rfl) ⟨cb,cn,cu,cp⟩ (fun hHeld=>?_)
  refine t0 ?_
  iterate 6 refine tN ?_
  iterate 8 refine sN ?_
  iterate 18 refine tN ?_
  refine dnq ?_
  clear hHeld
  have ht:=iW w2.drew (w.heap.size+1+1) (.slice (some ⟨gU,0,none⟩) nU mU) (.int .i64 lo) (.slice (some ⟨gP,0,none⟩) nP mP)
  have kRd:w2.drew.heap[w.heap.size+1+1]?=some (.cells ag 30 (0,0)):=kR
  have hO:iN w2.drew w.heap.size ⟨some ⟨gU,0,none⟩,nU,mU,u,lo,some ⟨gP,0,none⟩,nP,mP,fun j=>if j=i then jh C (u j) (p j) else p j⟩:=⟨VT.of (by have:=HgU.out;omega) (hrU.jQ (w':=w2.drew) rfl),VT.of (by have:=HgP.out;omega) ((hrP.jQ (w':=w2.drew) rfl).AM (fun j _=>by
   show Value.bool (p j)=Value.bool (if j=i then jh C (u j) (p j) else p j)
   by_cases e:j=i
   ·
    subst e
    rw [if_pos rfl,hpi,HV.out]
   ·
    rw [if_neg e]))⟩
  have HO:Hid (iN (mB w2.drew (w.heap.size+1+1) (.slice (some ⟨gU,0,none⟩) nU mU) (.int .i64 lo) (.slice (some ⟨gP,0,none⟩) nP mP)) w.heap.size ⟨some ⟨gU,0,none⟩,nU,mU,u,lo,some ⟨gP,0,none⟩,nP,mP,fun j=>if j=i then jh C (u j) (p j) else p j⟩):=nM hO kRd
  have HB:Hid (Below w.heap.size w (mB w2.drew (w.heap.size+1+1) (.slice (some ⟨gU,0,none⟩) nU mU) (.int .i64 lo) (.slice (some ⟨gP,0,none⟩) nP mP))):=HB2.drew.trans (ht.below HB2.drew.size (fun x hx=>by have:=List.mem_singleton.1 hx;omega))
  have cB:=ie (jw kRd (.slice (some ⟨gU,0,none⟩) nU mU) (.int .i64 lo) (.slice (some ⟨gP,0,none⟩) nP mP))
  have cR:=ie kRd
  have fR:=ix kRd
  have cXd:∀ o,w2.drew.cell? ⟨w1.heap.size,o,none⟩=(#[.slice (some ⟨gU,0,none⟩) nU mU,.int .i64 lo,.slice (some ⟨gP,0,none⟩) nP mP]:Array Value)[o]?:=cX
  clear ht hO kRd kR kC kN kX hrU hrP cb cn cu cp cX
  unfold mB at cB
  generalize w2.drew=wd at *
  go_wp2_with fail
  exact bodyPost_ret (v:=.tuple #[.agg #[.slice (some ⟨gU,0,none⟩) nU mU,.int .i64 lo,.slice (some ⟨gP,0,none⟩) nP mP],.bool false]) (by simp [results,Tryz.results111,go_sem,cB]) rfl ⟨⟨some ⟨gU,0,none⟩,nU,mU,u,lo,some ⟨gP,0,none⟩,nP,mP,fun j=>if j=i then jh C (u j) (p j) else p j⟩,by first | (rw [hpi,HV.out];rfl) | (rw [HV.out];rfl) | rfl | simp [Cnt.cells],HO,HB,⟨rfl,rfl,rfl,rfl,rfl⟩⟩
 have hpf:p i=false:=by simpa using hpi
 rw [hpf] at cp
 by_cases hc:C.xo≤u i
 ·
  have hc':decide (C.xo≤u i)=true:=decide_eq_true hc
  have HV:Hid (jh C (u i) false=true):=by rw [Hid];simp [jh];omega
  refine wp_region_held_drew (S:=fun w'=>(∀ o,w'.cell? ⟨w.heap.size,o,none⟩=(#[.int .i64 C.p,.int .i64 C.c,.int .i64 C.xo,.int .i64 C.xn,.int .i64 C.hd,.int .i64 C.lo,.int .i64 C.dl]:Array Value)[o]?)∧(∀ o,w'.cell? ⟨w.heap.size+1,o,none⟩=(#[.slice (some ⟨gu,qu,none⟩) nU cU,.int .i64 lo,.slice (some ⟨gp,qp,none⟩) nP cP]:Array Value)[o]?)∧w'.cell? ⟨gu,qu+i,none⟩=some (.int .i64 (u i))∧w'.cell? ⟨gp,qp+i,none⟩=some (.bool false)) (by kernel_rfl) ⟨cb,cn,cu,cp⟩ (fun hHeld=>?_)
  refine t0 ?_
  iterate 16 refine tN ?_
  iterate 15 refine sN ?_
  refine tN ?_
  refine dnq ?_
  clear hHeld
  have cn2:∀ o,w2.drew.cell? ⟨w.heap.size+1,o,none⟩=(#[.slice (some ⟨gu,qu,none⟩) nU cU,.int .i64 lo,.slice (some ⟨gp,qp,none⟩) nP cP]:Array Value)[o]?:=cn
  have cX2:∀ o,w2.drew.cell? ⟨w1.heap.size,o,none⟩=(#[.slice (some ⟨gU,0,none⟩) nU mU,.int .i64 lo,.slice (some ⟨gP,0,none⟩) nP mP]:Array Value)[o]?:=cX
  have cp2:w2.drew.cell? ⟨gp,qp+i,none⟩=some (.bool false):=cp
  have rPd:ja gP 4 nP (fun i=>.bool (p i)) nP w2.drew:=hrP.jQ rfl
  have rUd:ja gU 2 nU (fun i=>.int .i64 (u i)) nU w2.drew:=hrU.jQ rfl
  have kRd:w2.drew.heap[w.heap.size+1+1]?=some (.cells ag 30 (0,0)):=kR
  have kNd:w2.drew.heap[w.heap.size+1]?=some (.cells #[.slice (some ⟨gu,qu,none⟩) nU cU,.int .i64 lo,.slice (some ⟨gp,qp,none⟩) nP cP] 30 (0,0)):=kN
  have kXd:w2.drew.heap[w1.heap.size]?=some (.cells #[.slice (some ⟨gU,0,none⟩) nU mU,.int .i64 lo,.slice (some ⟨gP,0,none⟩) nP mP] 30 (0,0)):=kX
  have HBd:Hid (Below w.heap.size w w2.drew):=HB2.drew
  clear kC kN kR kX hrU hrP cb cn cu cp cX HB2
  generalize w2.drew=wd at *
  go_wp2_with fail
  have hd:Touch [] wd wd.drew:=⟨rfl,rfl,rfl,Nat.le_refl _,fun _ _ _=>rfl⟩
  have cn2:∀ o,wd.drew.cell? ⟨w.heap.size+1,o,none⟩=(#[.slice (some ⟨gu,qu,none⟩) nU cU,.int .i64 lo,.slice (some ⟨gp,qp,none⟩) nP cP]:Array Value)[o]?:=cn2
  have cX2:∀ o,wd.drew.cell? ⟨w1.heap.size,o,none⟩=(#[.slice (some ⟨gU,0,none⟩) nU mU,.int .i64 lo,.slice (some ⟨gP,0,none⟩) nP mP]:Array Value)[o]?:=cX2
  have cp2:wd.drew.cell? ⟨gp,qp+i,none⟩=some (.bool false):=cp2
  obtain ⟨v0,hv0⟩:=rPd.there i hP'
  have f0:=rPd.free i
  have hp9:=HgP.out
  have hx9:=HPX.out
  have hn9:=HNP.out
  have cn3:∀ o,(wd.setCell ⟨gP,i,none⟩ (.bool true)).drew.cell? ⟨w.heap.size+1,o,none⟩=(#[.slice (some ⟨gu,qu,none⟩) nU cU,.int .i64 lo,.slice (some ⟨gp,qp,none⟩) nP cP]:Array Value)[o]?:=ie ((iE (w:=wd) (i:=i) (show w.heap.size+1≠gP by omega) (.bool true)).trans kNd)
  have cX3:∀ o,(wd.setCell ⟨gP,i,none⟩ (.bool true)).drew.cell? ⟨w1.heap.size,o,none⟩=(#[.slice (some ⟨gU,0,none⟩) nU mU,.int .i64 lo,.slice (some ⟨gP,0,none⟩) nP mP]:Array Value)[o]?:=ie ((iE (w:=wd) (i:=i) (show w1.heap.size≠gP by omega) (.bool true)).trans kXd)
  have cp3:(wd.setCell ⟨gP,i,none⟩ (.bool true)).drew.cell? ⟨gp,qp+i,none⟩=some (.bool false):=(World.cell?_of_block (w:=wd) (a:=⟨gp,qp+i,none⟩) (iE (w:=wd) (i:=i) hn9 (.bool true))).trans cp2
  refine wp_region_held_drew (S:=fun w'=>(∀ o,w'.cell? ⟨w.heap.size+1,o,none⟩=(#[.slice (some ⟨gu,qu,none⟩) nU cU,.int .i64 lo,.slice (some ⟨gp,qp,none⟩) nP cP]:Array Value)[o]?)∧(∀ o,w'.cell? ⟨w1.heap.size,o,none⟩=(#[.slice (some ⟨gU,0,none⟩) nU mU,.int .i64 lo,.slice (some ⟨gP,0,none⟩) nP mP]:Array Value)[o]?)∧w'.cell? ⟨gp,qp+i,none⟩=some (.bool false)) (by kernel_rfl) ⟨cn2,cX2,cp2⟩ (fun hHeld=>?_)
  refine t0 ?_
  iterate 9 refine tN ?_
  refine rq1 10 (fun K hK=>?_)
  go_simp
  refine ah (hK _ _ ⟨cn3,cX3,cp3⟩) ?_
  intro hHeld
  clear hK K
  refine dnq ?_
  clear hHeld cn2 cX2 cp2 cn3 cp3 hv0 f0
  have kRs:(wd.setCell ⟨gP,i,none⟩ (.bool true)).drew.heap[w.heap.size+1+1]?=some (.cells ag 30 (0,0)):=(iE (w:=wd) (i:=i) (show w.heap.size+1+1≠gP by omega) (.bool true)).trans kRd
  have rPs:ja gP 4 nP (fun j=>.bool (if j=i then jh C (u j) (p j) else p j)) nP (wd.setCell ⟨gP,i,none⟩ (.bool true)).drew:=((rPd.wz i (.bool true) hP').AM (fun j _=>by
   by_cases e:j=i
   ·
    subst e
    rw [if_pos rfl,if_pos rfl,hpf,HV.out]
   ·
    rw [if_neg e,if_neg e])).jQ rfl
  have rUs:ja gU 2 nU (fun i=>.int .i64 (u i)) nU (wd.setCell ⟨gP,i,none⟩ (.bool true)).drew:=rUd.jQ (iE (w:=wd) (i:=i) (fun e=>HUP e) (.bool true))
  have HBs:Hid (Below w.heap.size w (wd.setCell ⟨gP,i,none⟩ (.bool true)).drew):=(HBd.setCell (by show w.heap.size≤gP;omega) _).drew
  clear kRd kNd kXd rPd rUd hd hp9 hx9 hn9
  generalize (wd.setCell ⟨gP,i,none⟩ (.bool true)).drew=we at *
  have ht:=iW we (w.heap.size+1+1) (.slice (some ⟨gU,0,none⟩) nU mU) (.int .i64 lo) (.slice (some ⟨gP,0,none⟩) nP mP)
  have hO:iN we w.heap.size ⟨some ⟨gU,0,none⟩,nU,mU,u,lo,some ⟨gP,0,none⟩,nP,mP,fun j=>if j=i then jh C (u j) (p j) else p j⟩:=⟨VT.of (by have:=HgU.out;omega) rUs,VT.of (by have:=HgP.out;omega) rPs⟩
  have HO:Hid (iN (mB we (w.heap.size+1+1) (.slice (some ⟨gU,0,none⟩) nU mU) (.int .i64 lo) (.slice (some ⟨gP,0,none⟩) nP mP)) w.heap.size ⟨some ⟨gU,0,none⟩,nU,mU,u,lo,some ⟨gP,0,none⟩,nP,mP,fun j=>if j=i then jh C (u j) (p j) else p j⟩):=nM hO kRs
  have HB:Hid (Below w.heap.size w (mB we (w.heap.size+1+1) (.slice (some ⟨gU,0,none⟩) nU mU) (.int .i64 lo) (.slice (some ⟨gP,0,none⟩) nP mP))):=HBs.trans (ht.below HBs.size (fun x hx=>by have:=List.mem_singleton.1 hx;omega))
  have cB:=ie (jw kRs (.slice (some ⟨gU,0,none⟩) nU mU) (.int .i64 lo) (.slice (some ⟨gP,0,none⟩) nP mP))
  have cR:=ie kRs
  have fR:=ix kRs
  clear ht hO kRs rPs rUs
  unfold mB at cB
  go_wp2_with fail
  exact bodyPost_ret (v:=.tuple #[.agg #[.slice (some ⟨gU,0,none⟩) nU mU,.int .i64 lo,.slice (some ⟨gP,0,none⟩) nP mP],.bool true]) (by simp [results,Tryz.results111,go_sem,cB]) rfl ⟨⟨some ⟨gU,0,none⟩,nU,mU,u,lo,some ⟨gP,0,none⟩,nP,mP,fun j=>if j=i then jh C (u j) (p j) else p j⟩,by first | (rw [hpf,HV.out];rfl) | (rw [HV.out];rfl) | rfl | simp [Cnt.cells],HO,HB,⟨rfl,rfl,rfl,rfl,rfl⟩⟩
 have hc':decide (C.xo≤u i)=false:=decide_eq_false hc
 have HV:Hid (jh C (u i) false=false):=by rw [Hid];simp [jh];omega
 refine wp_region_held_drew (S:=fun w'=>(∀ o,w'.cell? ⟨w.heap.size,o,none⟩=(#[.int .i64 C.p,.int .i64 C.c,.int .i64 C.xo,.int .i64 C.xn,.int .i64 C.hd,.int .i64 C.lo,.int .i64 C.dl]:Array Value)[o]?)∧(∀ o,w'.cell? ⟨w.heap.size+1,o,none⟩=(#[.slice (some ⟨gu,qu,none⟩) nU cU,.int .i64 lo,.slice (some ⟨gp,qp,none⟩) nP cP]:Array Value)[o]?)∧w'.cell? ⟨gu,qu+i,none⟩=some (.int .i64 (u i))∧w'.cell? ⟨gp,qp+i,none⟩=some (.bool false)) (by kernel_rfl) ⟨cb,cn,cu,cp⟩ (fun hHeld=>?_)
 refine t0 ?_
 iterate 22 refine tN ?_
 iterate 8 refine sN ?_
 iterate 2 refine tN ?_
 refine dnq ?_
 clear hHeld
 have ht:=iW w2.drew (w.heap.size+1+1) (.slice (some ⟨gU,0,none⟩) nU mU) (.int .i64 lo) (.slice (some ⟨gP,0,none⟩) nP mP)
 have kRd:w2.drew.heap[w.heap.size+1+1]?=some (.cells ag 30 (0,0)):=kR
 have hO:iN w2.drew w.heap.size ⟨some ⟨gU,0,none⟩,nU,mU,u,lo,some ⟨gP,0,none⟩,nP,mP,fun j=>if j=i then jh C (u j) (p j) else p j⟩:=⟨VT.of (by have:=HgU.out;omega) (hrU.jQ (w':=w2.drew) rfl),VT.of (by have:=HgP.out;omega) ((hrP.jQ (w':=w2.drew) rfl).AM (fun j _=>by
  show Value.bool (p j)=Value.bool (if j=i then jh C (u j) (p j) else p j)
  by_cases e:j=i
  ·
   subst e
   rw [if_pos rfl,hpf,HV.out]
  ·
   rw [if_neg e]))⟩
 have HO:Hid (iN (mB w2.drew (w.heap.size+1+1) (.slice (some ⟨gU,0,none⟩) nU mU) (.int .i64 lo) (.slice (some ⟨gP,0,none⟩) nP mP)) w.heap.size ⟨some ⟨gU,0,none⟩,nU,mU,u,lo,some ⟨gP,0,none⟩,nP,mP,fun j=>if j=i then jh C (u j) (p j) else p j⟩):=nM hO kRd
 have HB:Hid (Below w.heap.size w (mB w2.drew (w.heap.size+1+1) (.slice (some ⟨gU,0,none⟩) nU mU) (.int .i64 lo) (.slice (some ⟨gP,0,none⟩) nP mP))):=HB2.drew.trans (ht.below HB2.drew.size (fun x hx=>by have:=List.mem_singleton.1 hx;omega))
 have cB:=ie (jw kRd (.slice (some ⟨gU,0,none⟩) nU mU) (.int .i64 lo) (.slice (some ⟨gP,0,none⟩) nP mP))
 have cR:=ie kRd
 have fR:=ix kRd
 have cXd:∀ o,w2.drew.cell? ⟨w1.heap.size,o,none⟩=(#[.slice (some ⟨gU,0,none⟩) nU mU,.int .i64 lo,.slice (some ⟨gP,0,none⟩) nP mP]:Array Value)[o]?:=cX
 clear ht hO kRd kR kC kN kX hrU hrP cb cn cu cp cX
 unfold mB at cB
 generalize w2.drew=wd at *
 go_wp2_with fail
 exact bodyPost_ret (v:=.tuple #[.agg #[.slice (some ⟨gU,0,none⟩) nU mU,.int .i64 lo,.slice (some ⟨gP,0,none⟩) nP mP],.bool false]) (by simp [results,Tryz.results111,go_sem,cB]) rfl ⟨⟨some ⟨gU,0,none⟩,nU,mU,u,lo,some ⟨gP,0,none⟩,nP,mP,fun j=>if j=i then jh C (u j) (p j) else p j⟩,by first | (rw [hpf,HV.out];rfl) | (rw [HV.out];rfl) | rfl | simp [Cnt.cells],HO,HB,⟨rfl,rfl,rfl,rfl,rfl⟩⟩
theorem lu.rows {k:Nat} {R':Rnd} {c:Nat} (h:lu k R R' c s):R.L c≠0∧s=R.z c 0∧R'.L=oY R.L c (R.L c-1)∧R'.z=tJ R.z c (fun j=>R.z c (j+1))∧R'.q=R.q∧R'.nQ=R.nQ:=by
 induction h with
 | skip h0 _ ih=>exact ih
 | short h0 h1 _ ih =>
  rename_i R0 _ _ _ _
  have e1:(iU (iJ R0)).L=R0.L:=rM R0
  have e2:(iU (iJ R0)).z=R0.z:=vz R0
  have e3:(iU (iJ R0)).q=R0.q:=zc R0
  have e4:(iU (iJ R0)).nQ=R0.nQ:=jU R0
  rw [e1,e2,e3,e4] at ih
  exact ih
 | take h0 h1 =>
  rename_i R0
  refine ⟨h0,rfl,?_,?_,?_,?_⟩
  ·
   unfold mT;split <;> (show oY (iJ R0).L (iJ R0).now _=_;rw [rM,jP])
  ·
   unfold mT;split <;> (show tJ (iJ R0).z (iJ R0).now _=_;rw [vz,jP])
  ·
   unfold mT;split <;> exact zc R0
  unfold mT;split <;> exact jU R0
def GW (b:Bool):Pkt:=⟨0,0,0,if b then 2 else 3,0,0,2,⟨#[]⟩⟩
def px (C:Cfg) (N:Cnt) (i:Nat):List Pkt:=if flN C N i=true then [GW (jh C (N.u i) (N.p i))] else []
def Lng.E7 (l:Lng):Lng:={ l with nT:=l.nT-1,t:=fun i=>l.t (i+1) }
def Lng.F0 (l:Lng) (c:Nat) (M:Rnd):Lng:={ l with uL:=oY l.uL c (l.uL c-1),uz:=tJ l.uz c (fun j=>l.uz c (j+1)),R:=M }
def sX (l l':Lng) (id:Int):Prop :=
 (0<l.nT∧l.st=false∧id=l.t 0∧l'=l.E7) ∨
 (¬ (0<l.nT∧l.st=false)∧∃ M x s,xD l.R M x s∧((x=-1∧id=0∧l'={ l with R:=M })∨∃ c:Nat,x=(c:Int)∧id=l.uz c 0∧l'=l.F0 c M))
theorem Ex (l:Lng):∃ l' id,sX l l' id:=by
 by_cases h:0<l.nT∧l.st=false
 ·
  exact ⟨_,_,.inl ⟨h.1,h.2,rfl,rfl⟩⟩
 obtain ⟨M,x,s,hp⟩:=De l.R
 have hx:x=-1∨∃ c:Nat,x=(c:Int):=by
  rcases hp with ⟨_,_,e,_⟩ | ⟨_,_,_,e,_⟩ | ⟨_,_,k,c,_,e⟩
  ·
   exact .inl e
  ·
   exact .inl e
  exact .inr ⟨c,e⟩
 rcases hx with e | ⟨c,e⟩
 ·
  exact ⟨_,_,.inr ⟨h,M,x,s,hp,.inl ⟨e,rfl,rfl⟩⟩⟩
 exact ⟨_,_,.inr ⟨h,M,x,s,hp,.inr ⟨c,e,rfl,rfl⟩⟩⟩
def lf (K:Nat→Pkt) (j:Nat):Nat→Pkt:=fun i=>if i=j then { K i with refs:=(K i).refs-1 } else K i
def rmK (K:Nat→Pkt) (j:Nat):Nat→Pkt:=fun i=>if i<j then K i else K (i+1)
def Swg.Gw (S:Swg) (i:Nat) (l':Lng):Swg:={ S with N:=nC S.C S.N i,L:=fun k=>if k=i then l' else S.L k }
def rF (S S':Swg) (i:Nat) (fs:List Pkt):Prop :=
 ∃ l' id,sX (S.L i) l' id ∧
  ((id=0∧S'=S.Gw i l'∧fs=px S.C S.N i) ∨
   (id≠0∧∃ j,j<S.nK∧(S.K j).id=id∧fs=px S.C S.N i++[S.K j] ∧
    (((S.K j).refs≠1∧S'={ S.Gw i l' with K:=lf S.K j }) ∨
    ((S.K j).refs=1∧S'={ S.Gw i l' with nK:=S.nK-1,K:=rmK S.K j,N:=lq (nC S.C S.N i) (S.K j).inn (S.K j).p (-(S.K j).cl) }))))
theorem sX.Gv {S:Swg} (h:S.Ok) (hi:i<S.nL) {l':Lng} {id:Int} (ht:sX (S.L i) l' id):id=0∨∃ j,j<S.nK∧(S.K j).id=id:=by
 have hl:=h.l i hi
 rcases ht with ⟨h1,h2,rfl,rfl⟩ | ⟨_,M,x,s,hp,⟨_,rfl,_⟩ | ⟨c,rfl,rfl,rfl⟩⟩
 ·
  obtain ⟨⟨j,hj,e,_⟩,_⟩:=hl.t 0 h1
  exact .inr ⟨j,hj,e⟩
 ·
  exact .inl rfl
 rcases hp with ⟨hno,_⟩ | ⟨_,_,_,e,_⟩ | ⟨ho,_,k,c',hpk,e⟩
 ·
  exact absurd hl.r hno
 ·
  omega
 have e2:c'=c:=by omega
 subst e2
 have hw:=hpk.rows.1
 have hc2:c'<2:=by
  have:=(hpk.ok ho).2.2.1
  have:=hl.n
  omega
 obtain ⟨hz1,hz2,_⟩:=hl.z c' hc2
 obtain ⟨⟨j,hj,e3,_⟩,_⟩:=hz1 0 (by rw [hz2];exact Nat.pos_of_ne_zero hw)
 exact .inr ⟨j,hj,e3⟩
theorem EF {S:Swg} (h:S.Ok) (hi:i<S.nL):∃ S' fs,rF S S' i fs:=by
 obtain ⟨l',id,ht⟩:=Ex (S.L i)
 by_cases h0:id=0
 ·
  exact ⟨_,_,l',id,ht,.inl ⟨h0,rfl,rfl⟩⟩
 rcases ht.Gv h hi with e | ⟨j,hj,e⟩
 ·
  exact absurd e h0
 by_cases h1:(S.K j).refs=1
 ·
  exact ⟨_,_,l',id,ht,.inr ⟨h0,j,hj,e,rfl,.inr ⟨h1,rfl⟩⟩⟩
 exact ⟨_,_,l',id,ht,.inr ⟨h0,j,hj,e,rfl,.inl ⟨h1,rfl⟩⟩⟩
theorem pf (h:i<j):rmK K j i=K i:=by unfold rmK;rw [if_pos h]
theorem pQ (h:j≤i):rmK K j i=K (i+1):=by unfold rmK;rw [if_neg (by omega)]
theorem sc {K K':Nat→Pkt} {q:Int}:∀ n,(∀ i,i<n→K i=K' i)→jI K q n=jI K' q n
 | 0,_=>rfl
 | n+1,h=>by
  show jI K q n+_=jI K' q n+_
  rw [sc n (fun i hi=>h i (by omega)),h n (by omega)]
theorem qB {K K':Nat→Pkt}:∀ n,(∀ i,i<n→K i=K' i)→iM K n=iM K' n
 | 0,_=>rfl
 | n+1,h=>by
  show iM K n+_=iM K' n+_
  rw [qB n (fun i hi=>h i (by omega)),h n (by omega)]
theorem xO {K:Nat→Pkt} {q:Int}:∀ (n j:Nat),j≤n→jI (rmK K j) q n+(if (K j).p=2∧(K j).inn=q then (K j).cl else 0)=jI K q (n+1)
 | 0,j,h=>by
  obtain rfl:j=0:=by omega
  rfl
 | n+1,j,h=>by
  by_cases e:j=n+1
  ·
   subst e
   rw [sc (K':=K) (n+1) (fun i hi=>pf hi)]
   rfl
  have ih:=xO (K:=K) (q:=q) n j (by omega)
  show jI (rmK K j) q n+(if (rmK K j n).p=2∧(rmK K j n).inn=q then (rmK K j n).cl else 0)+_=jI K q (n+1)+(if (K (n+1)).p=2∧(K (n+1)).inn=q then (K (n+1)).cl else 0)
  rw [pQ (K:=K) (show j≤n by omega),←ih]
  omega
theorem uF {K:Nat→Pkt}:∀ (n j:Nat),j≤n→iM (rmK K j) n+(if (K j).p=2 then 0 else (K j).cl)=iM K (n+1)
 | 0,j,h=>by
  obtain rfl:j=0:=by omega
  rfl
 | n+1,j,h=>by
  by_cases e:j=n+1
  ·
   subst e
   rw [qB (K':=K) (n+1) (fun i hi=>pf hi)]
   rfl
  have ih:=uF (K:=K) n j (by omega)
  show iM (rmK K j) n+(if (rmK K j n).p=2 then 0 else (rmK K j n).cl)+_=iM K (n+1)+(if (K (n+1)).p=2 then 0 else (K (n+1)).cl)
  rw [pQ (K:=K) (show j≤n by omega),←ih]
  omega
theorem lQ.rm (h:lQ nx p n K) (hj:j<n):lQ nx p (n-1) (rmK K j):=by
 have hlt:=oa h.up
 refine ⟨by have:=h.le;omega,fun i hi=>?_,fun i hi h0=>?_⟩
 ·
  by_cases c:i<j
  ·
   rw [pf c];exact h.one i (by omega)
  rw [pQ (by omega)];exact h.one (i+1) (by omega)
 by_cases c:i<j
 ·
  rw [pf c,pf (by omega)];exact hlt i (i-1) (by omega) (by omega)
 rw [pQ (show j≤i by omega)]
 by_cases c2:i-1<j
 ·
  rw [pf c2];exact hlt (i+1) (i-1) (by omega) (by omega)
 rw [pQ (show j≤i-1 by omega)];exact hlt (i+1) (i-1+1) (by omega) (by omega)
theorem wu {nx p:Int} {K:Nat→Pkt} {m:Nat} (h:lQ nx p m K):∀ n,n≤m→0≤iM K n
 | 0,_=>Int.le_refl _
 | n+1,hn=>by
  have:=wu h n (by omega)
  have hc:=(h.one n (by omega)).2.2.cl
  show 0≤iM K n+_
  split <;> omega
theorem lQ.only (h:lQ nx p n K) (hj:j<n):∀ i,i<n→i≠j→(K i).id≠(K j).id:=fun i hi hne e=>hne (nr h.up hi hj e)
theorem yq {N:Cnt} (i:Nat) (h:Cnt.Ok C N):Cnt.Ok C (nC C N i):=⟨h.c,h.nU,h.nP,h.lo,h.u⟩
theorem Swg.Ok.rel {S:Swg} (h:S.Ok) (hj:j<S.nK):yn S.C S.N (S.K j).inn (S.K j).p (S.K j).cl∧Cnt.Ok S.C (lq S.N (S.K j).inn (S.K j).p (-(S.K j).cl)):=by
 obtain ⟨_,o2,o3⟩:=h.k.one j hj
 have hcl:=o3.cl
 have hrm:=h.k.rm hj
 refine ⟨⟨h.n,o2,o3.pr,hcl⟩,?_⟩
 by_cases e:(S.K j).p=2
 ·
  obtain ⟨i,ei⟩:∃ i:Nat,(S.K j).inn=(i:Int):=⟨(S.K j).inn.toNat,by omega⟩
  rw [ei,e,mx]
  have hnU:=h.n.nU
  refine ⟨h.n.c,h.n.nU,h.n.nP,h.n.lo,fun k hk=>?_⟩
  have hu:=h.n.u k hk
  show 0≤(if k=i then S.N.u k+-(S.K j).cl else S.N.u k)∧(if k=i then S.N.u k+-(S.K j).cl else S.N.u k)≤_
  by_cases ek:k=i
  ·
   subst ek
   rw [if_pos rfl]
   have hh:=h.held.2 k hk
   have hs:=xO (K:=S.K) (q:=(k:Int)) (S.nK-1) j (by omega)
   rw [if_pos ⟨e,ei⟩,show S.nK-1+1=S.nK by omega] at hs
   have hp:=(xN (q:=(k:Int)) hrm (S.nK-1) (Nat.le_refl _)).1
   omega
  rw [if_neg ek]
  exact hu
 rw [lC e]
 refine ⟨h.n.c,h.n.nU,h.n.nP,?_,h.n.u⟩
 show 0≤S.N.lo+-(S.K j).cl∧S.N.lo+-(S.K j).cl≤_
 have hlo:=h.n.lo
 have hh:=h.held.1
 have hs:=uF (K:=S.K) (S.nK-1) j (by omega)
 rw [if_neg e,show S.nK-1+1=S.nK by omega] at hs
 have hp:=wu hrm (S.nK-1) (Nat.le_refl _)
 omega
