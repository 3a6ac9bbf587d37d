import Derived.Test.YtfcfpkibceepgaaGreatS14
import Derived.Test.YtfcfpkibceepgaaGreatS28
import Derived.BigQuiet
import Derived.Deep.QuietTactic
import Derived.Deep.RegionHeld3
import Derived.Handy
import Derived.Laws.BitsAllLaws
import Derived.Laws.BytesArg
import Derived.Laws.MakeOwn
import Derived.Lib.SmallJoins
namespace Go.Proofs.YtfcfpkibceepgaaGreat
set_option maxRecDepth 100000
set_option maxHeartbeats 4000000
open Go.RowKit
set_option linter.unusedVariables false
set_option linter.unusedSimpArgs false
theorem dZ {p:Prop} (h:p:=by
 exact ⟨h.e.fK ht (fun x hx=>far x _ (h.e.type x hx) (by decide)),h.u.fK ht (fun x hx=>far x _ (h.u.type x hx) (by decide)),h.p.fK ht (fun x hx=>far x _ (h.p.type x hx) (by decide)),h.k.fK ht (fun x hx=>far x _ (h.k.type x hx) (by decide)),h.l.fK ht (fun x hx=>far x _ (h.l.type x hx) (by decide)),fun i hi=>(h.ls i hi).zn ht (fun x hx=>far x _ ((h.ls i hi).ty2 x hx) (by decide)) (fun x hx=>far x _ ((h.ls i hi).u.type x hx) (by decide)) (fun x hx=>far x _ ((h.ls i hi).s.type x hx) (by decide)),h.nd⟩):p:=h
theorem eh {p:Prop} (h:p:=by
 have HK:Hid (X.heap[w.heap.size+1]?=some (.cells lQ.cells 40 (0,0))):=hP.blk
 have HB2:Hid (Below w.heap.size w X):=HX.out.bel.trans (hP.to.below HX.out.bel.size (fun x hx=>by simp at hx;omega))
 clear hP
 go_wp2_with fail
 rw [HF.out.1,HF.out.2.1,HF.out.2.2]
 exact bodyPost_ret (mn Tryz.results7 17 _ Tryz.underlying40 rfl fZ _ _ (w.heap.size+1) lQ.cells rfl 40 HK.out rfl (.slice none 0 0) rfl (.bool false) rfl) rfl ⟨lQ,none,0,rfl,ga.refl _,(wz _ _).g,OG.nil _ _ _ _,HB2.out⟩):p:=h
theorem eo {p:Prop} (h:p:=by
 clear hr hb3 HF
 go_wp2_with (at_builtin;refine Lib.wpList_append_run _ rfl _ _ _ _ rfl _ _ rfl rfl _ _ hr' ?_)
 go_roundw
 case rel=>exact ⟨k+1,_,_,by omega,by go_num,rfl,HX⟩
 case measure=>simp [intOf];omega):p:=h
theorem ey {p:Prop} (h:p:=by
 go_wp2_with fail
 go_ret
 exact ⟨⟨_,rfl,.inl rfl⟩,B9⟩):p:=h
theorem eC {p:Prop} (h:p:=by
 exact ⟨by rw [←e];exact fL _ _,((Below.refl _ _).alloc (Nat.le_refl _) _).alloc (by omega) _⟩):p:=h
theorem yd {A B:Cnt} (h:gx A B) (p q y:Int):gx (kF A p q y) (kF B p q y):=by
 obtain ⟨aU,nU,cU,u,lo,aP,nP,cP,pp⟩:=A
 obtain ⟨aU',nU',cU',u',lo',aP',nP',cP',pp'⟩:=B
 obtain ⟨h1,h2,h3,h4,h5⟩:=h
 dsimp only at h1 h2 h3 h4 h5
 subst h1 h2 h3 h4 h5
 unfold kF
 split <;> exact ⟨rfl,rfl,rfl,rfl,rfl⟩
theorem vS {A B:Cnt} (h:gx A B) (C:Cfg) (i:Nat):gx (lW C A i) (lW C B i):=by
 obtain ⟨aU,nU,cU,u,lo,aP,nP,cP,pp⟩:=A
 obtain ⟨aU',nU',cU',u',lo',aP',nP',cP',pp'⟩:=B
 obtain ⟨h1,h2,h3,h4,h5⟩:=h
 dsimp only at h1 h2 h3 h4 h5
 subst h1 h2 h3 h4 h5
 exact ⟨rfl,rfl,rfl,rfl,rfl⟩
theorem zZ {A B:Cnt} (h:gx A B) (C:Cfg) (i:Nat):flN C B i=flN C A i:=by unfold flN;rw [h.u,h.p]
theorem mz.pQ {l l' m:Lng} {id:Int} (h:mz l l' id) (ha:gy l m):∃ m',mz m m' id∧gy l' m':=by
 rcases h with ⟨h1,h2,rfl,rfl⟩ | ⟨hno,M,x,s,hp,⟨h1,rfl,rfl⟩ | ⟨c,h1,rfl,rfl⟩⟩
 ·
  refine ⟨_,.inl ⟨by rw [ha.nT];exact h1,by rw [ha.st];exact h2,by rw [ha.t],rfl⟩,?_⟩
  unfold Lng.CW
  exact ⟨ha.st,by show m.nT-1=l.nT-1;rw [ha.nT],by show (fun i=>m.t (i+1))=fun i=>l.t (i+1);rw [ha.t],ha.nU,ha.l,ha.z,ha.r⟩
 ·
  obtain ⟨M',hp',hA⟩:=hp.pQ ha.r
  exact ⟨_,.inr ⟨by rw [ha.nT,ha.st];exact hno,M',x,s,hp',.inl ⟨h1,rfl,rfl⟩⟩,⟨ha.st,ha.nT,ha.t,ha.nU,ha.l,ha.z,hA⟩⟩
 obtain ⟨M',hp',hA⟩:=hp.pQ ha.r
 refine ⟨_,.inr ⟨by rw [ha.nT,ha.st];exact hno,M',x,s,hp',.inr ⟨c,h1,by rw [ha.z],rfl⟩⟩,?_⟩
 unfold Lng.DA
 exact ⟨ha.st,ha.nT,ha.t,ha.nU,by show jT m.uL c (m.uL c-1)=jT l.uL c (l.uL c-1);rw [ha.l],by show pS m.uz c (fun j=>m.uz c (j+1))=pS l.uz c (fun j=>l.uz c (j+1));rw [ha.z],hA⟩
def yf (S S':Swg) (i:Nat) (fs:List Pkt):Prop :=
 ∃ l' id,mz (S.L i) l' id ∧
  ((id=0∧S'=S.lane i l'∧fs=[]) ∨
   (id≠0∧∃ j,j<S.nK∧(S.K j).id=id∧fs=[S.K j] ∧
    (((S.K j).refs≠1∧S'={ S.lane i l' with K:=kq S.K j }) ∨
    ((S.K j).refs=1∧S'={ S.lane i l' with nK:=S.nK-1,K:=rmK S.K j,N:=kF S.N (S.K j).inn (S.K j).p (-(S.K j).cl) }))))
def Swg.flip (S:Swg) (i:Nat):Swg:={ S with N:=lW S.C S.N i }
theorem lJ.next {S S':Swg} {i:Nat} {fs:List Pkt} (h:lJ S S' i fs):∃ gs,yf (S.flip i) S' i gs∧fs=jF S.C S.N i++gs:=by
 obtain ⟨l',id,ht,⟨h0,h1,h2⟩ | ⟨h0,j,hj,hid,hf,hr⟩⟩:=h
 ·
  exact ⟨[],⟨l',id,ht,.inl ⟨h0,h1,rfl⟩⟩,by rw [List.append_nil];exact h2⟩
 exact ⟨[S.K j],⟨l',id,ht,.inr ⟨h0,j,hj,hid,rfl,hr⟩⟩,hf⟩
theorem kW {S P:Swg} (ha:ga S P) (i:Nat) {l m:Lng} (hl:gy l m):ga (S.lane i l) (P.lane i m):=by
 refine ⟨ha.c,ha.now,ha.nx,ha.nE,ha.e,ha.n,ha.nK,ha.k,ha.nL,fun k hk=>?_,ha.dr,ha.lst⟩
 show gy (if k=i then l else S.L k) (if k=i then m else P.L k)
 split
 ·
  exact hl
 exact ha.l k hk
theorem xY {S P:Swg} (ha:ga S P) (i:Nat):ga (S.flip i) (P.flip i):=by
 refine ⟨ha.c,ha.now,ha.nx,ha.nE,ha.e,?_,ha.nK,ha.k,ha.nL,ha.l,ha.dr,ha.lst⟩
 show gx (lW S.C S.N i) (lW P.C P.N i)
 rw [ha.c]
 exact vS ha.n _ _
theorem yf.pQ {S S' P:Swg} {i:Nat} {fs:List Pkt} (h:yf S S' i fs) (hi:i<S.nL) (ha:ga S P):∃ P',yf P P' i fs∧ga S' P':=by
 obtain ⟨l',id,ht,h⟩:=h
 obtain ⟨m',ht',hl⟩:=ht.pQ (ha.l i hi)
 have hA:=kW ha i hl
 rcases h with ⟨h0,rfl,rfl⟩ | ⟨h0,j,hj,hid,rfl,⟨hr,rfl⟩ | ⟨hr,rfl⟩⟩
 ·
  exact ⟨_,⟨m',id,ht',.inl ⟨h0,rfl,rfl⟩⟩,hA⟩
 ·
  refine ⟨_,⟨m',id,ht',.inr ⟨h0,j,by rw [ha.nK];exact hj,by rw [ha.k];exact hid,by rw [ha.k],.inl ⟨by rw [ha.k];exact hr,rfl⟩⟩⟩,?_⟩
  exact ⟨hA.c,hA.now,hA.nx,hA.nE,hA.e,hA.n,hA.nK,by show kq P.K j=kq S.K j;rw [ha.k],hA.nL,hA.l,hA.dr,hA.lst⟩
 refine ⟨_,⟨m',id,ht',.inr ⟨h0,j,by rw [ha.nK];exact hj,by rw [ha.k];exact hid,by rw [ha.k],.inr ⟨by rw [ha.k];exact hr,rfl⟩⟩⟩,?_⟩
 refine ⟨hA.c,hA.now,hA.nx,hA.nE,hA.e,?_,by show P.nK-1=S.nK-1;rw [ha.nK],by show rmK P.K j=rmK S.K j;rw [ha.k],hA.nL,hA.l,hA.dr,hA.lst⟩
 show gx (kF S.N (S.K j).inn (S.K j).p (-(S.K j).cl)) (kF P.N (P.K j).inn (P.K j).p (-(P.K j).cl))
 rw [ha.k]
 exact yd ha.n _ _ _
def Cx (x:Pkt) (v:Value):Prop:=(∃ b,x=C9 b∧v=.iface (C6 b) (.agg #[]))∨(v=.iface 166 (.agg x.frame)∧x.b.size≤40)
def yg (w:World) (base:Nat) (fs:List Pkt) (v:Value):Prop:=(fs=[]∧v=.slice none 0 0)∨∃ gm x m,fs=[x]∧v=.slice (some ⟨gm,0,none⟩) 1 1∧base≤gm∧w.heap[gm]?=some (.cells #[m] 125 (0,0))∧Cx x m
theorem Swg.Ok.flip {S:Swg} (h:S.Ok) (i:Nat):(S.flip i).Ok:=⟨Cm i h.n,⟨h.nums.now,h.nums.nx,h.nums.dr,h.nums.lst⟩,h.seen,h.k,h.nl,h.l,h.refs,h.held⟩
theorem sQ (S S':Swg) (fs:List Pkt) (i g base:Nat) (w:World) (kb:w.heap[g]?=some (.cells S.cells 40 (0,0))) (hbg:base≤g) (ho:ic w base S) (hi:i<S.nL) (hok:S.Ok) (hf:S.N.Fit) (hm:yf S S' i fs) :
  Calls Tryz.prog 79 #[.pointer (some ⟨g,0,none⟩),.int .i64 (i:Int)] w fun e w'=>∃ v S2,e=.returned v∧yg w' w.heap.size fs v∧ga S' S2∧gI w' base S2∧w'.heap[g]?=some (.cells S2.cells 40 (0,0))∧mA base w w':=by
 have hl:=hok.l i hi
 have hk:=hok.k
 obtain ⟨l',id,ht,⟨rfl,rfl,rfl⟩ | ⟨h0,j,hj,hid,rfl,⟨hr,rfl⟩ | ⟨hr,rfl⟩⟩⟩:=hm
 ·
  refine (qV S l' i g base w kb ho hi hl hk ht).mono ?_
  rintro e w' ⟨rfl,l2,hA,hO,hg,hs⟩
  exact ⟨_,S.lane i l2,rfl,.inl ⟨rfl,rfl⟩,kW (ga.refl S) i hA,hO,hg,hs⟩
 ·
  have hsm:=hok.qt hj
  have hnl:(S.nL:Int)≤4:=by rw [hok.nl];exact hok.n.c.num.p.2
  refine (qX S l' id i j g base w kb ho hi hl hk ht h0 hj hid ⟨by omega,by omega⟩).mono ?_
  rintro e w' ⟨gm,rfl,hgm,hm,l2,hA,hO,hg,hs⟩
  have hA2:=kW (ga.refl S) i hA
  exact ⟨_,{ S.lane i l2 with K:=kq S.K j },rfl,.inr ⟨gm,_,_,rfl,rfl,hgm,hm,.inr ⟨rfl,(hk.one j hj).2.2.le⟩⟩,⟨hA2.c,hA2.now,hA2.nx,hA2.nE,hA2.e,hA2.n,hA2.nK,rfl,hA2.nL,hA2.l,hA2.dr,hA2.lst⟩,hO,hg,hs⟩
 obtain ⟨hform,hcn⟩:=hok.rel hj
 refine (qW S l' id i j g base w kb hbg ho hi hl hk ht h0 hj hid hr hf ho.k.cap hform hcn (hk.one j hj).2.2).mono ?_
 rintro e w' ⟨gm,rfl,hgm,hm,l2,M,hA,hM,hO,hg,hs⟩
 have hA2:=kW (ga.refl S) i hA
 exact ⟨_,{ S.lane i l2 with N:=M,nK:=S.nK-1,K:=rmK S.K j },rfl,.inr ⟨gm,_,_,rfl,rfl,hgm,hm,.inr ⟨rfl,(hk.one j hj).2.2.le⟩⟩,⟨hA2.c,hA2.now,hA2.nx,hA2.nE,hA2.e,hM,rfl,rfl,hA2.nL,hA2.l,hA2.dr,hA2.lst⟩,hO,hg,hs⟩
theorem zS {C:Cfg} {N:Cnt} {i:Nat} (h:flN C N i=false):lW C N i=N:=by
 unfold flN at h
 have h2:gJ C (N.u i) (N.p i)=N.p i:=by
  simpa using h
 unfold lW
 have:(fun j=>if j=i then gJ C (N.u j) (N.p j) else N.p j)=N.p:=by
  funext j
  by_cases e:j=i
  ·
   subst e;rw [if_pos rfl];exact h2
  rw [if_neg e]
 rw [this]
theorem ic.flip {w W:World} {base gp i:Nat} {S:Swg} {pa:Array Value} (ho:ic w base S) (eP:S.N.aP=some ⟨gp,0,none⟩) (kp:w.heap[gp]?=some (.cells pa 4 (0,0))) (hW:W.heap[gp]?=some (.cells (pa.setIfInBounds i (.bool (gJ S.C (S.N.u i) (S.N.p i)))) 4 (0,0))) (ht:Touch [gp] w W) (hi:i<S.N.nP):ic W base (S.flip i):=by
 have far:∀ x t,(∃ cs,w.heap[x]?=some (.cells cs t (0,0)))→t≠4→x∉[gp]:=by
  rintro x t ⟨cs,hx⟩ hne hy
  exact iz hx kp hne (by simpa using hy)
 refine ⟨ho.e.fK ht (fun x hx=>far x _ (ho.e.type x hx) (by decide)),⟨ho.n.u.fK ht (fun x hx=>far x _ (ho.n.u.type x hx) (by decide)),?_⟩,ho.k.fK ht (fun x hx=>far x _ (ho.k.type x hx) (by decide)),ho.l.box kp (by decide) (by decide) (by decide) ht,ho.un⟩
 show VT 4 W base S.N.aP S.N.nP fun j=>.bool (if j=i then gJ S.C (S.N.u j) (S.N.p j) else S.N.p j)
 rcases ho.n.p with e | ⟨g,e,hb,arr,k1,k2,k3⟩
 ·
  omega
 have hg:g=gp:=by rw [eP] at e;simp at e;exact e.symm
 subst hg
 rw [kp] at k1
 simp at k1
 subst k1
 refine .inr ⟨g,e,hb,_,hW,by simp;exact k2,fun j hj=>?_⟩
 dsimp only
 by_cases c:j=i
 ·
  subst c
  rw [if_pos rfl,Array.getElem?_setIfInBounds_self_of_lt (by omega)]
 rw [if_neg c,Array.getElem?_setIfInBounds_ne (fun h=>c h.symm)]
 exact k3 j hj
theorem yw (S:Swg) (i g base:Nat) (w:World) (kb:w.heap[g]?=some (.cells S.cells 40 (0,0))) (ho:ic w base S) (hiU:i<S.N.nU) (hiP:i<S.N.nP) :
  Calls Tryz.prog 78 #[.pointer (some ⟨g,0,none⟩),.int .i64 (i:Int)] w fun e w'=>∃ v,e=.returned v∧yg w' w.heap.size (jF S.C S.N i) v∧ic w' base (S.flip i)∧w'.heap[g]?=some (.cells (S.flip i).cells 40 (0,0))∧mA base w w':=by
 rcases ho.n.u with e | ⟨gu,eU,hbu,au,u1,u2,u3⟩
 ·
  omega
 rcases ho.n.p with e | ⟨gp,eP,hbp,pa,p1,p2,p3⟩
 ·
  omega
 have hbase:base≤w.heap.size:=by have:=fH u1;omega
 refine (AB S g gu gp i pa w kb eU eP hiU hiP ((fG u1 i).trans (u3 i hiU)) p1 (p3 i hiP) (fH u1)).mono ?_
 rintro e w' (⟨hfl,rfl,hb⟩ | ⟨hfl,gm,hgm,rfl,hm,hp,ht⟩)
 ·
  have e1:jF S.C S.N i=[]:=by unfold jF;rw [hfl];simp
  have e2:S.flip i=S:=by unfold Swg.flip;rw [zS hfl]
  rw [e1,e2]
  exact ⟨_,rfl,.inl ⟨rfl,rfl⟩,⟨ho.e.up hb,ho.n.up hb,ho.k.up hb,ho.l.up hb,ho.un⟩,(hb.block g (fH kb)).trans kb,.up hb hbase⟩
 have e1:jF S.C S.N i=[C9 (gJ S.C (S.N.u i) (S.N.p i))]:=by unfold jF;rw [if_pos hfl]
 rw [e1]
 refine ⟨_,rfl,.inr ⟨gm,_,_,rfl,rfl,hgm,hm,.inl ⟨_,rfl,rfl⟩⟩,ho.flip eP p1 hp ht hiP,(ht.block g (fH kb) (fun hx=>iz kb p1 (by decide) (by simpa using hx))).trans kb,.to ht hbase (fun x hx=>by
  obtain rfl:x=gp:=by simpa using hx
  exact ⟨hbp,_,_,p1,by decide⟩)⟩
theorem m7 {W:World} {a0:Option Addr} {n0 c0 c base:Nat} {xs:List Value} (t e:TypeId) (z:Value) (sz bytes:Nat) (hinfo:(Tryz.prog.info? e).map (fun i=>(i.zero,i.size,i.bytes))=some (some z,sz,bytes)) (hu:Tryz.prog.underlying t=some (.slice e)) (h:OG e sz W base a0 n0 c0 xs) :
  (Builtin.append_ #[t,t] t #[.slice a0 n0 c0,.slice none 0 c]).run Tryz.prog W=.ok (.slice a0 n0 c0) W:=by
 obtain ⟨i0,hi,hz0,hz1,hz2⟩:=info_parts hinfo
 rcases h.2 with ⟨e1,e2⟩ | ⟨g,cap,cur,e1,_,_,hn,_⟩
 ·
  cases e1
  simp [Builtin.append_,run_underlying hu,sizeOf,typeInfo,hi,Builtin.lenOf,Builtin.firstCells,loadCells,loadCellsFrom]
 cases e1
 simp [Builtin.append_,run_underlying hu,sizeOf,typeInfo,hi,Builtin.lenOf,Builtin.firstCells,loadCells,loadCellsFrom,storeCells,hn]
theorem n9 {W:World} {base:Nat} {a0 a:Option Addr} {n0 c0 n c:Nat} {xs0 xs:List Value} (t e:TypeId) (z:Value) (sz bytes:Nat) (hinfo:(Tryz.prog.info? e).map (fun i=>(i.zero,i.size,i.bytes))=some (some z,sz,bytes)) (hu:Tryz.prog.underlying t=some (.slice e)) (hz:z.cells.size=sz) (hsz:0<sz) (hby:bytes≤1000)
  (h:OG e sz W base a0 n0 c0 xs0) (hb:base≤W.heap.size) (hn:n0+n≤1048576) (hl:xs.length=n*sz) (hr:yl W a xs) (h1:∀ u∈xs,u.oneCell'=true) :
  ∃ a' c' W',(Builtin.append_ #[t,t] t #[.slice a0 n0 c0,.slice a n c]).run Tryz.prog W=.ok (.slice a' (n0+n) c') W'∧OG e sz W' base a' (n0+n) c' (xs0++xs)∧Touch (ij a0) W W'∧((a'=a0∧a0≠none)∨(∃ g,a'=some ⟨g,0,none⟩∧W.heap.size≤g)∨a'=none):=by
 have hbb:(n0+n)*bytes≤140737488355328:=by
  have:=Nat.mul_le_mul (show n0+n≤1048577 by omega) hby
  omega
 obtain ⟨i0,hi,hz0,hz1,hz2⟩:=info_parts hinfo
 cases a with
 | none =>
  have hx:xs=[]:=by
   cases xs with
   | nil=>rfl
   | cons x r =>
    obtain ⟨g,o,ha,_⟩:=hr 0 x rfl
    cases ha
  subst hx
  have hl':n*sz=0:=hl.symm
  have h0:n=0:=(Nat.mul_eq_zero.1 hl').resolve_right (by omega)
  subst h0
  refine ⟨a0,c0,W,m7 t e z sz bytes hinfo hu h,by rw [List.append_nil];exact h,Touch.refl _ _,?_⟩
  cases a0 with
  | none=>exact .inr (.inr rfl)
  | some x=>exact .inl ⟨rfl,by simp⟩
 | some ad =>
  obtain ⟨v',W',hr',h2,h3,h4,h5⟩:=run_append_own_at (P:=Tryz.prog) W base t t e i0 z sz bytes hu hi hz0 hz1 hz2 hz hsz (.slice a0 n0 c0) n0 xs0 h ad n c xs hl (fun j u hj=>by
   obtain ⟨g,o,ha,hc⟩:=hr j u hj
   cases ha
   have e0:(⟨g,o,none⟩:Addr).add j=⟨g,o+j,none⟩:=by unfold Addr.add;split <;> simp_all
   rw [e0]
   exact hc) h1 (by unfold maxLen;omega) hbb hb
  have ht:=Touch.pv (v:=.slice a0 n0 c0) h3
  rcases h2.2 with ⟨e1,e2⟩ | ⟨g,cap,cur,e1,_⟩
  ·
   subst e1
   refine ⟨none,0,W',?_,?_,ht,.inr (.inr rfl)⟩
   ·
    rw [hr',←e2]
   rw [←e2] at h2 ⊢;exact h2
  subst e1
  refine ⟨some ⟨g,0,none⟩,cap,W',hr',h2,ht,?_⟩
  rcases h5 with h5 | h5
  ·
   left
   cases a0 with
   | none=>simp [Value.ownBlock] at h5
   | some x =>
    rcases h.2 with ⟨e3,_⟩ | ⟨g2,cap2,cur2,e3,_⟩
    ·
     cases e3
    cases e3
    simp [Value.ownBlock] at h5
    exact ⟨by rw [h5],by simp⟩
  right;left
  simp only [Value.ownBlock,Option.some.injEq] at h5
  exact ⟨g,rfl,by omega⟩
theorem xX (w:World) :
  Calls Tryz.prog 178 #[.agg #[]] w fun e w'=>e=.returned (.agg #[.int .i64 2,.int .i64 0,.int .i64 0,.int .i64 2,.string ⟨#[]⟩])∧Below w.heap.size w w':=by
 obtain ⟨V,eV⟩:∃ V,(w.alloc (.cells #[] 158)).alloc (.cells #[.int .i64 0,.int .i64 0,.int .i64 0,.int .i64 0,.string ⟨#[]⟩] 74)=V:=⟨_,rfl⟩
 have hV:V.heap[w.heap.size+1]?=some (.cells #[.int .i64 0,.int .i64 0,.int .i64 0,.int .i64 0,.string ⟨#[]⟩] 74 (0,0))∧Below w.heap.size w V:=by
  rw [←eV]
  have e:(w.alloc (.cells #[] 158)).heap.size=w.heap.size+1:=by simp
  exact eC
 have HV:Hid (V.heap[w.heap.size+1]?=some (.cells #[.int .i64 0,.int .i64 0,.int .i64 0,.int .i64 0,.string ⟨#[]⟩] 74 (0,0))∧Below w.heap.size w V):=hV
 clear hV
 go_enter Tryz.func178,Tryz.ntmps178
 go_wp2_with (refine fJ rfl 74 (.tmp 2) (.tmp 3) rfl (w.heap.size+1) 0 rfl (.agg #[.int .i64 2,.int .i64 0,.int .i64 0,.int .i64 2,.string ⟨#[]⟩]) rfl 5 rfl 74 _ HV.out.1 jC (Nat.le_of_ble_eq_true rfl) (by simp [Value.cells,Value.oneCell']) ?_)
 intro W hP
 replace hP:Put V W (w.heap.size+1) #[.int .i64 2,.int .i64 0,.int .i64 0,.int .i64 2,.string ⟨#[]⟩] 74:=hP.cast rfl
 have HK:Hid (W.heap[w.heap.size+1]?=some (.cells #[.int .i64 2,.int .i64 0,.int .i64 0,.int .i64 2,.string ⟨#[]⟩] 74 (0,0))):=hP.blk
 have HB:Hid (Below w.heap.size w W):=HV.out.2.trans (hP.to.below HV.out.2.size (fun x hx=>by simp at hx;omega))
 clear hP
 go_wp2_with fail
 exact bodyPost_ret (iW Tryz.results178 5 _ Tryz.underlying74 rfl jC _ _ (w.heap.size+1) #[.int .i64 2,.int .i64 0,.int .i64 0,.int .i64 2,.string ⟨#[]⟩] rfl 74 HK.out rfl) rfl ⟨rfl,HB.out⟩
theorem xW (w:World) :
  Calls Tryz.prog 179 #[.agg #[]] w fun e w'=>e=.returned (.agg #[.int .i64 3,.int .i64 0,.int .i64 0,.int .i64 2,.string ⟨#[]⟩])∧Below w.heap.size w w':=by
 obtain ⟨V,eV⟩:∃ V,(w.alloc (.cells #[] 159)).alloc (.cells #[.int .i64 0,.int .i64 0,.int .i64 0,.int .i64 0,.string ⟨#[]⟩] 74)=V:=⟨_,rfl⟩
 have hV:V.heap[w.heap.size+1]?=some (.cells #[.int .i64 0,.int .i64 0,.int .i64 0,.int .i64 0,.string ⟨#[]⟩] 74 (0,0))∧Below w.heap.size w V:=by
  rw [←eV]
  have e:(w.alloc (.cells #[] 159)).heap.size=w.heap.size+1:=by simp
  exact eC
 have HV:Hid (V.heap[w.heap.size+1]?=some (.cells #[.int .i64 0,.int .i64 0,.int .i64 0,.int .i64 0,.string ⟨#[]⟩] 74 (0,0))∧Below w.heap.size w V):=hV
 clear hV
 go_enter Tryz.func179,Tryz.ntmps179
 go_wp2_with (refine fJ rfl 74 (.tmp 2) (.tmp 3) rfl (w.heap.size+1) 0 rfl (.agg #[.int .i64 3,.int .i64 0,.int .i64 0,.int .i64 2,.string ⟨#[]⟩]) rfl 5 rfl 74 _ HV.out.1 jC (Nat.le_of_ble_eq_true rfl) (by simp [Value.cells,Value.oneCell']) ?_)
 intro W hP
 replace hP:Put V W (w.heap.size+1) #[.int .i64 3,.int .i64 0,.int .i64 0,.int .i64 2,.string ⟨#[]⟩] 74:=hP.cast rfl
 have HK:Hid (W.heap[w.heap.size+1]?=some (.cells #[.int .i64 3,.int .i64 0,.int .i64 0,.int .i64 2,.string ⟨#[]⟩] 74 (0,0))):=hP.blk
 have HB:Hid (Below w.heap.size w W):=HV.out.2.trans (hP.to.below HV.out.2.size (fun x hx=>by simp at hx;omega))
 clear hP
 go_wp2_with fail
 exact bodyPost_ret (iW Tryz.results179 5 _ Tryz.underlying74 rfl jC _ _ (w.heap.size+1) #[.int .i64 3,.int .i64 0,.int .i64 0,.int .i64 2,.string ⟨#[]⟩] rfl 74 HK.out rfl) rfl ⟨rfl,HB.out⟩
theorem xV (k d s p:Int) (b:ByteArray) (w:World) (hlim:b.size≤1048576) :
  Calls Tryz.prog 180 #[.agg #[.int .i64 k,.int .i64 d,.int .i64 s,.int .i64 p,.string b]] w fun e w'=>e=.returned (.agg #[.int .i64 k,.int .i64 d,.int .i64 s,.int .i64 p,.string b])∧Below w.heap.size w w':=by
 obtain ⟨V,eV⟩:∃ V,(w.alloc (.cells #[.int .i64 k,.int .i64 d,.int .i64 s,.int .i64 p,.string b] 166)).alloc (.cells #[.int .i64 0,.int .i64 0,.int .i64 0,.int .i64 0,.string ⟨#[]⟩] 74)=V:=⟨_,rfl⟩
 have hV:V.heap[w.heap.size+1]?=some (.cells #[.int .i64 0,.int .i64 0,.int .i64 0,.int .i64 0,.string ⟨#[]⟩] 74 (0,0))∧V.heap[w.heap.size]?=some (.cells #[.int .i64 k,.int .i64 d,.int .i64 s,.int .i64 p,.string b] 166 (0,0))∧Below w.heap.size w V∧V.heap.size=w.heap.size+2:=by
  rw [←eV]
  have e:(w.alloc (.cells #[.int .i64 k,.int .i64 d,.int .i64 s,.int .i64 p,.string b] 166)).heap.size=w.heap.size+1:=by simp
  exact ⟨by rw [←e];exact fL _ _,by rw [gg _ (by omega)];exact fL _ _,((Below.refl _ _).alloc (Nat.le_refl _) _).alloc (by omega) _,by simp⟩
 have HV:Hid (V.heap[w.heap.size+1]?=some (.cells #[.int .i64 0,.int .i64 0,.int .i64 0,.int .i64 0,.string ⟨#[]⟩] 74 (0,0))∧V.heap[w.heap.size]?=some (.cells #[.int .i64 k,.int .i64 d,.int .i64 s,.int .i64 p,.string b] 166 (0,0))∧Below w.heap.size w V∧V.heap.size=w.heap.size+2):=hV
 clear hV
 have HL:Hid (∀ j,j<5→V.cell? ⟨w.heap.size,0+j,none⟩=(#[.int .i64 k,.int .i64 d,.int .i64 s,.int .i64 p,.string b]:Array Value)[j]?):=fun j _=>by rw [Nat.zero_add];exact fG HV.out.2.1 j
 go_enter Tryz.func180,Tryz.ntmps180
 go_wp2_with (refine fP rfl 74 5 _ Tryz.underlying74 rfl jC (.tmp 3) rfl w.heap.size 0 rfl #[.int .i64 k,.int .i64 d,.int .i64 s,.int .i64 p,.string b] rfl HL.out ?_)
 refine (nq k d s p b _ hlim).mono ?_
 rintro e w1 ⟨rfl,hb⟩
 have HC:Hid (w1.heap[w.heap.size+1]?=some (.cells #[.int .i64 0,.int .i64 0,.int .i64 0,.int .i64 0,.string ⟨#[]⟩] 74 (0,0))∧Below w.heap.size w w1):=⟨(hb.block _ (by have:=HV.out.2.2.2;omega)).trans HV.out.1,HV.out.2.2.1.trans (hb.mono (by have:=HV.out.2.2.2;omega))⟩
 clear hb
 go_wp2_with (refine fJ rfl 74 (.tmp 2) (.tmp 5) rfl (w.heap.size+1) 0 rfl (.agg #[.int .i64 k,.int .i64 d,.int .i64 s,.int .i64 p,.string b]) rfl 5 rfl 74 _ HC.out.1 jC (Nat.le_of_ble_eq_true rfl) (by simp [Value.cells,Value.oneCell']) ?_)
 intro W hP
 replace hP:Put w1 W (w.heap.size+1) #[.int .i64 k,.int .i64 d,.int .i64 s,.int .i64 p,.string b] 74:=hP.cast rfl
 have HK:Hid (W.heap[w.heap.size+1]?=some (.cells #[.int .i64 k,.int .i64 d,.int .i64 s,.int .i64 p,.string b] 74 (0,0))):=hP.blk
 have HB:Hid (Below w.heap.size w W):=HC.out.2.trans (hP.to.below HC.out.2.size (fun x hx=>by simp at hx;omega))
 clear hP
 go_wp2_with fail
 exact bodyPost_ret (iW Tryz.results180 5 _ Tryz.underlying74 rfl jC _ _ (w.heap.size+1) #[.int .i64 k,.int .i64 d,.int .i64 s,.int .i64 p,.string b] rfl 74 HK.out rfl) rfl ⟨rfl,HB.out⟩
def RdT (m:Nat) (w:World) (a:Option Addr) (n:Nat) (c:Nat→Array Value):Prop:=∀ i,i<n→(c i).size=m∧∃ g o,a=some ⟨g,o,none⟩∧∀ j,j<m→w.cell? ⟨g,o+i*m+j,none⟩=(c i)[j]?
theorem RdT.nil (m:Nat) (w:World) (a:Option Addr) (c:Nat→Array Value):RdT m w a 0 c:=fun i hi=>by omega
theorem mw {m:Nat} {w w2:World} {g o:Nat} {cs:Array Value} (hs:cs.size=m) (hc:∀ j,j<m→w.cell? ⟨g,o+j,none⟩=cs[j]?) (hb:Below w.heap.size w w2):∀ j,j<m→w2.cell? ⟨g,o+j,none⟩=cs[j]?:=by
 intro j hj
 have h2:=hc j hj
 have h3:j<cs.size:=by omega
 rw [Array.getElem?_eq_getElem h3] at h2
 exact ((hb.cell (p:=⟨g,o+j,none⟩) (iu h2)).trans h2).trans (Array.getElem?_eq_getElem h3).symm
theorem RdT.up {m:Nat} {w w2:World} {a:Option Addr} {n:Nat} {c:Nat→Array Value} (h:RdT m w a n c) (hb:Below w.heap.size w w2):RdT m w2 a n c:=by
 intro i hi
 obtain ⟨hs,g,o,ha,hc⟩:=h i hi
 exact ⟨hs,g,o,ha,mw hs hc hb⟩
theorem RdT.low {m:Nat} {w:World} {a:Option Addr} {n k:Nat} {c:Nat→Array Value} (h:RdT m w a n c) (hk:k≤n):RdT m w a k c:=fun i hi=>h i (by omega)
def Pkt.Bz (x:Pkt):Array Value:=#[.int .i64 x.id,.int .i64 x.inn,.int .i64 x.k,.int .i64 x.d,.int .i64 x.s,.int .i64 x.p,.string x.b]
def RdF (w:World) (a:Option Addr) (n:Nat) (F:Nat→Pkt):Prop:=RdT 5 w a n fun i=>(F i).frame
theorem RdF.up {w w2:World} {a:Option Addr} {n:Nat} {F:Nat→Pkt} (h:RdF w a n F) (hb:Below w.heap.size w w2):RdF w2 a n F:=RdT.up h hb
theorem RdF.at {w:World} {a:Option Addr} {n:Nat} {F:Nat→Pkt} (h:RdF w a n F) {i:Nat} (hi:i<n):∃ g o,a=some ⟨g,o,none⟩∧∀ j,j<5→w.cell? ⟨g,o+i*5+j,none⟩=(F i).frame[j]?:=(h i hi).2
def RdV (w:World) (a:Option Addr) (n:Nat) (F:Nat→Pkt):Prop:=RdT 7 w a n fun i=>(F i).Bz
theorem RdV.up {w w2:World} {a:Option Addr} {n:Nat} {F:Nat→Pkt} (h:RdV w a n F) (hb:Below w.heap.size w w2):RdV w2 a n F:=RdT.up h hb
theorem RdV.at {w:World} {a:Option Addr} {n:Nat} {F:Nat→Pkt} (h:RdV w a n F) {i:Nat} (hi:i<n):∃ g o,a=some ⟨g,o,none⟩∧∀ j,j<7→w.cell? ⟨g,o+i*7+j,none⟩=(F i).Bz[j]?:=(h i hi).2
structure Hst where
 st:Bool
 aO:Option Addr
 nO:Nat
 cO:Nat
 O:Nat→Pkt
 aG:Option Addr
 nG:Nat
 cG:Nat
 G:Nat→Pkt
def Hst.cells (h:Hst):Array Value:=#[.bool h.st,.slice h.aO h.nO h.cO,.slice h.aG h.nG h.cG]
structure CB (w:World) (h:Hst):Prop where
 o:RdF w h.aO h.nO h.O
 g:RdF w h.aG h.nG h.G
theorem CB.up {w w2:World} {h:Hst} (k:CB w h) (hb:Below w.heap.size w w2):CB w2 h:=⟨k.o.up hb,k.g.up hb⟩
def CC (w:World) (a:Option Addr) (n:Nat) (H:Nat→Hst):Prop:=RdT 3 w a n fun i=>(H i).cells
theorem CC.up {w w2:World} {a:Option Addr} {n:Nat} {H:Nat→Hst} (h:CC w a n H) (hb:Below w.heap.size w w2):CC w2 a n H:=RdT.up h hb
theorem CC.at {w:World} {a:Option Addr} {n:Nat} {H:Nat→Hst} (h:CC w a n H) {i:Nat} (hi:i<n):∃ g o,a=some ⟨g,o,none⟩∧∀ j,j<3→w.cell? ⟨g,o+i*3+j,none⟩=(H i).cells[j]?:=(h i hi).2
structure Hst.Small (h:Hst):Prop where
 o:h.nO≤1048576
 bo:∀ i,i<h.nO→(h.O i).b.size≤1048576
 g:h.nG≤1048576
 bg:∀ i,i<h.nG→(h.G i).b.size≤1048576
structure Hst.Fit (h:Hst):Prop where
 o:h.nO≤maxLen
 bo:∀ i,i<h.nO→(h.O i).b.size≤maxLen
 g:h.nG≤maxLen
 bg:∀ i,i<h.nG→(h.G i).b.size≤maxLen
structure Fab where
 S:Swg
 aH:Option Addr
 nH:Nat
 cH:Nat
 H:Nat→Hst
 aU:Option Addr
 nU:Nat
 cU:Nat
 U:Nat→Pkt
 aD:Option Addr
 nD:Nat
 cD:Nat
 D:Nat→Pkt
def Fab.cells (F:Fab):Array Value:=#[.int .i64 F.S.C.p,.int .i64 F.S.C.c,.int .i64 F.S.C.xo,.int .i64 F.S.C.xn,.int .i64 F.S.C.hd,.int .i64 F.S.C.lo,.int .i64 F.S.C.dl,.int .i64 F.S.now,.int .i64 F.S.nx,.slice F.S.aE F.S.nE F.S.cE,.slice F.S.N.aU F.S.N.nU F.S.N.cU,.int .i64 F.S.N.lo,.slice F.S.N.aP F.S.N.nP F.S.N.cP,.slice F.S.aK F.S.nK F.S.cK,.slice F.S.aL F.S.nL F.S.cL,.int .i64 F.S.dr,.int .i64 F.S.lst,.slice F.aH F.nH F.cH,.slice F.aU F.nU F.cU,.slice F.aD F.nD F.cD]
structure DB (w:World) (F:Fab):Prop where
 s:j4 w F.S
 h:CC w F.aH F.nH F.H
 hs:∀ i,i<F.nH→CB w (F.H i)
 u:RdV w F.aU F.nU F.U
 d:RdV w F.aD F.nD F.D
theorem DB.up {w w2:World} {F:Fab} (h:DB w F) (hb:Below w.heap.size w w2):DB w2 F:=⟨h.s.up hb,h.h.up hb,fun i hi=>(h.hs i hi).up hb,h.u.up hb,h.d.up hb⟩
structure Fab.Small (F:Fab):Prop where
 s:F.S.Small
 h:F.nH≤1048576
 hs:∀ i,i<F.nH→(F.H i).Small
 u:F.nU≤1048576
 bu:∀ i,i<F.nU→(F.U i).b.size≤1048576
 d:F.nD≤1048576
 bd:∀ i,i<F.nD→(F.D i).b.size≤1048576
structure Fab.Fit (F:Fab):Prop where
 s:F.S.Fit
 h:F.nH≤maxLen
 hs:∀ i,i<F.nH→(F.H i).Fit
 u:F.nU≤maxLen
 bu:∀ i,i<F.nU→(F.U i).b.size≤maxLen
 d:F.nD≤maxLen
 bd:∀ i,i<F.nD→(F.D i).b.size≤maxLen
def Pkt.fOk (x:Pkt):Prop:=mx x.k x.d x.s x.p x.b.size=true
structure Hst.Ok (h:Hst):Prop where
 le:h.nO≤40
 o:∀ i,i<h.nO→(h.O i).pR
 g:∀ i,i<h.nG→(h.G i).pR
def Pkt.way (p now dl:Int) (x:Pkt):Prop:=(0≤x.id∧x.id≤p-1)∧(now+1≤x.inn∧x.inn≤now+dl)
def Fab.DF (F:Fab):Prop:=F.nU≤1000∧∀ i,i<F.nU→(F.U i).way F.S.C.p F.S.now F.S.C.dl∧(F.U i).pR
def Fab.BB (F:Fab):Prop:=F.nD≤1000∧∀ i,i<F.nD→(F.D i).way F.S.C.p F.S.now F.S.C.dl∧(F.D i).fOk
def Fab.Cj (F:Fab):Prop:=(F.nH:Int)=F.S.C.p∧∀ i,i<F.nH→(F.H i).Ok
structure Fab.Ok (F:Fab):Prop where
 s:F.S.Ok
 h:F.Cj
 u:F.DF
 d:F.BB
structure lO (a b:Hst):Prop where
 st:b.st=a.st
 nO:b.nO=a.nO
 O:b.O=a.O
 nG:b.nG=a.nG
 G:b.G=a.G
theorem lO.symm {a b:Hst} (h:lO a b):lO b a:=⟨h.st.symm,h.nO.symm,h.O.symm,h.nG.symm,h.G.symm⟩
theorem lO.trans {a b c:Hst} (h:lO a b) (k:lO b c):lO a c:=⟨k.st.trans h.st,k.nO.trans h.nO,k.O.trans h.O,k.nG.trans h.nG,k.G.trans h.G⟩
theorem lO.ok1 {a b:Hst} (h:lO a b) (k:a.Ok):b.Ok:=⟨by rw [h.nO];exact k.le,by rw [h.nO,h.O];exact k.o,by rw [h.nG,h.G];exact k.g⟩
theorem lO.small {a b:Hst} (h:lO a b) (k:a.Small):b.Small:=⟨by rw [h.nO];exact k.o,by rw [h.nO,h.O];exact k.bo,by rw [h.nG];exact k.g,by rw [h.nG,h.G];exact k.bg⟩
theorem zv:(Tryz.prog.info? 74).map (·.size)=some 5:=by kernel_rfl
theorem Pkt.oneF (x:Pkt):x.frame.all (·.oneCell')=true:=by simp [Pkt.frame,Value.oneCell']
def r9 (m:Nat) (c:Nat→Array Value) (j:Nat):Value:=((c (j / m))[j % m]?).getD (.bool false)
theorem r8 {m:Nat} {c:Nat→Array Value} {i j:Nat} (h:j<m) (hs:(c i).size=m):some (r9 m c (i*m+j))=(c i)[j]?:=by
 unfold r9
 have h0:0<m:=by omega
 rw [Nat.add_comm (i*m) j,Nat.add_mul_div_right _ _ h0,Nat.div_eq_of_lt h,Nat.zero_add,Nat.add_mul_mod_self_right,Nat.mod_eq_of_lt h,Array.getElem?_eq_getElem (by omega)]
 rfl
theorem BP {m:Nat} {w:World} {a:Option Addr} {n:Nat} {c:Nat→Array Value} (hm:0<m) (h:fY w a (n*m) (r9 m c)) (hs:∀ i,i<n→(c i).size=m):RdT m w a n c:=by
 intro i hi
 have hlt:i*m+m≤n*m:=by rw [←Nat.succ_mul];exact Nat.mul_le_mul_right m hi
 obtain ⟨g,o,ha,h0⟩:=h (i*m) (by omega)
 refine ⟨hs i hi,g,o,ha,fun j hj=>?_⟩
 obtain ⟨g1,o1,ha1,h1⟩:=h (i*m+j) (by omega)
 rw [ha] at ha1
 cases ha1
 rw [r8 hj (hs i hi)] at h1
 rw [Nat.add_assoc]
 exact h1
theorem Dj {n m k s:Nat} (h:n*m≤s) (hk:k<n):k*m+m≤s:=by
 have:k*m+m≤n*m:=by rw [←Nat.succ_mul];exact Nat.mul_le_mul_right m hk
 omega
theorem rI:(Tryz.prog.info? 74).map (fun i=>(i.zero,i.size,i.bytes))=some (some (.agg #[.int .i64 0,.int .i64 0,.int .i64 0,.int .i64 0,.string ⟨#[]⟩]),5,48):=by kernel_rfl
structure pO (w:World) (base:Nat) (h:Hst):Prop where
 o:VG 74 w base h.aO (h.nO*5) (r9 5 fun i=>(h.O i).frame)
 g:VG 74 w base h.aG (h.nG*5) (r9 5 fun i=>(h.G i).frame)
theorem VG.jA {t:TypeId} {w:World} {base:Nat} {a:Option Addr} {n:Nat} {F:Nat→Pkt} (h:VG t w base a (n*5) (r9 5 fun i=>(F i).frame)):RdF w a n F:=BP (by omega) h.read (fun _ _=>rfl)
theorem pO.rd {w:World} {base:Nat} {h:Hst} (k:pO w base h):CB w h:=⟨k.o.jA,k.g.jA⟩
theorem pO.up {w w':World} {base:Nat} {h:Hst} (k:pO w base h) (hb:Below w.heap.size w w'):pO w' base h:=⟨k.o.up hb,k.g.up hb⟩
theorem pO.mono {w:World} {base base':Nat} {h:Hst} (k:pO w base h) (hb:base'≤base):pO w base' h:=⟨k.o.mono hb,k.g.mono hb⟩
theorem pO.low {w w':World} {base:Nat} {h:Hst} {S:List Nat} (k:pO w base h) (ht:Touch S w w') (hS:∀ x∈S,x<base):pO w' base h:=⟨k.o.low ht hS,k.g.low ht hS⟩
structure lg (A B:Fab):Prop where
 s:ga A.S B.S
 nH:B.nH=A.nH
 h:∀ i,i<A.nH→lO (A.H i) (B.H i)
 nU:B.nU=A.nU
 u:B.U=A.U
 nD:B.nD=A.nD
 d:B.D=A.D
theorem lg.symm {A B:Fab} (h:lg A B):lg B A:=⟨h.s.symm,h.nH.symm,fun i hi=>(h.h i (by rw [←h.nH];exact hi)).symm,h.nU.symm,h.u.symm,h.nD.symm,h.d.symm⟩
theorem lg.trans {A B C:Fab} (h:lg A B) (k:lg B C):lg A C:=⟨h.s.trans k.s,k.nH.trans h.nH,fun i hi=>(h.h i hi).trans (k.h i (by rw [h.nH];exact hi)),k.nU.trans h.nU,k.u.trans h.u,k.nD.trans h.nD,k.d.trans h.d⟩
theorem lg.small {A B:Fab} (h:lg A B) (k:A.Small):B.Small :=
 ⟨h.s.small k.s,by rw [h.nH];exact k.h,fun i hi=>by rw [h.nH] at hi;exact (h.h i hi).small (k.hs i hi),by rw [h.nU];exact k.u,by rw [h.nU,h.u];exact k.bu,by rw [h.nD];exact k.d,by rw [h.nD,h.d];exact k.bd⟩
theorem lg.ok1 {A B:Fab} (h:lg A B) (k:A.Ok):B.Ok:=by
 refine ⟨h.s.ok1 k.s,⟨by rw [h.nH,h.s.c];exact k.h.1,fun i hi=>by rw [h.nH] at hi;exact (h.h i hi).ok1 (k.h.2 i hi)⟩,?_,?_⟩
 ·
  unfold Fab.DF
  rw [h.nU,h.u,h.s.c,h.s.now]
  exact k.u
 unfold Fab.BB
 rw [h.nD,h.d,h.s.c,h.s.now]
 exact k.d
theorem lg.ok {A B:Fab} (h:lg A B):B.Ok↔A.Ok:=⟨h.symm.ok1,h.ok1⟩
theorem Fab.lL (F:Fab):F.cells.all (·.oneCell')=true:=by simp [Fab.cells,Value.oneCell']
def tV (n:Nat) (c:Nat→Array Value):List Value:=(List.range n).flatMap fun i=>(c i).toList
theorem nI (n:Nat) (c:Nat→Array Value):tV (n+1) c=tV n c++(c n).toList:=by simp [tV,List.range_succ]
theorem CE {n:Nat} {c c':Nat→Array Value} (h:∀ i,i<n→c i=c' i):tV n c=tV n c':=by
 induction n with
 | zero=>rfl
 | succ n ih=>rw [nI,nI,ih (fun i hi=>h i (by omega)),h n (by omega)]
theorem wG {m n:Nat} {c:Nat→Array Value} (hs:∀ i,i<n→(c i).size=m):(tV n c).length=n*m:=by
 induction n with
 | zero=>simp [tV]
 | succ n ih=>rw [nI,List.length_append,ih (fun i hi=>hs i (by omega)),Array.length_toList,hs n (by omega),Nat.succ_mul]
theorem wH {m n:Nat} {c:Nat→Array Value} (hs:∀ i,i<n→(c i).size=m):∀ j,j<n*m→(tV n c)[j]?=some (r9 m c j):=by
 induction n with
 | zero=>intro j hj;omega
 | succ n ih =>
  intro j hj
  have hs':∀ i,i<n→(c i).size=m:=fun i hi=>hs i (by omega)
  rw [Nat.succ_mul] at hj
  rw [nI]
  by_cases e:j<n*m
  ·
   rw [List.getElem?_append_left (by rw [wG hs'];exact e)]
   exact ih hs' j e
  rw [List.getElem?_append_right (by rw [wG hs'];omega),wG hs',Array.getElem?_toList]
  have:=r8 (c:=c) (i:=n) (j:=j-n*m) (m:=m) (by omega) (hs n (by omega))
  rw [show n*m+(j-n*m)=j by omega] at this
  exact this.symm
theorem OG.jA {t:TypeId} {w:World} {base:Nat} {a:Option Addr} {n c:Nat} {F:Nat→Pkt} (h:OG t 5 w base a n c (tV n fun i=>(F i).frame)):RdF w a n F:=(h.vg (wH (fun _ _=>rfl))).jA
theorem OG.new (V:World) (t:TypeId) (sz base:Nat) (hb:base≤V.heap.size):OG t sz (V.alloc (.cells #[] t)) base (some ⟨V.heap.size,0,none⟩) 0 0 [] :=
 ⟨by simp,.inr ⟨V.heap.size,0,#[],rfl,hb,fL _ _,Nat.le_refl _,Nat.zero_le _,by simp,by simp⟩⟩
theorem gI.far {w w':World} {base:Nat} {S:Swg} {T:List Nat} (h:gI w base S) (ht:Touch T w w') (hT:∀ x∈T,∃ cs,w.heap[x]?=some (.cells cs 125 (0,0))):gI w' base S:=by
 have far:∀ x t,(∃ cs,w.heap[x]?=some (.cells cs t (0,0)))→t≠125→x∉T:=by
  rintro x t ⟨cs,hx⟩ hne hy
  obtain ⟨c2,k2⟩:=hT x hy
  exact iz hx k2 hne rfl
 exact dZ
def fsF (fs:List Pkt) (i:Nat):Pkt:=(fs[i]?).getD zPk
theorem rG:(Tryz.prog.info? 125).map (fun i=>(i.zero,i.size,i.bytes))=some (some .nilIface,1,16):=by kernel_rfl
def C0 (w:World) (fs:List Pkt) (a:Option Addr):Prop:=∀ k,k<fs.length→∃ g o v,a=some ⟨g,o,none⟩∧w.cell? ⟨g,o+k,none⟩=some v∧Cx (fsF fs k) v
theorem vv {w:World} {base:Nat} {ts gs:List Pkt} {v1 v2:Value} (h1:yg w base ts v1) (h2:yg w base gs v2) (hb:base≤w.heap.size) :
  ∃ a c W,(Builtin.append_ #[122,122] 122 #[v1,v2]).run Tryz.prog w=.ok (.slice a (ts++gs).length c) W∧C0 W (ts++gs) a∧∃ T,Touch T w W∧∀ x∈T,base≤x∧∃ cs,w.heap[x]?=some (.cells cs 125 (0,0)):=by
 have own:∀ {gm:Nat} {m:Value},w.heap[gm]?=some (.cells #[m] 125 (0,0))→OG 125 1 w 0 (some ⟨gm,0,none⟩) 1 1 [m]:=fun {gm m} hk=>⟨by simp,.inr ⟨gm,1,#[m],rfl,Nat.zero_le _,hk,by simp,by simp [maxLen],by simp,by simp⟩⟩
 have one:∀ {x:Pkt} {m:Value},Cx x m→∀ u∈[m],u.oneCell'=true:=fun {x m} hm u hu=>by
  obtain rfl:u=m:=by simpa using hu
  rcases hm with ⟨b,_,rfl⟩ | ⟨rfl,_⟩ <;> rfl
 rcases h1 with ⟨rfl,rfl⟩ | ⟨g1,x1,m1,rfl,rfl,hg1,hk1,hm1⟩
 ·
  rcases h2 with ⟨rfl,rfl⟩ | ⟨g2,x2,m2,rfl,rfl,hg2,hk2,hm2⟩
  ·
   exact ⟨none,0,w,m7 _ _ _ 1 16 rG Tryz.underlying122 (OG.nil _ _ _ 0),fun k hk=>absurd hk (Nat.not_lt_zero _),[],Touch.refl _ _,by simp⟩
  obtain ⟨a',c',W',hr,ho,ht,_⟩:=n9 (c:=1) (n:=1) 122 125 _ 1 16 rG Tryz.underlying122 rfl (by decide) (by decide) (OG.nil _ _ w 0) (Nat.zero_le _) (by decide) (xs:=[m2]) rfl (fun j u hj=>by
   have:j=0:=by cases j with
    | zero=>rfl
    | succ j=>simp at hj
   subst this
   simp at hj
   subst hj
   exact ⟨g2,0,rfl,fG hk2 0⟩) (one hm2)
  refine ⟨a',c',W',hr,fun k hk=>?_,ij none,ht,by simp [ij]⟩
  have hk0:k=0:=by simp at hk;omega
  subst hk0
  rcases ho.2 with ⟨_,e0⟩ | ⟨g,cap,cur,e,_,hbk,_,_,_,htk⟩
  ·
   omega
  cases e
  refine ⟨g,0,m2,rfl,?_,hm2⟩
  rw [fG hbk,←Array.getElem?_toList,Nat.zero_add,←List.getElem?_take_of_lt (show 0<(0+1)*1 by omega),htk]
  rfl
 rcases h2 with ⟨rfl,rfl⟩ | ⟨g2,x2,m2,rfl,rfl,hg2,hk2,hm2⟩
 ·
  refine ⟨_,_,w,m7 _ _ _ 1 16 rG Tryz.underlying122 (own hk1),fun k hk=>?_,[],Touch.refl _ _,by simp⟩
  have hk0:k=0:=by simp at hk;omega
  subst hk0
  exact ⟨g1,0,m1,rfl,fG hk1 0,hm1⟩
 obtain ⟨a',c',W',hr,ho,ht,_⟩:=n9 (c:=1) (n:=1) 122 125 _ 1 16 rG Tryz.underlying122 rfl (by decide) (by decide) (own hk1) (Nat.zero_le _) (by decide) (xs:=[m2]) rfl (fun j u hj=>by
  have:j=0:=by cases j with
   | zero=>rfl
   | succ j=>simp at hj
  subst this
  simp at hj
  subst hj
  exact ⟨g2,0,rfl,fG hk2 0⟩) (one hm2)
 refine ⟨a',c',W',hr,fun k hk=>?_,ij (some ⟨g1,0,none⟩),ht,fun x hx=>?_⟩
 ·
  have hk0:k=0∨k=1:=by simp at hk;omega
  rcases ho.2 with ⟨_,e0⟩ | ⟨g,cap,cur,e,_,hbk,_,_,_,htk⟩
  ·
   omega
  cases e
  rcases hk0 with rfl | rfl
  ·
   refine ⟨g,0,m1,rfl,?_,hm1⟩
   rw [fG hbk,←Array.getElem?_toList,Nat.zero_add,←List.getElem?_take_of_lt (show 0<(1+1)*1 by omega),htk]
   rfl
  refine ⟨g,0,m2,rfl,?_,hm2⟩
  rw [fG hbk,←Array.getElem?_toList,Nat.zero_add,←List.getElem?_take_of_lt (show 1<(1+1)*1 by omega),htk]
  rfl
 obtain rfl:x=g1:=by simpa [ij] using hx
 exact ⟨hg1,_,hk1⟩
theorem lJ.len {S S':Swg} {i:Nat} {fs:List Pkt} (h:lJ S S' i fs):fs.length≤2:=by
 have ht:(jF S.C S.N i).length≤1:=by unfold jF;split <;> simp
 obtain ⟨l',id,_,⟨_,_,rfl⟩ | ⟨_,j,_,_,rfl,_⟩⟩:=h
 ·
  omega
 rw [List.length_append];simp;exact ht
theorem yg.stay {w w':World} {base B:Nat} {fs:List Pkt} {v:Value} (h:yg w base fs v) (hs:mA B w w'):yg w' base fs v:=by
 rcases h with h | ⟨gm,x,m,h1,h2,h3,h4,h5⟩
 ·
  exact .inl h
 exact .inr ⟨gm,x,m,h1,h2,h3,hs.msg _ _ h4,h5⟩
theorem yg.mono {w:World} {base base':Nat} {fs:List Pkt} {v:Value} (h:yg w base fs v) (hb:base'≤base):yg w base' fs v:=by
 rcases h with h | ⟨gm,x,m,h1,h2,h3,h4,h5⟩
 ·
  exact .inl h
 exact .inr ⟨gm,x,m,h1,h2,Nat.le_trans hb h3,h4,h5⟩
theorem C0.up {w w':World} {fs:List Pkt} {a:Option Addr} (h:C0 w fs a) (hb:Below w.heap.size w w'):C0 w' fs a:=fun k hk=>by
 obtain ⟨g,o,v,e,hc,hm⟩:=h k hk
 exact ⟨g,o,v,e,(hb.cell (p:=⟨g,o+k,none⟩) (iu hc)).trans hc,hm⟩
theorem u9 (S S':Swg) (fs:List Pkt) (i g base:Nat) (w:World) (kb:w.heap[g]?=some (.cells S.cells 40 (0,0))) (hbg:base≤g) (ho:ic w base S) (hi:i<S.nL) (hok:S.Ok) (hf:S.N.Fit) (hm:lJ S S' i fs) :
  Calls Tryz.prog 29 #[.pointer (some ⟨g,0,none⟩),.int .i64 (i:Int)] w fun e w'=>∃ a c S2,e=.returned (.slice a fs.length c)∧OG 74 5 w' w.heap.size a fs.length c (tV fs.length fun i=>(fsF fs i).frame)∧ga S' S2∧gI w' base S2∧w'.heap[g]?=some (.cells S2.cells 40 (0,0))∧Below base w w':=by
 have hlen:=hm.len
 obtain ⟨gs,hn,efs⟩:=hm.next
 have hbw:base≤w.heap.size:=by have:=fH kb;omega
 have hiU:i<S.N.nU:=by have:=hok.nl;have:=hok.n.nU;omega
 have hiP:i<S.N.nP:=by have:=hok.nl;have:=hok.n.nP;omega
 have HT:=yw S i g base w kb ho hiU hiP
 have HT:Hid (Calls Tryz.prog 78 #[.pointer (some ⟨g,0,none⟩),.int .i64 (i:Int)] w fun e w'=>∃ v,e=.returned v∧yg w' w.heap.size (jF S.C S.N i) v∧ic w' base (S.flip i)∧w'.heap[g]?=some (.cells (S.flip i).cells 40 (0,0))∧mA base w w'):=HT
 have HM:Hid (yf (S.flip i) S' i gs∧fs=jF S.C S.N i++gs∧i<S.nL∧S.Ok∧S.N.Fit∧base≤g∧base≤w.heap.size∧fs.length≤2):=⟨hn,efs,hi,hok,hf,hbg,hbw,hlen⟩
 clear kb ho hi hok hf hm hn efs hiU hiP hbg hbw hlen
 go_enter Tryz.func29,Tryz.ntmps29
 go_wp2_with fail
 refine HT.out.mono ?_
 rintro e w1 ⟨v1,rfl,hm1,ho1,hg1,hs1⟩
 have H1:Hid (yg w1 w.heap.size (jF S.C S.N i) v1∧mA base w w1):=⟨hm1,hs1⟩
 have HN:Hid (Calls Tryz.prog 79 #[.pointer (some ⟨g,0,none⟩),.int .i64 (i:Int)] w1 fun e w'=>∃ v S2,e=.returned v∧yg w' w1.heap.size gs v∧ga S' S2∧gI w' base S2∧w'.heap[g]?=some (.cells S2.cells 40 (0,0))∧mA base w1 w'):=sQ (S.flip i) S' gs i g base w1 hg1 HM.out.2.2.2.2.2.1 ho1 HM.out.2.2.1 (HM.out.2.2.2.1.flip i) ⟨HM.out.2.2.2.2.1.u,HM.out.2.2.2.2.1.p⟩ HM.out.1
 clear hm1 ho1 hg1 hs1 HT
 go_wp2_with fail
 refine HN.out.mono ?_
 rintro e w2 ⟨v2,S2,rfl,hm2,hA,hO,hg2,hs2⟩
 have z1:=H1.out.2.bel.size
 have z2:=hs2.bel.size
 obtain ⟨a,c,W,hrun,hR,T,hT,hTT⟩:=vv (H1.out.1.stay hs2) (hm2.mono z1) (by omega)
 rw [←HM.out.2.1] at hrun hR
 have hOW:=hO.far hT (fun x hx=>(hTT x hx).2)
 have hgW:W.heap[g]?=some (.cells S2.cells 40 (0,0)):=(hT.block g (fH hg2) (fun hx=>by
  obtain ⟨_,cs,hc⟩:=hTT g hx
  exact iz hg2 hc (by decide) rfl)).trans hg2
 have hBW:Below base w W:=(H1.out.2.bel.trans hs2.bel).trans (hT.below (by have:=HM.out.2.2.2.2.2.2.1;omega) (fun x hx=>by have:=(hTT x hx).1;have:=HM.out.2.2.2.2.2.2.1;omega))
 have HW:Hid (ga S' S2∧gI W base S2∧W.heap[g]?=some (.cells S2.cells 40 (0,0))∧Below base w W∧C0 W fs a∧w.heap.size≤W.heap.size):=⟨hA,hOW,hgW,hBW,hR,hBW.size⟩
 have hlen:=HM.out.2.2.2.2.2.2.2
 generalize hnn:fs.length=n at *
 clear hm2 hA hO hg2 hs2 hR hT hTT hOW hgW hBW HN H1 z1 z2
 go_wp2_with (at_builtin;refine Lib.wpList_append_run _ rfl _ _ _ _ rfl _ _ rfl rfl _ _ hrun ?_)
 clear hrun
 go_loopw [6,19] (fun s6 i wr=>∃ (k:Nat) (a1:Option Addr) (c1:Nat),k≤n∧i=.int .i64 k∧s6=.slice a1 k c1∧Hid (OG 74 5 wr W.heap.size a1 k c1 (tV k fun i=>(fsF fs i).frame)∧Below W.heap.size W wr)) (fun _ i _=>n-(intOf i).toNat)
 case atStart=>exact ⟨0,none,0,Nat.zero_le _,rfl,rfl,OG.nil _ _ _ _,Below.refl _ _⟩
 obtain ⟨k,a1,c1,hk,rfl,rfl,HK⟩:=hrel
 by_cases hlt:k<n
 ·
  have hlt':(k:Int)<n:=by omega
  obtain ⟨gm,o,v,ea,hc,hmv⟩:=(HW.out.2.2.2.2.1.up HK.out.2) k (by rw [hnn];exact hlt)
  subst ea
  have fin:∀ (w3:World),Below wr.heap.size wr w3→∃ g1 c3 X3,(Builtin.append_ #[41,41] 41 #[.slice a1 k c1,.slice (some ⟨w3.heap.size,0,none⟩) 1 1]).run Tryz.prog (w3.alloc (.cells (fsF fs k).frame 74))=.ok (.slice (some ⟨g1,0,none⟩) (k+1) c3) X3∧Hid (OG 74 5 X3 W.heap.size (some ⟨g1,0,none⟩) (k+1) c3 (tV (k+1) fun i=>(fsF fs i).frame)∧Below W.heap.size W X3):=fun w3 hb3=>by
   obtain ⟨g1,c3,X3,hr,hu,ht,_⟩:=ku 41 74 _ 5 48 rI Tryz.underlying41 rfl (by decide) (by decide) (HK.out.1.up hb3) (by omega) (Nat.le_trans HK.out.2.size hb3.size) (fsF fs k).frame rfl (Pkt.oneF _)
   refine ⟨g1,c3,X3,hr,by rw [nI];exact hu,?_⟩
   exact (HK.out.2.trans (hb3.mono HK.out.2.size)).trans (ht.below (Nat.le_trans HK.out.2.size hb3.size) (fun x hx=>(HK.out.1.blk x hx).1))
  have HF:Hid (∀ (w3:World),Below wr.heap.size wr w3→∃ g1 c3 X3,(Builtin.append_ #[41,41] 41 #[.slice a1 k c1,.slice (some ⟨w3.heap.size,0,none⟩) 1 1]).run Tryz.prog (w3.alloc (.cells (fsF fs k).frame 74))=.ok (.slice (some ⟨g1,0,none⟩) (k+1) c3) X3∧Hid (OG 74 5 X3 W.heap.size (some ⟨g1,0,none⟩) (k+1) c3 (tV (k+1) fun i=>(fsF fs i).frame)∧Below W.heap.size W X3)):=fin
  clear fin HK
  rcases hmv with ⟨b,eF,rfl⟩ | ⟨rfl,hlim⟩
  ·
   cases b
   ·
    unfold C6 at hc
    simp only [Bool.false_eq_true,if_false] at hc
    rw [eF] at HF
    go_wp2_with fail
    refine (xW _).mono ?_
    rintro e w3 ⟨rfl,hb3⟩
    obtain ⟨g1,c3,X3,hr,HX⟩:=HF.out w3 hb3
    have hr':(Builtin.append_ #[41,41] 41 #[.slice a1 k c1,.slice (some ⟨w3.heap.size,0,none⟩) 1 1]).run Tryz.prog (w3.alloc (.cells #[.int .i64 3,.int .i64 0,.int .i64 0,.int .i64 2,.string ⟨#[]⟩] 74))=.ok (.slice (some ⟨g1,0,none⟩) (k+1) c3) X3:=hr
    exact eo
   unfold C6 at hc
   simp only [if_true] at hc
   rw [eF] at HF
   go_wp2_with fail
   refine (xX _).mono ?_
   rintro e w3 ⟨rfl,hb3⟩
   obtain ⟨g1,c3,X3,hr,HX⟩:=HF.out w3 hb3
   have hr':(Builtin.append_ #[41,41] 41 #[.slice a1 k c1,.slice (some ⟨w3.heap.size,0,none⟩) 1 1]).run Tryz.prog (w3.alloc (.cells #[.int .i64 2,.int .i64 0,.int .i64 0,.int .i64 2,.string ⟨#[]⟩] 74))=.ok (.slice (some ⟨g1,0,none⟩) (k+1) c3) X3:=hr
   exact eo
  generalize fsF fs k=x at *
  unfold Pkt.frame at hc
  go_wp2_with fail
  refine (xV x.k x.d x.s x.p x.b _ (by omega)).mono ?_
  rintro e w3 ⟨rfl,hb3⟩
  obtain ⟨g1,c3,X3,hr,HX⟩:=HF.out w3 hb3
  have hr':(Builtin.append_ #[41,41] 41 #[.slice a1 k c1,.slice (some ⟨w3.heap.size,0,none⟩) 1 1]).run Tryz.prog (w3.alloc (.cells #[.int .i64 x.k,.int .i64 x.d,.int .i64 x.s,.int .i64 x.p,.string x.b] 74))=.ok (.slice (some ⟨g1,0,none⟩) (k+1) c3) X3:=hr
  exact eo
 obtain rfl:k=n:=by omega
 go_wp2_with fail
 subst hnn
 go_ret
 have hb:=HK.out.2
 refine ⟨_,_,S2,rfl,HK.out.1.mono HW.out.2.2.2.2.2,HW.out.1,HW.out.2.1.up hb,(hb.block g (fH HW.out.2.2.1)).trans HW.out.2.2.1,HW.out.2.2.2.1.trans (hb.mono ?_)⟩
 have:=HM.out.2.2.2.2.2.2.1
 have:=HW.out.2.2.2.2.2
 omega
def oO (S S':Swg) (port:Int) (fs:List Pkt) (b:Bool):Prop :=
 (b=true∧S.Ok∧∃ i:Nat,port=(i:Int)∧i<S.nL∧lJ S S' i fs)∨(b=false∧¬ (S.Ok∧0≤port∧port≤S.C.p-1)∧S'=lQ∧fs=[])
theorem AH (S:Swg) (port:Int):∃ S' fs b,oO S S' port fs b:=by
 by_cases h:S.Ok∧0≤port∧port≤S.C.p-1
 ·
  obtain ⟨i,rfl⟩:∃ i:Nat,port=(i:Int):=⟨port.toNat,by omega⟩
  have hi:i<S.nL:=by have:=h.1.nl;omega
  obtain ⟨S',fs,hm⟩:=BM h.1 hi
  exact ⟨S',fs,true,.inl ⟨rfl,h.1,i,rfl,hi,hm⟩⟩
 exact ⟨_,_,_,.inr ⟨rfl,h,rfl,rfl⟩⟩
theorem lJ.pQ {S S' P:Swg} {i:Nat} {fs:List Pkt} (h:lJ S S' i fs) (hi:i<S.nL) (ha:ga S P):∃ P',lJ P P' i fs∧ga S' P':=by
 obtain ⟨gs,hn,e⟩:=h.next
 obtain ⟨P',hp,hA⟩:=hn.pQ hi (xY ha i)
 refine ⟨P',?_,hA⟩
 have et:jF P.C P.N i=jF S.C S.N i:=by unfold jF;rw [ha.c,zZ ha.n,ha.n.u,ha.n.p]
 obtain ⟨l',id,ht,⟨h0,h1,h2⟩ | ⟨h0,j,hj,hid,hf,hr⟩⟩:=hp
 ·
  exact ⟨l',id,ht,.inl ⟨h0,h1,by rw [et,e,h2,List.append_nil]⟩⟩
 exact ⟨l',id,ht,.inr ⟨h0,j,hj,hid,by rw [et,e,hf];rfl,hr⟩⟩
theorem oO.pQ {S S' P:Swg} {port:Int} {fs:List Pkt} {b:Bool} (h:oO S S' port fs b) (ha:ga S P):∃ P',oO P P' port fs b∧ga S' P':=by
 rcases h with ⟨h1,h2,i,h3,h4,h5⟩ | ⟨h1,h2,h3,h4⟩
 ·
  obtain ⟨P',hp,hA⟩:=h5.pQ h4 ha
  exact ⟨P',.inl ⟨h1,ha.ok1 h2,i,h3,by rw [ha.nL];exact h4,hp⟩,hA⟩
 exact ⟨lQ,.inr ⟨h1,by rw [ha.ok,ha.c];exact h2,rfl,h4⟩,by rw [h3];exact ga.refl _⟩
theorem gI.offB {w w':World} {base g:Nat} {S:Swg} {cs:Array Value} (h:gI w base S) (hg:w.heap[g]?=some (.cells cs 40 (0,0))) (ht:Touch [g] w w'):gI w' base S:=by
 have far:∀ x t,(∃ cs,w.heap[x]?=some (.cells cs t (0,0)))→t≠40→x∉[g]:=by
  rintro x t ⟨cs,hx⟩ hne hy
  exact iz hx hg hne (by simpa using hy)
 exact dZ
theorem ue (S S':Swg) (port:Int) (fs:List Pkt) (w:World) (hs:S.Small) (hr:j4 w S) (b:Bool) (hm:oO S S' port fs b) :
  Calls Tryz.prog 7 #[.agg S.cells,.int .i64 port] w fun e w'=>∃ S2 a c,e=.returned (.tuple #[.agg S2.cells,.slice a fs.length c,.bool b])∧ga S' S2∧gI w' w.heap.size S2∧OG 74 5 w' w.heap.size a fs.length c (tV fs.length fun i=>(fsF fs i).frame)∧Below w.heap.size w w':=by
 obtain ⟨ok,hok⟩:=iA S.Ok
 have HO:Hid (ok=true↔S.Ok):=hok
 have HM:Hid (oO S S' port fs b):=hm
 have HR:Hid (j4 w S):=hr
 have HS:Hid S.Small:=hs
 obtain ⟨W,eW⟩:∃ W,(w.alloc (.cells S.cells 40)).alloc (.cells #[.int .i64 0,.int .i64 0,.int .i64 0,.int .i64 0,.int .i64 0,.int .i64 0,.int .i64 0,.int .i64 0,.int .i64 0,.slice none 0 0,.slice none 0 0,.int .i64 0,.slice none 0 0,.slice none 0 0,.slice none 0 0,.int .i64 0,.int .i64 0] 40)=W:=⟨_,rfl⟩
 have HX:Hid (Two w S.cells zSw 40 W):=by rw [←eW];exact Two.start _ _ _ _
 have HL:Hid (∀ j,j<17→W.cell? ⟨w.heap.size,0+j,none⟩=S.cells[j]?):=fun j _=>by rw [Nat.zero_add];exact fG HX.out.a j
 clear hs hr hok hm
 go_enter Tryz.func7,Tryz.ntmps7
 go_wp2_with (refine fP rfl 40 17 _ Tryz.underlying40 rfl fZ (.tmp 2) rfl (w.heap.size) 0 rfl S.cells rfl HL.out ?_)
 clear eW HL
 refine (rM S _ HS.out (HR.out.up HX.out.bel) ok HO.out).mono ?_
 rintro e w1 ⟨rfl,hbl⟩
 replace HX:Hid (Two w S.cells zSw 40 w1):=HX.out.up hbl
 clear hbl
 have HD:Hid (w1.heap[w.heap.size+1]?=some (.cells zSw 40 (0,0))):=HX.out.b
 cases ok
 ·
  have HF:Hid (b=false∧S'=lQ∧fs=[]):=by
   rcases HM.out with ⟨_,h,_⟩ | ⟨h1,_,h2,h3⟩
   ·
    exact absurd (HO.out.2 h) (by simp)
   exact ⟨h1,h2,h3⟩
  go_wp2_with (refine fJ rfl 40 (.tmp 4) (.tmp 18) rfl (w.heap.size+1) 0 rfl (.agg #[.int .i64 0,.int .i64 0,.int .i64 0,.int .i64 0,.int .i64 0,.int .i64 0,.int .i64 0,.int .i64 0,.int .i64 0,.slice none 0 0,.slice none 0 0,.int .i64 0,.slice none 0 0,.slice none 0 0,.slice none 0 0,.int .i64 0,.int .i64 0]) rfl 17 rfl 40 _ HD.out fZ (Nat.le_of_ble_eq_true rfl) (by simp [Value.cells,Value.oneCell']) ?_)
  intro X hP
  replace hP:Put w1 X (w.heap.size+1) lQ.cells 40:=hP.cast rfl
  exact eh
 have HOk:Hid S.Ok:=HO.out.1 rfl
 have hp4:=HOk.out.n.c.num.p
 have HL:Hid (∀ j,j<17→w1.cell? ⟨w.heap.size,0+j,none⟩=S.cells[j]?):=fun j _=>by rw [Nat.zero_add];exact fG HX.out.a j
 go_wp2_with (refine mN (by rfl) 40 17 _ Tryz.underlying40 rfl fZ (.tmp 2) rfl (w.heap.size) 0 rfl S.cells rfl HL.out ?_)
 refine (m0 S port _ (by omega) (by omega)).mono ?_
 rintro e w2 ⟨rfl,hbl⟩
 replace HX:Hid (Two w S.cells zSw 40 w2):=HX.out.up hbl
 clear hbl HD HL
 have HD:Hid (w2.heap[w.heap.size+1]?=some (.cells zSw 40 (0,0))):=HX.out.b
 by_cases hport:0≤port∧port≤S.C.p-1
 rotate_left
 ·
  have hdec:decide (0≤port∧port≤S.C.p-1)=false:=by simp only [decide_eq_false_iff_not];exact hport
  have HF:Hid (b=false∧S'=lQ∧fs=[]):=by
   rcases HM.out with ⟨_,h,i,rfl,hi,_⟩ | ⟨h1,_,h2,h3⟩
   ·
    have:=h.nl
    exact absurd (by omega) hport
   exact ⟨h1,h2,h3⟩
  rw [hdec]
  clear hport hdec
  go_wp2_with (refine fJ rfl 40 (.tmp 4) (.tmp 18) rfl (w.heap.size+1) 0 rfl (.agg #[.int .i64 0,.int .i64 0,.int .i64 0,.int .i64 0,.int .i64 0,.int .i64 0,.int .i64 0,.int .i64 0,.int .i64 0,.slice none 0 0,.slice none 0 0,.int .i64 0,.slice none 0 0,.slice none 0 0,.slice none 0 0,.int .i64 0,.int .i64 0]) rfl 17 rfl 40 _ HD.out fZ (Nat.le_of_ble_eq_true rfl) (by simp [Value.cells,Value.oneCell']) ?_)
  intro X hP
  replace hP:Put w2 X (w.heap.size+1) lQ.cells 40:=hP.cast rfl
  exact eh
 have hdec:decide (0≤port∧port≤S.C.p-1)=true:=by simp only [decide_eq_true_eq];exact hport
 have HF:Hid (b=true∧∃ i:Nat,port=(i:Int)∧i<S.nL∧lJ S S' i fs):=by
  rcases HM.out with ⟨h1,h,h2⟩ | ⟨h1,h2,_⟩
  ·
   exact ⟨h1,h2⟩
  exact absurd ⟨HOk.out,hport⟩ h2
 obtain ⟨hb1,i,rfl,hi,hsm⟩:=HF.out
 have HSM:Hid (lJ S S' i fs∧i<S.nL∧b=true):=⟨hsm,hi,hb1⟩
 have HL:Hid (∀ j,j<17→w2.cell? ⟨w.heap.size,0+j,none⟩=S.cells[j]?):=fun j _=>by rw [Nat.zero_add];exact fG HX.out.a j
 rw [hdec]
 clear hport hdec HM HF hb1 hi hsm
 obtain ⟨_,_,_,ht4,ht5⟩:=Bp HOk.out
 go_wp2_with (refine fP rfl 40 17 _ Tryz.underlying40 rfl fZ (.tmp 2) rfl (w.heap.size) 0 rfl S.cells rfl HL.out ?_)
 clear HL
 have hW1:w.heap.size+1<w2.heap.size:=fH HX.out.b
 refine (qa S _ HS.out ht4 ht5 (HR.out.up HX.out.bel)).mono ?_
 rintro e w3 ⟨P,rfl,aP,oP,hbl⟩
 replace HX:Hid (Two w S.cells zSw 40 w3):=HX.out.up hbl
 have HP:Hid (ga S P∧ic w3 w2.heap.size P):=⟨aP,oP⟩
 have hz3:=hbl.size
 clear aP oP hbl
 have HG:Hid ((w3.alloc (.cells #[.int .i64 0,.int .i64 0,.int .i64 0,.int .i64 0,.int .i64 0,.int .i64 0,.int .i64 0,.int .i64 0,.int .i64 0,.slice none 0 0,.slice none 0 0,.int .i64 0,.slice none 0 0,.slice none 0 0,.slice none 0 0,.int .i64 0,.int .i64 0] 40)).heap[w3.heap.size]?=some (.cells #[.int .i64 0,.int .i64 0,.int .i64 0,.int .i64 0,.int .i64 0,.int .i64 0,.int .i64 0,.int .i64 0,.int .i64 0,.slice none 0 0,.slice none 0 0,.int .i64 0,.slice none 0 0,.slice none 0 0,.slice none 0 0,.int .i64 0,.int .i64 0] 40 (0,0))):=fL _ _
 go_wp2_with (refine fJ rfl 40 (.tmp 7) (.tmp 20) rfl (w3.heap.size) 0 rfl (.agg P.cells) rfl 17 rfl 40 _ HG.out fZ (Nat.le_of_ble_eq_true rfl) (Swg.lL _) ?_)
 intro X0 hP
 replace hP:Put _ X0 w3.heap.size P.cells 40:=hP.cast rfl
 have hbl:Below w3.heap.size w3 X0:=((Below.refl _ _).alloc (Nat.le_refl _) _).trans (hP.to.below (by simp) (fun x hx=>by simp at hx;omega))
 have kN:=hP.blk
 have hgN:w.heap.size+1<w3.heap.size:=fH HX.out.b
 replace HX:Hid (Two w S.cells zSw 40 X0):=HX.out.up hbl
 replace HP:Hid (ga S P∧ic X0 w2.heap.size P):=⟨HP.out.1,HP.out.2.up hbl⟩
 clear hP HG hbl HD
 obtain ⟨gN,eN⟩:∃ g,w3.heap.size=g:=⟨_,rfl⟩
 rw [eN] at kN hgN hz3 ⊢
 clear eN
 obtain ⟨bP,eP⟩:∃ g,w2.heap.size=g:=⟨_,rfl⟩
 rw [eP] at hW1 hz3 HP
 clear eP
 have HgN:Hid (w.heap.size+1<bP∧bP≤gN):=⟨hW1,hz3⟩
 have HkN:Hid (X0.heap[gN]?=some (.cells P.cells 40 (0,0))):=kN
 clear kN hgN
 obtain ⟨P',hsp,haP⟩:=HSM.out.1.pQ HSM.out.2.1 HP.out.1
 have HSP:Hid (lJ P P' i fs∧ga S' P'):=⟨hsp,haP⟩
 clear hsp haP
 clear hW1 hz3
 go_wp2_with fail
 refine (u9 P P' fs i gN bP X0 HkN.out HgN.out.2 HP.out.2 (by rw [HP.out.1.nL];exact HSM.out.2.1) (HP.out.1.ok1 HOk.out) (HP.out.1.small HS.out).n.fit HSP.out.1).mono ?_
 rintro e X1 ⟨a,c,S2,rfl,hF,hA,hO,kN,hb⟩
 have z0:=HX.out.bel.size
 replace HX:Hid (Two w S.cells zSw 40 X1):=⟨(hb.block _ (by have:=HgN.out.1;omega)).trans HX.out.a,(hb.block _ HgN.out.1).trans HX.out.b,HX.out.bel.trans (hb.mono (by have:=HgN.out.1;omega))⟩
 have HN:Hid (ga S' S2∧gI X1 w.heap.size S2∧OG 74 5 X1 w.heap.size a fs.length c (tV fs.length fun i=>(fsF fs i).frame)):=⟨HSP.out.2.trans hA,hO.mono (by have:=HgN.out.1;omega),hF.mono z0⟩
 have HL:Hid (∀ j,j<17→X1.cell? ⟨gN,0+j,none⟩=S2.cells[j]?):=fun j _=>by rw [Nat.zero_add];exact fG kN j
 have HD:Hid (X1.heap[w.heap.size+1]?=some (.cells zSw 40 (0,0))):=HX.out.b
 clear kN hO hA hF hb z0 HP HkN HSP
 go_wp2_with (first | refine fP rfl 40 17 _ Tryz.underlying40 rfl fZ (.tmp 7) rfl (gN) 0 rfl S2.cells rfl HL.out ?_ | refine fJ rfl 40 (.tmp 4) (.tmp 23) rfl (w.heap.size+1) 0 rfl (.agg S2.cells) rfl 17 rfl 40 _ HD.out fZ (Nat.le_of_ble_eq_true rfl) (Swg.lL _) ?_)
 intro X hP
 replace hP:Put X1 X (w.heap.size+1) S2.cells 40:=hP.cast rfl
 have HK:Hid (X.heap[w.heap.size+1]?=some (.cells S2.cells 40 (0,0))):=hP.blk
 have HFF:Hid (gI X w.heap.size S2∧OG 74 5 X w.heap.size a fs.length c (tV fs.length fun i=>(fsF fs i).frame)∧Below w.heap.size w X):=⟨HN.out.2.1.offB HD.out hP.to,HN.out.2.2.fK hP.to (fun x hx hy=>HN.out.2.2.j7 (by decide) HD.out (by simp at hy;rw [←hy];exact hx)),HX.out.bel.trans (hP.to.below HX.out.bel.size (fun x hx=>by simp at hx;omega))⟩
 clear hP HL HD
 go_wp2_with fail
 rw [HSM.out.2.2]
 exact bodyPost_ret (mn Tryz.results7 17 _ Tryz.underlying40 rfl fZ _ _ (w.heap.size+1) S2.cells rfl 40 HK.out rfl (.slice a fs.length c) rfl (.bool true) rfl) rfl ⟨S2,a,c,rfl,HN.out.1,HFF.out.1,HFF.out.2.1,HFF.out.2.2⟩
theorem sI (x:Pkt) (left:Int) (w:World) (h0:0≤left) (h1:left≤1048576) (hf:x.b.size≤maxLen) :
  Calls Tryz.prog 47 #[.agg x.cells,.int .i64 left] w fun e w'=>(∃ r:Int,e=.returned (.int .i64 r)∧(r=-1∨0≤r∧x.b.size≤1048576∧r≤left))∧Below w.heap.size w w':=by
 obtain ⟨W,eW⟩:∃ W,w.alloc (.cells x.cells 85)=W:=⟨_,rfl⟩
 have hB:Below (w.heap.size+1) (w.alloc (.cells x.cells 85)) W:=by rw [eW];exact Below.refl _ _
 have hb0:=under hB
 have kS:=boxed hB
 have c3:W.cell? ⟨w.heap.size,3,none⟩=some (.int .i64 x.k):=kS 3
 have c4:W.cell? ⟨w.heap.size,4,none⟩=some (.int .i64 x.d):=kS 4
 have c5:W.cell? ⟨w.heap.size,5,none⟩=some (.int .i64 x.s):=kS 5
 have c6:W.cell? ⟨w.heap.size,6,none⟩=some (.int .i64 x.p):=kS 6
 have c7:W.cell? ⟨w.heap.size,7,none⟩=some (.string x.b):=kS 7
 have HB:Hid (Below w.heap.size w W):=hb0
 clear kS hB hb0
 go_enter Tryz.func47,Tryz.ntmps47
 go_wp2_with fail
 clear eW
 refine (uZ x.k x.d x.s x.p left x.b _ hf h0 h1).mono ?_
 rintro e w1 ⟨rfl,hb1⟩
 have HB1:Hid (Below w.heap.size w w1):=HB.out.trans (hb1.mono HB.out.size)
 clear hb1 c3 c4 c5 c6 c7
 by_cases hl:left<x.b.size
 ·
  rw [if_pos hl]
  go_wp2_with fail
  go_ret
  exact ⟨⟨_,rfl,.inl rfl⟩,HB1.out⟩
 rw [if_neg hl]
 have hr0:¬ left-x.b.size<0:=by omega
 go_wp2_with fail
 go_ret
 exact ⟨⟨_,rfl,.inr ⟨by omega,by omega,by omega⟩⟩,HB1.out⟩
theorem qR (a:Option Addr) (n cap:Nat) (K:Nat→Pkt) (left:Int) (w:World) (h0:0≤left) (h1:left≤1048576) (hn:n≤maxLen) (hf:∀ i,i<n→(K i).b.size≤maxLen) (h:jN w a n K) :
  Calls Tryz.prog 16 #[.slice a n cap,.int .i64 left] w fun e w'=>(∃ r:Int,e=.returned (.int .i64 r)∧(r=-1∨0≤r∧n≤1048576∧(∀ i,i<n→(K i).b.size≤1048576)∧r+n≤left))∧Below w.heap.size w w':=by
 have hm:(n:Int)≤9223372036854775807:=by unfold maxLen at hn;omega
 have HR:Hid (jN w a n K):=h
 have HF:Hid (∀ i,i<n→(K i).b.size≤maxLen):=hf
 clear h hf
 by_cases h2:left-n<0
 ·
  go_enter Tryz.func16,Tryz.ntmps16
  go_wp2_with fail
  go_ret
  exact ⟨⟨_,rfl,.inl rfl⟩,Below.refl _ _⟩
 go_enter Tryz.func16,Tryz.ntmps16
 go_wp2_with fail
 go_loopw [1,5] (fun x i wr=>∃ (k:Nat) (r:Int),k≤n∧i=.int .i64 k∧x=.int .i64 r∧0≤r∧Hid (r+n≤left∧∀ j,j<k→(K j).b.size≤1048576)∧Below w.heap.size w wr) (fun _ i _=>n-(intOf i).toNat)
 case atStart=>exact ⟨0,left-n,Nat.zero_le _,rfl,rfl,by omega,⟨by omega,fun j hj=>by omega⟩,Below.refl _ _⟩
 obtain ⟨k,r,hk,rfl,rfl,r0,HS,hB⟩:=hrel
 by_cases hlt:k<n
 ·
  have hlt':(k:Int)<n:=by omega
  obtain ⟨g,o,ha,hc⟩:=(HR.out.up hB) k hlt
  subst ha
  have HC:Hid (∀ j,j<8→wr.cell? ⟨g,o+k*8+j,none⟩=(K k).cells[j]?):=hc
  clear hc
  go_wp2_with (refine fP rfl 85 8 _ Tryz.underlying85 rfl zr (.tmp 20) rfl g (o+k*8) rfl (K k).cells rfl HC.out ?_)
  refine (sI (K k) r _ r0 (by have:=HS.out.1;omega) (HF.out k hlt)).mono ?_
  rintro e w1 ⟨⟨r',rfl,hr⟩,hb1⟩
  have HB1:Hid (Below w.heap.size w w1):=hB.trans (hb1.mono hB.size)
  clear hb1 hB HC
  rcases hr with rfl | ⟨r0',hsm,hr9⟩
  ·
   go_wp2_with fail
   go_ret
   exact ⟨⟨_,rfl,.inl rfl⟩,HB1.out⟩
  have HN:Hid (r'+n≤left∧∀ j,j<k+1→(K j).b.size≤1048576):=⟨by have:=HS.out.1;omega,fun j hj=>by
    by_cases e:j=k
    ·
     subst e;exact hsm
    ·
     exact HS.out.2 j (by omega)⟩
  have hr0:¬ r'<0:=by omega
  clear hsm hr9 HS
  go_wp2_with fail
  go_roundw
  case rel=>exact ⟨k+1,r',by omega,by go_num,rfl,r0',HN,HB1.out⟩
  case measure=>simp [intOf];omega
 obtain rfl:k=n:=by omega
 go_wp2_with fail
 go_ret
 exact ⟨⟨_,rfl,.inr ⟨r0,by omega,HS.out.2,HS.out.1⟩⟩,hB⟩
theorem sG (S:Swg) (w:World) (hf:S.Fit) (h:j4 w S) :
  Calls Tryz.prog 4 #[.agg S.cells,.int .i64 1048576] w fun e w'=>(∃ r:Int,e=.returned (.int .i64 r)∧(r=-1∨0≤r∧S.Small∧S.tot≤1048576∧r≤1048576))∧Below w.heap.size w w':=by
 have HR:Hid (j4 w S):=h
 have HF:Hid S.Fit:=hf
 obtain ⟨W,eW⟩:∃ W,w.alloc (.cells S.cells 32)=W:=⟨_,rfl⟩
 have hB:Below (w.heap.size+1) (w.alloc (.cells S.cells 32)) W:=by rw [eW];exact Below.refl _ _
 have kS:=boxed hB
 have c9:W.cell? ⟨w.heap.size,9,none⟩=some (.slice S.aE S.nE S.cE):=kS 9
 have c10:W.cell? ⟨w.heap.size,10,none⟩=some (.slice S.N.aU S.N.nU S.N.cU):=kS 10
 have c11:W.cell? ⟨w.heap.size,11,none⟩=some (.int .i64 S.N.lo):=kS 11
 have c12:W.cell? ⟨w.heap.size,12,none⟩=some (.slice S.N.aP S.N.nP S.N.cP):=kS 12
 clear h hf kS
 go_enter Tryz.func4,Tryz.ntmps4
 go_wp2_with fail
 clear eW
 refine (u0 S.aE S.nE S.cE 1048576 _ HF.out.e (by omega) (by omega)).mono ?_
 rintro e w1 ⟨⟨r,rfl,hr⟩,rfl⟩
 rcases hr with rfl | ⟨r0,hn1,hs1⟩
 ·
  have B9:=under hB
  exact ey
 have hr0:¬ r<0:=by omega
 go_wp2_with fail
 refine (qS S.N r _ r0 (by omega) HF.out.n).mono ?_
 rintro e w2 ⟨⟨r2,rfl,hr2⟩,hb2⟩
 replace hB:=next hB hb2
 clear hb2 c9 c10 c11 c12
 rcases hr2 with rfl | ⟨r20,hn2,hs2⟩
 ·
  have B9:=under hB
  exact ey
 have hr20:¬ r2<0:=by omega
 have c13:w2.cell? ⟨w.heap.size,13,none⟩=some (.slice S.aK S.nK S.cK):=boxed hB 13
 have HN2:Hid S.N.Small:=hn2
 clear hn2
 go_wp2_with fail
 refine (qR S.aK S.nK S.cK S.K r2 _ r20 (by omega) HF.out.k HF.out.b (HR.out.k.up (under hB))).mono ?_
 rintro e w3 ⟨⟨r3,rfl,hr3⟩,hb3⟩
 replace hB:=next hB hb3
 clear hb3 c13
 rcases hr3 with rfl | ⟨r30,hn3,hb3,hs3⟩
 ·
  have B9:=under hB
  exact ey
 have hr30:¬ r3<0:=by omega
 have c14:w3.cell? ⟨w.heap.size,14,none⟩=some (.slice S.aL S.nL S.cL):=boxed hB 14
 have HK:Hid (∀ i,i<S.nK→(S.K i).b.size≤1048576):=hb3
 clear hb3
 go_wp2_with fail
 refine (uY S.aL S.nL S.cL S.L r3 _ r30 (by omega) HF.out.l HF.out.ls (HR.out.l.up (under hB)) (fun i hi=>(HR.out.ls i hi).up (under hB))).mono ?_
 rintro e w4 ⟨⟨r4,rfl,hr4⟩,hb4⟩
 replace hB:=next hB hb4
 clear hb4 c14
 have B9:=under hB
 rcases hr4 with rfl | ⟨r40,hn4,hl4,hs4⟩
 · exact ey
 have hr40:¬ r4<0:=by omega
 have HS:Hid (S.Small∧S.tot≤1048576∧r4≤1048576):=⟨⟨hn1,HN2.out,hn3,HK.out,hn4,hl4⟩,by
  show S.nE+(S.N.nU+S.N.nP)+S.nK+(S.nL+iD (fun i=>(S.L i).tot) S.nL)≤1048576
  omega,by omega⟩
 clear hl4 hs4 hs3 hs2 hs1 hB
 go_wp2_with fail
 go_ret
 exact ⟨⟨_,rfl,.inr ⟨r40,HS.out.1,HS.out.2⟩⟩,B9⟩
theorem Alike.tot {a b:Rnd} (h:Alike a b):b.tot=a.tot:=by unfold Rnd.tot;rw [h.nQ,h.nD,h.l,h.nS]
theorem gy.tot {a b:Lng} (h:gy a b):b.tot=a.tot:=by unfold Lng.tot;rw [h.nT,h.l,h.nU,h.r.tot]
theorem xi {f g:Nat→Nat}:∀ {n:Nat},(∀ i,i<n→f i=g i)→iD f n=iD g n:=by
 intro n
 induction n with
 | zero=>intro _;rfl
 | succ n ih =>
  intro h
  show iD f n+f n=iD g n+g n
  rw [ih (fun i hi=>h i (by omega)),h n (by omega)]
theorem ga.tot {A B:Swg} (h:ga A B):B.tot=A.tot:=by
 unfold Swg.tot
 rw [h.nE,h.n.nU,h.n.nP,h.nK,h.nL,xi (fun i hi=>(h.l i hi).tot)]
theorem OG.open {t:TypeId} {sz:Nat} {w:World} {base n c k:Nat} {a:Option Addr} {cs:Nat→Array Value} (h:OG t sz w base a n c (tV n cs)) (hk:k<n) (hs:∀ i,i<n→(cs i).size=sz) :
  ∃ g cur,a=some ⟨g,0,none⟩∧base≤g∧w.heap[g]?=some (.cells cur t (0,0))∧k*sz+sz≤cur.size∧∀ j,j<sz→cur[k*sz+j]?=(cs k)[j]?:=by
 rcases h.2 with ⟨_,hv⟩ | ⟨g1,cap,cur,hv,h1,h2,h3,h4,h5,h6⟩
 ·
  omega
 cases hv
 have hm:n*sz≤c*sz:=Nat.mul_le_mul_right sz h3
 have hr:=Dj (m:=sz) (Nat.le_refl (n*sz)) hk
 refine ⟨g1,cur,rfl,h1,h2,by omega,fun j hj=>?_⟩
 have e:=wH (m:=sz) hs (k*sz+j) (by omega)
 rw [r8 hj (hs k hk)] at e
 rw [←e,←h6,List.getElem?_take,if_pos (by omega),Array.getElem?_toList]
theorem RdT.cs {m:Nat} {w:World} {a:Option Addr} {n:Nat} {c:Nat→Array Value} (hm:0<m) (h:RdT m w a n c):yl w a (tV n c):=by
 intro j u hj
 have hs:∀ i,i<n→(c i).size=m:=fun i hi=>(h i hi).1
 have hlt:j<n*m:=by
  have:=(List.getElem?_eq_some_iff.1 hj).1
  rw [wG hs] at this
  exact this
 rw [wH hs j hlt] at hj
 have hi:j / m<n:=(Nat.div_lt_iff_lt_mul hm).2 hlt
 obtain ⟨h1,g,o,ha,hc⟩:=h (j / m) hi
 refine ⟨g,o,ha,?_⟩
 have h2:=hc (j % m) (Nat.mod_lt _ hm)
 have e:o+j / m*m+j % m=o+j:=by rw [Nat.add_assoc,Nat.div_add_mod']
 rw [e] at h2
 rw [h2,←hj]
 unfold r9
 rw [Array.getElem?_eq_getElem (by rw [h1];exact Nat.mod_lt _ hm)]
 rfl
def CZ (g o n:Nat) (f:Nat→Value) (w:World):Prop:=As 2 g o n f w
def VGI (w:World) (base:Nat) (a:Option Addr) (n:Nat) (f:Nat→Int):Prop:=VG 2 w base a n fun i=>.int .i64 (f i)
def wZ (a:Option Addr) (n:Nat) (a':Option Addr) (n':Nat):Prop:=∀ x∈gF a n,x∉gF a' n'
theorem VGI.fK {w w':World} {base:Nat} {a:Option Addr} {n:Nat} {f:Nat→Int} {S:List Nat} (h:VGI w base a n f) (ht:Touch S w w') (hp:∀ x∈gF a n,x∉S):VGI w' base a n f:=VG.fK h ht hp
def ny (g o n:Nat) (f:Nat→Value) (k:Nat) (w:World):Prop:=∃ arr:Array Value,w.heap[g]?=some (.cells arr 2 (0,0))∧o+n≤arr.size∧∀ i,i<k→arr[o+i]?=some (f i)
theorem ny.there {g o n k:Nat} {f:Nat→Value} {w:World} (h:ny g o n f k w) (i:Nat) (hi:i<n):∃ v,w.cell? ⟨g,o+i,none⟩=some v:=by
 obtain ⟨arr,hb,hn,hc⟩:=h
 exact ⟨arr[o+i],by rw [fG hb];simp⟩
theorem ny.free {g o n k:Nat} {f:Nat→Value} {w:World} (h:ny g o n f k w) (i:Nat):w.frozen? ⟨g,i,none⟩=false:=by
 obtain ⟨arr,hb,hn,hc⟩:=h
 exact fX hb i
theorem ny.step {g o n k:Nat} {f:Nat→Value} {w:World} (h:ny g o n f k w) (hk:k<n):ny g o n f (k+1) (w.setCell ⟨g,o+k,none⟩ (f k)):=by
 obtain ⟨arr,hb,hn,hc⟩:=h
 refine ⟨_,gj hb _,by simpa using hn,fun i hi=>?_⟩
 by_cases e:i=k
 ·
  subst e
  rw [Array.getElem?_setIfInBounds_self_of_lt (by omega)]
 rw [Array.getElem?_setIfInBounds_ne (by omega)]
 exact hc i (by omega)
theorem CZ.at {g o n:Nat} {f:Nat→Value} {w:World} (h:CZ g o n f w) (i:Nat) (hi:i<n):w.cell? ⟨g,o+i,none⟩=some (f i):=by
 obtain ⟨arr,hb,hn,hc⟩:=h
 rw [fG hb];exact hc i hi
theorem yX (g o n cap m:Nat) (f:Nat→Value) (w:World) (h:CZ g o n f w) (hn:n≤1048576) (hm:m≤100000000) :
  Calls Tryz.prog 85 #[.slice (some ⟨g,o,none⟩) n cap,.int .i64 m] w fun e w'=>e=.returned (.int .i64 (m+n:Nat))∧CZ g o n (fun i=>.int .i64 (m+i:Nat)) w'∧Touch [g] w w':=by
 have h0:ny g o n (fun i=>.int .i64 (m+i:Nat)) 0 w:=by
  obtain ⟨arr,h1,h2,h3⟩:=h
  exact ⟨arr,h1,h2,fun i hi=>by omega⟩
 clear h
 go_enter Tryz.func85,Tryz.ntmps85
 go_wp2_with fail
 go_loopw [1,5] (fun x i wr=>∃ k:Nat,k≤n∧i=.int .i64 k∧x=.int .i64 (m+k:Nat)∧ny g o n (fun i=>.int .i64 (m+i:Nat)) k wr∧Touch [g] w wr) (fun _ i _=>n-(intOf i).toNat)
 case atStart=>exact ⟨0,Nat.zero_le _,rfl,rfl,h0,Touch.refl _ _⟩
 clear h0
 obtain ⟨k,hk,rfl,rfl,hR,hT⟩:=hrel
 by_cases hlt:k<n
 ·
  obtain ⟨v,hv⟩:=hR.there k hlt
  have hf:=hR.free (o+k)
  have hlt':(k:Int)<n:=by omega
  go_wp2_with fail
  go_roundw
  case rel=>exact ⟨k+1,by omega,by go_num,by go_num,hR.step hlt,hT.set (by simp) (o+k) _⟩
  case measure=>simp [intOf];omega
 obtain rfl:k=n:=by omega
 go_wp2_with fail
 go_ret
 exact ⟨rfl,hR,hT⟩
theorem zL (g o n cap m:Nat) (w:World) (h:CZ g o n (fun i=>.int .i64 (m+i:Nat)) w) (hn:n≤1048576) (hm:m≤100000000) :
  Calls Tryz.prog 88 #[.slice (some ⟨g,o,none⟩) n cap,.int .i64 m] w fun e w'=>e=.returned (.int .i64 (m+n:Nat))∧w=w':=by
 go_enter Tryz.func88,Tryz.ntmps88
 go_wp2_with fail
 go_loop [1,5] (fun x i=>∃ k:Nat,k≤n∧i=.int .i64 k∧x=.int .i64 (m+k:Nat)) (fun _ i=>n-(intOf i).toNat)
 case atStart=>exact ⟨0,Nat.zero_le _,rfl,rfl⟩
 obtain ⟨k,hk,rfl,rfl⟩:=hrel
 by_cases hlt:k<n
 ·
  have hc:=h.at k hlt
  have hlt':(k:Int)<n:=by omega
  go_wp2_with fail
  go_round
  case rel=>exact ⟨k+1,by omega,by go_num,by go_num⟩
  case measure=>simp [intOf];omega
 obtain rfl:k=n:=by omega
 go_wp2_with fail
 go_ret
 exact ⟨rfl,rfl⟩
theorem lq (a:Option Addr) (n cap m base:Nat) (f:Nat→Int) (w:World) (h:VGI w base a n f) (hn:n≤1048576) (hm:m≤100000000) :
  Calls Tryz.prog 85 #[.slice a n cap,.int .i64 m] w fun e w'=>e=.returned (.int .i64 ((m+n:Nat):Int))∧VGI w' base a n (fun i=>((m+i:Nat):Int))∧Touch (gF a n) w w':=by
 by_cases h0:n=0
 ·
  subst h0
  refine (rr a cap m w).mono ?_
  rintro e w' ⟨rfl,rfl⟩
  exact ⟨by simp,.inl rfl,Touch.refl _ _⟩
 rcases h with h | ⟨g,o,rfl,hg,hr⟩
 ·
  exact absurd h h0
 refine (yX g o n cap m _ w hr hn hm).mono ?_
 rintro e w' ⟨rfl,h1,h2⟩
 refine ⟨rfl,.inr ⟨g,o,rfl,hg,h1⟩,?_⟩
 unfold gF
 rw [if_neg h0]
 exact h2
theorem lu (a:Option Addr) (n cap m base:Nat) (w:World) (h:VGI w base a n (fun i=>((m+i:Nat):Int))) (hn:n≤1048576) (hm:m≤100000000) :
  Calls Tryz.prog 88 #[.slice a n cap,.int .i64 m] w fun e w'=>e=.returned (.int .i64 ((m+n:Nat):Int))∧w=w':=by
 by_cases h0:n=0
 ·
  subst h0
  refine (rY a cap m w).mono ?_
  rintro e w' ⟨rfl,rfl⟩
  exact ⟨by simp,rfl⟩
 rcases h with h | ⟨g,o,rfl,hg,hr⟩
 ·
  exact absurd h h0
 exact zL g o n cap m w hr hn hm
theorem px (a:Option Addr) (n cap m base:Nat) (A:Nat→Option Addr) (L C:Nat→Nat) (z:Nat→Nat→Int) (T:List Nat) (w:World) (hn:n≤1048576) (hs:iD L n≤10000000) (hm:m≤50000000) (hl:∀ i,i<n→L i≤1048576)
  (ha:∀ w',Touch T w w'→fY w' a n fun i=>.slice (A i) (L i) (C i)) (hz:∀ i,i<n→VGI w base (A i) (L i) (z i)) (hp:∀ i j,i<n→j<n→i≠j→wZ (A i) (L i) (A j) (L j)) (hT:∀ i,i<n→∀ x∈gF (A i) (L i),x∈T) :
  Calls Tryz.prog 87 #[.slice a n cap,.int .i64 m] w fun e w'=>e=.returned (.int .i64 ((m+iD L n:Nat):Int))∧(∀ i,i<n→VGI w' base (A i) (L i) (fun j=>((m+iD L i+j:Nat):Int)))∧Touch T w w':=by
 have HA:Hid (∀ w',Touch T w w'→fY w' a n fun i=>.slice (A i) (L i) (C i)):=ha
 have HZ:Hid (∀ i,i<n→VGI w base (A i) (L i) (z i)):=hz
 have HP:Hid (∀ i j,i<n→j<n→i≠j→wZ (A i) (L i) (A j) (L j)):=hp
 have HT:Hid (∀ i,i<n→∀ x∈gF (A i) (L i),x∈T):=hT
 have HL:Hid (∀ i,i<n→L i≤1048576):=hl
 clear ha hz hp hT hl
 go_enter Tryz.func87,Tryz.ntmps87
 go_wp2_with fail
 go_loopw [1,5] (fun x i wr=>∃ (k q:Nat),k≤n∧i=.int .i64 k∧x=.int .i64 q∧q=m+iD L k∧(∀ i,i<k→VGI wr base (A i) (L i) (fun j=>((m+iD L i+j:Nat):Int)))∧(∀ i,k≤i→i<n→VGI wr base (A i) (L i) (z i))∧Touch T w wr) (fun _ i _=>n-(intOf i).toNat)
 case atStart=>exact ⟨0,m,Nat.zero_le _,rfl,rfl,rfl,fun i hi=>by omega,fun i _ hi=>HZ.out i hi,Touch.refl _ _⟩
 obtain ⟨k,q,hk,rfl,rfl,hq,h1,h2,hTo⟩:=hrel
 have HQ:Hid (q=m+iD L k):=hq
 have H1:Hid (∀ i,i<k→VGI wr base (A i) (L i) (fun j=>((m+iD L i+j:Nat):Int))):=h1
 have H2:Hid (∀ i,k≤i→i<n→VGI wr base (A i) (L i) (z i)):=h2
 have hle:=u5 L hk
 clear h1 h2
 by_cases hlt:k<n
 ·
  have hlt':(k:Int)<n:=by omega
  obtain ⟨g,o,rfl,hc⟩:=HA.out wr hTo k hlt
  dsimp only at hc
  clear hq
  go_wp2_with fail
  refine (lq (A k) (L k) (C k) q base (z k) _ (H2.out k (Nat.le_refl _) hlt) (HL.out k hlt) (by have:=HQ.out;omega)).mono ?_
  rintro e w1 ⟨rfl,hv,ht⟩
  have HV:Hid (VGI w1 base (A k) (L k) (fun j=>((m+iD L k+j:Nat):Int))):=by rw [Hid,←HQ.out];exact hv
  have HTo:Hid (Touch T w w1):=hTo.trans (ht.mono (HT.out k hlt))
  have HTk:Hid (Touch (gF (A k) (L k)) wr w1):=ht
  clear hv ht hTo hc
  go_wp2_with fail
  go_roundw
  case rel=>exact ⟨k+1,q+L k,by omega,by go_num,rfl,by show _=m+(iD L k+L k);have:=HQ.out;omega,fun i hi=>by
   by_cases e:i=k
   ·
    subst e;exact HV.out
   ·
    exact (H1.out i (by omega)).fK HTk.out (HP.out i k (by omega) hlt e),fun i hi hi2=>(H2.out i (by omega) hi2).fK HTk.out (HP.out i k hi2 hlt (by omega)),HTo.out⟩
  case measure=>simp [intOf];omega
 obtain rfl:k=n:=by omega
 go_wp2_with fail
 go_ret
 exact ⟨jM (by rw [HQ.out]),H1.out,hTo⟩
theorem pH (a:Option Addr) (n cap m base:Nat) (A:Nat→Option Addr) (L C:Nat→Nat) (w:World) (hn:n≤1048576) (hs:iD L n≤10000000) (hm:m≤50000000) (hl:∀ i,i<n→L i≤1048576)
  (ha:fY w a n fun i=>.slice (A i) (L i) (C i)) (hz:∀ i,i<n→VGI w base (A i) (L i) (fun j=>((m+iD L i+j:Nat):Int))) :
  Calls Tryz.prog 90 #[.slice a n cap,.int .i64 m] w fun e w'=>e=.returned (.int .i64 ((m+iD L n:Nat):Int))∧w=w':=by
 have HA:Hid (fY w a n fun i=>.slice (A i) (L i) (C i)):=ha
 have HZ:Hid (∀ i,i<n→VGI w base (A i) (L i) (fun j=>((m+iD L i+j:Nat):Int))):=hz
 have HL:Hid (∀ i,i<n→L i≤1048576):=hl
 clear ha hz hl
 go_enter Tryz.func90,Tryz.ntmps90
 go_wp2_with fail
 go_loop [1,5] (fun x i=>∃ (k q:Nat),k≤n∧i=.int .i64 k∧x=.int .i64 q∧q=m+iD L k) (fun _ i=>n-(intOf i).toNat)
 case atStart=>exact ⟨0,m,Nat.zero_le _,rfl,rfl,rfl⟩
 obtain ⟨k,q,hk,rfl,rfl,hq⟩:=hrel
 have HQ:Hid (q=m+iD L k):=hq
 have hle:=u5 L hk
 by_cases hlt:k<n
 ·
  have hlt':(k:Int)<n:=by omega
  obtain ⟨g,o,rfl,hc⟩:=HA.out k hlt
  dsimp only at hc
  clear hq
  go_wp2_with fail
  refine (lu (A k) (L k) (C k) q base _ (by rw [HQ.out];exact HZ.out k hlt) (HL.out k hlt) (by have:=HQ.out;omega)).mono ?_
  rintro e w1 ⟨rfl,rfl⟩
  have hq0:¬ ((q+L k:Nat):Int)<0:=by omega
  go_wp2_with fail
  go_round
  case rel=>exact ⟨k+1,q+L k,by omega,by go_num,rfl,by show _=m+(iD L k+L k);have:=HQ.out;omega⟩
  case measure=>simp [intOf];omega
 obtain rfl:k=n:=by omega
 go_wp2_with fail
 go_ret
 exact ⟨jM (by first | rfl | rw [HQ.out] | simp),rfl⟩
theorem Cs (w:World) (a:Int):(convert 133 9 (.slice (some ⟨w.heap.size,0,none⟩) 1 1)).run Tryz.prog (w.alloc (.cells #[.int .u8 a] 5))=.ok (.string (strOfNums [a])) (w.alloc (.cells #[.int .u8 a] 5)):=by
 refine run_convert_bytes_arg _ 133 5 Tryz.underlying133 Tryz.underlying5 w.heap.size 0 1 1 [a] rfl ?_ 9 Tryz.underlying9
 intro i hi
 have:=World.cell?_alloc_mark w #[.int .u8 a] 5 (0,0) (0+i)
 rw [this]
 obtain rfl:i=0:=by omega
 rfl
def xw:Nat→Nat→ByteArray→ByteArray
 | 0,_,out=>out
 | f+1,k,out=>if k=0 then out else xw f (k / 10) (strOfNums [48+(k:Int) % 10]++out)
def mt (k:Nat):ByteArray:=if k=0 then ⟨#[109,48]⟩ else ⟨#[109]⟩++xw k k ⟨#[]⟩
theorem yQ (f:Nat) (out:ByteArray):xw f 0 out=out:=by cases f <;> simp [xw]
theorem yR (f k:Nat) (out:ByteArray) (h:0<k):xw (f+1) k out=xw f (k / 10) (strOfNums [48+(k:Int) % 10]++out):=by
 rw [xw,if_neg (by omega)]
theorem km (k:Nat) (w:World) (hk:k<1000000000000) :
  Calls Tryz.prog 40 #[.int .i64 k] w fun e w'=>e=.returned (.string (mt k))∧Below w.heap.size w w':=by
 by_cases h0:k=0
 ·
  subst h0
  go_enter Tryz.func40,Tryz.ntmps40
  go_wp2_with fail
  go_ret
  exact ⟨rfl,Below.refl _ _⟩
 have hpos:(0:Int)<k:=by omega
 have HM:Hid (mt k=⟨#[109]⟩++xw k k ⟨#[]⟩):=by show _=_;unfold mt;rw [if_neg h0]
 go_enter Tryz.func40,Tryz.ntmps40
 go_wp2_with fail
 go_loopw [0,3] (fun x o wr=>∃ (kk f r:Nat) (out:ByteArray),kk≤f∧kk<10 ^ r∧out.size+r≤12∧x=.int .i64 kk∧o=.string out∧xw f kk out=xw k k ⟨#[]⟩∧Below w.heap.size w wr) (fun x _ _=>(intOf x).toNat)
 case atStart=>exact ⟨k,k,12,⟨#[]⟩,Nat.le_refl _,by omega,Nat.le_refl _,rfl,rfl,rfl,Below.refl _ _⟩
 obtain ⟨kk,f,r,out,hf,hr,hs,rfl,rfl,hm,hB⟩:=hrel
 have HG:Hid (xw f kk out=xw k k ⟨#[]⟩):=hm
 clear hm
 by_cases hz:0<kk
 ·
  have hz':(0:Int)<kk:=by omega
  have hk12:(kk:Int)≤1000000000000:=by
   have:kk<10 ^ 12:=Nat.lt_of_lt_of_le hr (Nat.pow_le_pow_right (by omega) (by omega))
   omega
  have hcv:=Cs wr
  have hd1:∀ a,¬ (9223372036854775807<(strOfNums [a]).size+out.size):=by intro a;rw [strOfNums_size];simp;omega
  go_wp2_with fail
  obtain ⟨f',rfl⟩:∃ f',f=f'+1:=⟨f-1,by omega⟩
  obtain ⟨r',rfl⟩:∃ r',r=r'+1:=by
   cases r with
   | zero=>simp at hr;omega
   | succ r=>exact ⟨r,rfl⟩
  go_roundw
  case rel =>
   refine ⟨kk / 10,f',r',strOfNums [48+(kk:Int) % 10]++out,by omega,?_,?_,by go_num,rfl,?_,hB.alloc hB.size _⟩
   ·
    rw [Nat.pow_succ] at hr;omega
   ·
    rw [ByteArray.size_append,strOfNums_size];simp;omega
   rw [←HG.out,yR f' kk out hz]
  case measure=>simp [intOf];omega
 obtain rfl:kk=0:=by omega
 have hd1:¬ (9223372036854775807<(⟨#[109]⟩:ByteArray).size+out.size):=by show ¬ (_<1+out.size);omega
 have hout:Hid (xw k k ⟨#[]⟩=out):=by have:=HG.out;rw [yQ] at this;exact this.symm
 go_wp2_with fail
 go_ret
 exact ⟨xm (by rw [HM.out,hout.out]),hB⟩
end Go.Proofs.YtfcfpkibceepgaaGreat
