import Derived.Test.YthicmlolanifhaaGreatV35
namespace Go.Proofs.YthicmlolanifhaaGreat
open Go.RowKit
set_option linter.unusedVariables false
set_option linter.unusedSimpArgs false
variable {cs cur:Array Value} {M:Cnt} {T:List Nat} {xs:List Value} {b b2 base base' c c' cl g g6 gk gu i j m n:Nat} {K K':Nat→Pkt} {f:Nat→Value} {a a':Option Addr} {p:Prop} {R:Rnd} {S X Y:Swg} {t:TypeId} {W W' w w':World}
theorem gM (h:p:=by
 have far:∀ x t,(∃ cs,w.heap[x]?=some (.cells cs t (0,0)))→t≠43→x∉[g]:=by
  rintro x t ⟨cs,hx⟩ hne hy
  exact jN hx hk hne (by simpa using hy)
 exact ⟨h.e.iB ht1 (fun x hx=>far x _ (h.e.type x hx) (by decide)),⟨h.n.u.iB ht1 (fun x hx=>far x _ (h.n.u.type x hx) (by decide)),h.n.p.iB ht1 (fun x hx=>far x _ (h.n.p.type x hx) (by decide))⟩,h.k.iB ht1 (fun x hx=>far x _ (h.k.type x hx) (by decide)),h.l.box hk (by decide) (by decide) (by decide) ht1,h.un⟩):p:=h
theorem gR (h:p:=by
 rwa [show q / 8*8+q % 8=q by omega] at this):p:=h
structure TyL (w:World) (base:Nat) (l:Lng):Prop where
 t:VG 2 w base l.aT l.nT fun i=>.int .i64 (l.t i)
 u:VG 27 w base l.aU l.nU fun i=>.slice (l.uA i) (l.uL i) (l.uC i)
 z:∀ i,i<l.nU→VG 2 w base (l.uA i) (l.uL i) fun j=>.int .i64 (l.uz i j)
 q:VG 2 w base l.R.aQ l.R.nQ fun i=>.int .i64 (l.R.q i)
 d:VG 2 w base l.R.aD l.R.nD fun i=>.int .i64 (l.R.d i)
 s:VG 27 w base l.R.aS l.R.nS fun i=>.slice (l.R.A i) (l.R.L i) (l.R.C i)
 y:∀ i,i<l.R.nS→VG 2 w base (l.R.A i) (l.R.L i) fun j=>.int .i64 (l.R.z i j)
theorem ke.ty {l:Lng} (h:ke w base l):TyL w base l:=⟨h.t,h.u,h.z,h.q,h.d,h.s,h.y⟩
theorem TyL.rd {l:Lng} (h:TyL w base l):zP w l:=⟨h.t.read,h.u.read,fun i hi=>(h.z i hi).read,⟨h.q.read,h.d.read,h.s.read,fun i hi=>(h.y i hi).read⟩⟩
theorem TyL.up {l:Lng} (h:TyL w base l) (hb:Below w.heap.size w w'):TyL w' base l :=
 ⟨h.t.up hb,h.u.up hb,fun i hi=>(h.z i hi).up hb,h.q.up hb,h.d.up hb,h.s.up hb,fun i hi=>(h.y i hi).up hb⟩
def Ed (T:List Nat) (w:World):Prop:=∀ x∈T,∃ cs t,w.heap[x]?=some (.cells cs t (0,0))∧t≠2∧t≠27
theorem VG.yJ (h:VG t w base a n f) (ht:Touch T w w') (hT:Ed T w) (h2:t=2∨t=27):VG t w' base a n f :=
 h.iB ht (fun x hx hy=>by
  obtain ⟨c1,k1⟩:=h.type x hx
  obtain ⟨c2,t2,k2,n1,n2⟩:=hT x hy
  rw [k1] at k2
  simp at k2
  rcases h2 with rfl | rfl
  ·
   exact n1 k2.2.symm
  ·
   exact n2 k2.2.symm)
theorem TyL.far {l:Lng} (h:TyL w base l) (ht:Touch T w w') (hT:Ed T w):TyL w' base l :=
 ⟨h.t.yJ ht hT (.inl rfl),h.u.yJ ht hT (.inr rfl),fun i hi=>(h.z i hi).yJ ht hT (.inl rfl),h.q.yJ ht hT (.inl rfl),h.d.yJ ht hT (.inl rfl),h.s.yJ ht hT (.inr rfl),fun i hi=>(h.y i hi).yJ ht hT (.inl rfl)⟩
structure ll (w:World) (base:Nat) (X:Swg) (i:Nat):Prop where
 e:VT 75 w base X.aE (X.nE*3) (flat X.e)
 n:jb w base X.N
 k:VT 50 w base X.aK (X.nK*8) (uq X.K)
 l:VT 48 w base X.aL (X.nL*8) (rJ X.L)
 ls:∀ k,k<X.nL→k≠i→TyL w base (X.L k)
theorem ll.up (h:ll w base X i) (hb:Below w.heap.size w w'):ll w' base X i:=⟨h.e.up hb,h.n.up hb,h.k.up hb,h.l.up hb,fun k hk hi=>(h.ls k hk hi).up hb⟩
theorem TyL.mono {l:Lng} (h:TyL w base l) (hb:base'≤base):TyL w base' l :=
 ⟨h.t.mono hb,h.u.mono hb,fun i hi=>(h.z i hi).mono hb,h.q.mono hb,h.d.mono hb,h.s.mono hb,fun i hi=>(h.y i hi).mono hb⟩
theorem TyL.low {l:Lng} (h:TyL w base l) (ht:Touch T w w') (hT:∀ x∈T,x<base):TyL w' base l :=
 ⟨h.t.low ht hT,h.u.low ht hT,fun i hi=>(h.z i hi).low ht hT,h.q.low ht hT,h.d.low ht hT,h.s.low ht hT,fun i hi=>(h.y i hi).low ht hT⟩
theorem ll.mono (h:ll w base X i) (hb:base'≤base):ll w base' X i:=⟨h.e.mono hb,h.n.mono hb,h.k.mono hb,h.l.mono hb,fun k hk hi=>(h.ls k hk hi).mono hb⟩
theorem ll.low (h:ll w base X i) (ht:Touch T w w') (hT:∀ x∈T,x<base):ll w' base X i:=⟨h.e.low ht hT,h.n.jE ht hT,h.k.low ht hT,h.l.low ht hT,fun k hk hi=>(h.ls k hk hi).low ht hT⟩
theorem ll.rd (h:ll w base X X.nL):lN w X:=⟨h.e.g.Fw,h.n.rd,h.k.g.pks,h.l.g.lns,fun k hk=>(h.ls k hk (by omega)).rd⟩
theorem iP.half (h:iP w base X) (i:Nat):ll w base X i:=⟨h.g.e,h.n,h.g.k,h.g.l,fun k hk _=>(h.g.ls k hk).ty⟩
structure GR (T:List Nat) (w:World) (X:Swg):Prop where
 i:∀ x∈T,∃ cs t,w.heap[x]?=some (.cells cs t (0,0))∧t≠2∧t≠27∧t≠4∧t≠75
 k:∀ x∈T,x∉ju X.aK (X.nK*8)
 l:∀ x∈T,x∉ju X.aL (X.nL*8)
theorem GR.yJ (h:GR T w X):Ed T w:=fun x hx=>by
 obtain ⟨cs,t,k,n1,n2,_⟩:=h.i x hx
 exact ⟨cs,t,k,n1,n2⟩
theorem ll.far (h:ll w base X i) (ht:Touch T w w') (hT:GR T w X):ll w' base X i:=by
 have far:∀ x t,(∃ cs,w.heap[x]?=some (.cells cs t (0,0)))→(t=2∨t=4∨t=75)→x∉T:=by
  rintro x t ⟨cs,hx⟩ ht hy
  obtain ⟨c2,t2,k2,n1,n2,n3,n4⟩:=hT.i x hy
  rw [hx] at k2
  simp at k2
  rcases ht with rfl | rfl | rfl
  ·
   exact n1 k2.2.symm
  ·
   exact n3 k2.2.symm
  exact n4 k2.2.symm
 exact ⟨h.e.iB ht (fun x hx=>far x _ (h.e.type x hx) (.inr (.inr rfl))),⟨h.n.u.iB ht (fun x hx=>far x _ (h.n.u.type x hx) (.inl rfl)),h.n.p.iB ht (fun x hx=>far x _ (h.n.p.type x hx) (.inr (.inl rfl)))⟩,h.k.iB ht (fun x hx hy=>hT.k x hy hx),h.l.iB ht (fun x hx hy=>hT.l x hy hx),fun k hk hi=>(h.ls k hk hi).far ht hT.yJ⟩
theorem ll.box (h:ll w base X i) (hg:w.heap[g]?=some (.cells cs t (0,0))) (ht:Touch [g] w w') (h2:t≠2∧t≠27∧t≠4∧t≠75) (hk:g∉ju X.aK (X.nK*8)) (hl:g∉ju X.aL (X.nL*8)):ll w' base X i :=
 h.far ht ⟨fun x hx=>(List.mem_singleton.1 hx)▸⟨cs,t,hg,h2.1,h2.2.1,h2.2.2.1,h2.2.2.2⟩,fun x hx=>(List.mem_singleton.1 hx)▸hk,fun x hx=>(List.mem_singleton.1 hx)▸hl⟩
theorem VT.rC {t':TypeId} (h:VT t w base a n f) (hg:w.heap[g]?=some (.cells cs t' (0,0))) (hne:t≠t'):g∉ju a n:=fun hx=>by
 obtain ⟨c,k⟩:=h.type g hx
 exact jN k hg hne rfl
theorem yO {o:Nat} (hf:o+cs.size≤cur.size) (h:j<o∨o+cs.size≤j):(lay cur o cs)[j]?=cur[j]?:=by
 rcases h with h | h
 ·
  exact kh hf j h
 unfold lay
 simp only [List.getElem?_toArray]
 rw [List.append_assoc,List.getElem?_append_right (by simp;omega),List.getElem?_append_right (by simp;omega),List.getElem?_drop]
 simp only [List.length_take,Array.length_toList,Array.getElem?_toList]
 congr 1
 omega
theorem ll.EL {gL:Nat} {l2:Lng} (h:ll w base X i) (hi:i<X.nL) (eL:X.aL=some (Hh gL 0)) (kL:w.heap[gL]?=some (.cells cur 48 (0,0))) (hP:Put w W gL (lay cur (i*8) l2.cells) 48) (hl:TyL w base l2):ll W base (X.lane i l2) X.nL:=by
 have hoff:Ed [gL] w:=fun x hx=>by
  obtain rfl:x=gL:=by simpa using hx
  exact ⟨_,_,kL,by decide,by decide⟩
 have far:∀ x t,(∃ cs,w.heap[x]?=some (.cells cs t (0,0)))→t≠48→x∉[gL]:=by
  rintro x t ⟨cs,hx⟩ hne hy
  exact jN hx kL hne (by simpa using hy)
 refine ⟨h.e.iB hP.to (fun x hx=>far x _ (h.e.type x hx) (by decide)),⟨h.n.u.iB hP.to (fun x hx=>far x _ (h.n.u.type x hx) (by decide)),h.n.p.iB hP.to (fun x hx=>far x _ (h.n.p.type x hx) (by decide))⟩,h.k.iB hP.to (fun x hx=>far x _ (h.k.type x hx) (by decide)),?_,fun k hk hk2=>?_⟩
 ·
  show VT 48 W base X.aL (X.nL*8) (rJ (X.lane i l2).L)
  rcases h.l with e | ⟨g,e,hb,arr,k1,k2,k3⟩
  ·
   omega
  have hg:g=gL:=by rw [eL] at e;simp at e;exact e.symm
  subst hg
  rw [kL] at k1
  simp at k1
  subst k1
  have hs:l2.cells.size=8:=l2.iW
  have hf:i*8+l2.cells.size≤cur.size:=by omega
  refine .inr ⟨g,e,hb,_,hP.blk,by rw [jJ hf];exact k2,fun q hq=>?_⟩
  have e1:some (rJ (X.lane i l2).L q)=((X.lane i l2).L (q / 8)).cells[q % 8]?:=by
   have:=mB (X.lane i l2).L (q / 8) (q % 8) (by omega)
   exact gR
  rw [e1]
  show _=(if q / 8=i then l2 else X.L (q / 8)).cells[q % 8]?
  by_cases c:q / 8=i
  ·
   rw [if_pos c]
   have:=jC hf (q % 8) (by omega)
   rwa [show i*8+q % 8=q by omega] at this
  rw [if_neg c,yO hf (by omega),k3 q hq]
  have:=mB X.L (q / 8) (q % 8) (by omega)
  exact gR
 show TyL W base (if k=i then l2 else X.L k)
 by_cases c:k=i
 ·
  rw [if_pos c];exact hl.far hP.to hoff
 rw [if_neg c];exact (h.ls k hk c).far hP.to hoff
theorem ll.setK {x:Pkt} (h:ll w base X i) (hj:j<X.nK) (eK:X.aK=some (Hh gk 0)) (kK:w.heap[gk]?=some (.cells cur 50 (0,0))) (hP:Put w W gk (lay cur (j*8) x.cells) 50) (hK:∀ q,K' q=if q=j then x else X.K q):ll W base { X with K:=K' } i:=by
 have hoff:Ed [gk] w:=fun x hx=>by
  obtain rfl:x=gk:=by simpa using hx
  exact ⟨_,_,kK,by decide,by decide⟩
 have far:∀ x t,(∃ cs,w.heap[x]?=some (.cells cs t (0,0)))→t≠50→x∉[gk]:=by
  rintro x t ⟨cs,hx⟩ hne hy
  exact jN hx kK hne (by simpa using hy)
 refine ⟨h.e.iB hP.to (fun x hx=>far x _ (h.e.type x hx) (by decide)),⟨h.n.u.iB hP.to (fun x hx=>far x _ (h.n.u.type x hx) (by decide)),h.n.p.iB hP.to (fun x hx=>far x _ (h.n.p.type x hx) (by decide))⟩,?_,h.l.iB hP.to (fun x hx=>far x _ (h.l.type x hx) (by decide)),fun k hk hk2=>(h.ls k hk hk2).far hP.to hoff⟩
 show VT 50 W base X.aK (X.nK*8) (uq K')
 rcases h.k with e | ⟨g,e,hb,arr,k1,k2,k3⟩
 ·
  omega
 have hg:g=gk:=by rw [eK] at e;simp at e;exact e.symm
 subst hg
 rw [kK] at k1
 simp at k1
 subst k1
 have hs:x.cells.size=8:=x.iW
 have hf:j*8+x.cells.size≤cur.size:=by omega
 refine .inr ⟨g,e,hb,_,hP.blk,by rw [jJ hf];exact k2,fun q hq=>?_⟩
 have e1:some (uq K' q)=(K' (q / 8)).cells[q % 8]?:=by
  have:=mZ K' (q / 8) (q % 8) (by omega)
  exact gR
 rw [e1,hK]
 by_cases c:q / 8=j
 ·
  rw [if_pos c]
  have:=jC hf (q % 8) (by omega)
  rwa [show j*8+q % 8=q by omega] at this
 rw [if_neg c,yO hf (by omega),k3 q hq]
 have:=mZ X.K (q / 8) (q % 8) (by omega)
 exact gR
theorem VT.at0 (h:VT t w base a n f) (h0:0<n):∃ g cur,a=some (Hh g 0)∧base≤g∧w.heap[g]?=some (.cells cur t (0,0))∧n≤cur.size∧∀ q,q<n→cur[q]?=some (f q):=by
 rcases h with e | ⟨g,e,hb,arr,k1,k2,k3⟩
 ·
  omega
 exact ⟨g,arr,e,hb,k1,k2,k3⟩
structure SpS (w:World) (S X:Swg) (b g6:Nat) (W:World):Prop where
 a:W.heap[w.heap.size]?=some (.cells S.cells 34 (0,0))
 z:W.heap[w.heap.size+1]?=some (.cells zSw 34 (0,0))
 o:W.heap[g6]?=some (.cells X.cells 34 (0,0))
 bel:Below w.heap.size w W
 lo:w.heap.size+1<b
 hi:b≤g6
theorem SpS.up (h:SpS w S X b g6 W) (hb:Below W.heap.size W W'):SpS w S X b g6 W' :=
 ⟨(hb.block _ (iw h.a)).trans h.a,(hb.block _ (iw h.z)).trans h.z,(hb.block _ (iw h.o)).trans h.o,h.bel.trans (hb.mono h.bel.size),h.lo,h.hi⟩
theorem SpS.size (h:SpS w S X b g6 W):b<W.heap.size:=by have:=iw h.o;have:=h.hi;omega
theorem SpS.far (h:SpS w S X b g6 W) (hg:W.heap[g]?=some (.cells cs t (0,0))) (hne:t≠34) (hb:b≤g) (ht:Touch [g] W W'):SpS w S X b g6 W':=by
 have far:∀ {x:Nat} {c:Array Value},W.heap[x]?=some (.cells c 34 (0,0))→W'.heap[x]?=some (.cells c 34 (0,0)):=fun {x c} hx=>(ht.block x (iw hx) (fun hy=>jN hg hx hne (by simpa using hy:x=g).symm)).trans hx
 exact ⟨far h.a,far h.z,far h.o,h.bel.trans (ht.below h.bel.size (fun x hx=>by have:=h.lo;simp at hx;omega)),h.lo,h.hi⟩
theorem SpS.jE (h:SpS w S X b g6 W) (ht:Touch T W W') (hT:∀ x∈T,b≤x∧∃ cs t,W.heap[x]?=some (.cells cs t (0,0))∧t≠34):SpS w S X b g6 W':=by
 have far:∀ {x:Nat} {c:Array Value},W.heap[x]?=some (.cells c 34 (0,0))→W'.heap[x]?=some (.cells c 34 (0,0)):=fun {x c} hx=>(ht.block x (iw hx) (fun hy=>by
  obtain ⟨_,c2,t2,k2,hne⟩:=hT x hy
  exact jN k2 hx hne rfl)).trans hx
 exact ⟨far h.a,far h.z,far h.o,h.bel.trans (ht.below h.bel.size (fun x hx=>by have:=h.lo;have:=(hT x hx).1;omega)),h.lo,h.hi⟩
theorem SpS.put (h:SpS w S X b g6 W) (hP:Put W W' g6 Y.cells 34):SpS w S Y b g6 W' :=
 ⟨(hP.to.block _ (iw h.a) (by have:=h.lo;have:=h.hi;simp;omega)).trans h.a,(hP.to.block _ (iw h.z) (by have:=h.lo;have:=h.hi;simp;omega)).trans h.z,hP.blk,h.bel.trans (hP.to.below h.bel.size (fun x hx=>by have:=h.lo;have:=h.hi;simp at hx;omega)),h.lo,h.hi⟩
theorem Aq (C:Cfg) (N:Cnt) (p q y:Int) (w:World) (hN:Cnt.Ok C N) (h:mq w N) (hp:0≤p∧p≤C.p-1) (hy1:-5≤y) (hy2:y≤5) (hok:Cnt.Ok C (lu N p q y)) :
  Calls Tryz.prog 70 #[.agg C.cells,.agg N.cells,.int .i64 p,.int .i64 q,.int .i64 y] w fun e w'=>∃ M:Cnt,e=.returned (.tuple #[.agg M.cells,.bool true])∧jb w' w.heap.size M∧Below w.heap.size w w'∧iQ (lu N p q y) M:=by
 by_cases e:q=2
 ·
  subst e
  obtain ⟨i,rfl⟩:∃ i:Nat,p=(i:Int):=⟨p.toNat,by omega⟩
  rw [mK] at hok ⊢
  exact qD C N i y w hN h (by have:=hN.nU;omega) hy1 hy2 true ⟨fun _=>hok,fun _=>rfl⟩
 rw [mb e] at hok ⊢
 exact qE C N p q e y w hN h hy1 hy2 true ⟨fun _=>hok,fun _=>rfl⟩
theorem Ci:(Tryz.prog.info? 25).map (·.size)=some 7:=by kernel_rfl
theorem qq:(Tryz.prog.info? 30).map (·.size)=some 3:=by kernel_rfl
theorem vV:(Tryz.prog.info? 48).map (·.size)=some 8:=by kernel_rfl
theorem vR:(Tryz.prog.info? 46).map (·.size)=some 5:=by kernel_rfl
theorem vS:(Tryz.prog.info? 50).map (·.size)=some 8:=by kernel_rfl
theorem Cj:(Tryz.prog.info? 27).map (·.size)=some 1:=by kernel_rfl
theorem Fp:(Tryz.prog.info? 31).map (·.size)=some 1:=by kernel_rfl
theorem Gc:(Tryz.prog.info? 2).map (fun i=>(i.zero,i.size,i.bytes))=some (some (.int .i64 0),1,8):=by kernel_rfl
theorem Cnt.mc (N:Cnt):N.cells.all (·.oneCell')=true:=by simp [Cnt.cells,Value.oneCell']
theorem iP.mJ (h:iP w base S) (ho:OG 43 5 w b2 a n c xs) (ht:Touch (iR a) w w'):iP w' base S:=by
 rcases ho.2 with ⟨e,_⟩ | ⟨g,cap,cur,e,_,hk,_⟩
 ·
  cases e
  exact h.up (ht.below (Nat.le_refl _) (by simp [iR]))
 cases e
 have ht1:Touch [g] w w':=ht
 exact gM
theorem iP.Gf (h:iP w base S) (hk:w.heap[g]?=some (.cells cs 43 (0,0))) (ht1:Touch [g] w w'):iP w' base S:=gM
theorem ll.mJ (h:ll w base S i) (ho:OG 43 5 w b2 a n c xs) (ht:Touch (iR a) w w'):ll w' base S i:=by
 rcases ho.2 with ⟨e,_⟩ | ⟨g,cap,cur,e,_,hk,_⟩
 ·
  cases e
  exact h.up (ht.below (Nat.le_refl _) (by simp [iR]))
 cases e
 exact h.box hk ht ⟨by decide,by decide,by decide,by decide⟩ (h.k.rC hk (by decide)) (h.l.rC hk (by decide))
theorem SpS.mJ (h:SpS w S X b g6 W) (ho:OG 43 5 W b a n c xs) (ht:Touch (iR a) W W'):SpS w S X b g6 W' :=
 h.jE ht (fun x hx=>⟨(ho.blk x hx).1,by obtain ⟨cs,hc⟩:=ho.type x hx;exact ⟨cs,_,hc,by decide⟩⟩)
theorem iP.GH {P:Swg} {w0:World} (h:iP w base P) (h0:iP w0 base P) (hM:jb w w0.heap.size M) (hb:base≤w0.heap.size):iP w base { P with N:=M } :=
 ⟨h.e,hM.mono hb,h.k,h.l,fun x hx hy=>by
  have h1:=(hM.u.blk x hx).1
  simp only [List.mem_flatMap,List.mem_range] at hy
  obtain ⟨i,hi,hy⟩:=hy
  have:=((h0.l.ls i hi).blk x hy).2
  omega⟩
theorem zw (n:Nat) (f:Nat→Int):(lB n f).length=n:=by unfold lB;simp
theorem DP (n:Nat) (f:Nat→Int):∀ u∈lB n f,u.oneCell'=true:=by
 intro u hu
 unfold lB at hu
 simp only [List.mem_map,List.mem_range] at hu
 obtain ⟨i,_,rfl⟩:=hu
 rfl
theorem GD {f:Nat→Int} (h:iX w a n fun i=>.int .i64 (f i)):CQ w a (lB n f):=fun j u hj=>by
 have hlt:j<n:=by
  have:=(List.getElem?_eq_some_iff.1 hj).1
  rwa [zw] at this
 rw [yR n f j hlt] at hj
 simp at hj
 subst hj
 exact h j hlt
theorem CN {V:World} {gz:Nat} {f:Nat→Int} (h:OI V b (some (Hh gz 0)) n c f) (hn:n≠0) (hle:n≤1048576) :
  ∃ a' c' W',(Builtin.append_ #[27,27] 27 #[.slice (some (Hh V.heap.size 0)) 0 0,.slice (some (Hh gz (rD 0 c))) (n-1) (c-1)]).run Tryz.prog (V.alloc (.cells #[] 2))=.ok (.slice a' (n-1) c') W'∧OI W' V.heap.size a' (n-1) c' (fun k=>f (k+1))∧Below V.heap.size V W' :=
 nh 27 2 (.int .i64 0) 1 8 Gc Tryz.underlying27 rfl (by decide) (by decide) (by omega) (by rw [zw,Nat.mul_one]) (GD (f:=fun k=>f (k+1)) ((h.vgI.drop hn (OG.cap (t:=2) (sz:=1) h)).read)) (DP _ _)
theorem OI.some {f:Nat→Int} (h:OI w base a n c f) (h0:n≠0):∃ g,a=some (Hh g 0)∧w.cell? (Hh g 0)=some (.int .i64 (f 0)):=by
 have h2:OG 2 1 w base a n c (lB n f):=h
 obtain ⟨g,cur,e,k1,k2,k3⟩:=h2.at0 (by omega)
 refine ⟨g,e,?_⟩
 rw [iv k1,k3 0 (by omega),yR n f 0 (by omega)]
theorem TyL.Ex {l:Lng} (h:TyL w base l) (ho:OI w base a' (l.nT-1) c' fun k=>l.t (k+1)):TyL w base { l with aT:=a',nT:=l.nT-1,cT:=c',t:=fun k=>l.t (k+1) }:=⟨ho.vgI,h.u,h.z,h.q,h.d,h.s,h.y⟩
theorem TyL.vF {l:Lng} (h:TyL w base l) (ho:jx w b2 R) (hb:base≤b2):TyL w base { l with R:=R }:=⟨h.t,h.u,h.z,ho.q.g.mono hb,ho.d.g.mono hb,ho.s.g.mono hb,fun i hi=>(ho.z i hi).g.mono hb⟩
theorem VI.yJ {f:Nat→Int} (h:VI w base a n f) (ht:Touch T w w') (hT:Ed T w):VI w' base a n f:=by
 rcases h with h | ⟨g,e,hb,arr,k1,k2,k3⟩
 ·
  exact .inl h
 refine .inr ⟨g,e,hb,arr,(ht.block g (iw k1) (fun hy=>?_)).trans k1,k2,k3⟩
 obtain ⟨c2,t2,k4,n1,n2⟩:=hT g hy
 rw [k1] at k4
 simp at k4
 exact n1 k4.2.symm
theorem VS.yJ (h:VS w base a n f) (ht:Touch T w w') (hT:Ed T w):VS w' base a n f:=by
 rcases h with h | ⟨g,e,hb,arr,k1,k2,k3⟩
 ·
  exact .inl h
 refine .inr ⟨g,e,hb,arr,(ht.block g (iw k1) (fun hy=>?_)).trans k1,k2,k3⟩
 obtain ⟨c2,t2,k4,n1,n2⟩:=hT g hy
 rw [k1] at k4
 simp at k4
 exact n2 k4.2.symm
theorem jx.GG (h:jx w base R) (hT:Ed T w) (ht:Touch T w w'):jx w' base R :=
 ⟨h.q.yJ ht hT,h.d.yJ ht hT,h.s.yJ ht hT,fun i hi=>(h.z i hi).yJ ht hT,h.qd,h.qz,h.dz,h.zz⟩
theorem yG {l:Lng} {M:Rnd} {s:Int} (hl:ni m K l) (hp:tz l.R M (cl:Int) s):cl<2∧l.uL cl≠0:=by
 rcases hp with ⟨hno,_⟩ | ⟨_,_,_,e,_⟩ | ⟨ho,_,k,c',hpk,e⟩
 ·
  exact absurd hl.r hno
 ·
  omega
 have e2:c'=cl:=by omega
 subst e2
 have hc2:c'<2:=by
  have:=(hpk.ok ho).2.2.1
  have:=hl.n
  omega
 exact ⟨hc2,by rw [(hl.z c' hc2).2.1];exact hpk.rows.1⟩
theorem VG.tg (h:VG 2 w base a n f) (kU:w.heap[gu]?=some (.cells cs 27 (0,0))) (ht:Touch [gu] w w'):VG 2 w' base a n f :=
 h.iB ht (fun x hx hy=>by
  obtain ⟨c1,k1⟩:=h.type x hx
  exact jN k1 kU (by decide) (by simpa using hy))
theorem TyL.Ff {l:Lng} (h:TyL w base l) (kU:w.heap[gu]?=some (.cells cs 27 (0,0))) (ht:Touch [gu] w w') (hu:gu∉ju l.aU l.nU) (hs:gu∉ju l.R.aS l.R.nS):TyL w' base l :=
 ⟨h.t.tg kU ht,h.u.iB ht (fun x hx hy=>hu ((List.mem_singleton.1 hy)▸hx)),fun i hi=>(h.z i hi).tg kU ht,h.q.tg kU ht,h.d.tg kU ht,h.s.iB ht (fun x hx hy=>hs ((List.mem_singleton.1 hy)▸hx)),fun i hi=>(h.y i hi).tg kU ht⟩
theorem ll.Ff (h:ll w base X i) (kU:w.heap[gu]?=some (.cells cs 27 (0,0))) (ht:Touch [gu] w w') (hL:∀ k,k<X.nL→k≠i→gu∉ju (X.L k).aU (X.L k).nU∧gu∉ju (X.L k).R.aS (X.L k).R.nS):ll w' base X i:=by
 have far:∀ x t,(∃ cs,w.heap[x]?=some (.cells cs t (0,0)))→t≠27→x∉[gu]:=by
  rintro x t ⟨cs,hx⟩ hne hy
  exact jN hx kU hne (by simpa using hy)
 exact ⟨h.e.iB ht (fun x hx=>far x _ (h.e.type x hx) (by decide)),⟨h.n.u.iB ht (fun x hx=>far x _ (h.n.u.type x hx) (by decide)),h.n.p.iB ht (fun x hx=>far x _ (h.n.p.type x hx) (by decide))⟩,h.k.iB ht (fun x hx=>far x _ (h.k.type x hx) (by decide)),h.l.iB ht (fun x hx=>far x _ (h.l.type x hx) (by decide)),fun k hk hki=>(h.ls k hk hki).Ff kU ht (hL k hk hki).1 (hL k hk hki).2⟩
theorem D5 (a:Option Addr) (n:Nat):∀ x∈ju a n,x∈iR a:=fun x hx=>(nc a n).subset hx
theorem iP.pg (h:iP w base X) (hi:i<X.nL) (hg:gu∈iR (X.L i).aU):∀ k,k<X.nL→k≠i→gu∉ju (X.L k).aU (X.L k).nU∧gu∉ju (X.L k).R.aS (X.L k).R.nS:=fun k hk hne=>by
 have hx:gu∉(X.L k).pg:=nJ X.nL h.l.td i k hi hk (fun e=>hne e.symm) gu (by unfold Lng.pg;exact List.mem_append.2 (.inl hg))
 unfold Lng.pg at hx
 rw [List.mem_append] at hx
 exact ⟨fun h1=>hx (.inl (D5 _ _ gu h1)),fun h1=>hx (.inr h1)⟩
def Lng.FN (l:Lng) (c:Nat) (a':Option Addr) (c':Nat) (R:Rnd):Lng:={ l with uA:=fun k=>if k=c then a' else l.uA k,uL:=mj l.uL c (l.uL c-1),uC:=fun k=>if k=c then c' else l.uC k,uz:=sj l.uz c (fun j=>l.uz c (j+1)),R:=R }
theorem TyL.FN {l:Lng} (h:TyL w base { l with R:=R }) (eU:l.aU=some (Hh gu 0)) (kU:w.heap[gu]?=some (.cells cur 27 (0,0))) (hsz:l.nU≤cur.size) (hcl:cl<l.nU) (hP:Put w W gu (lay cur cl #[.slice a' (l.uL cl-1) c']) 27) (ho:OI w base a' (l.uL cl-1) c' fun k=>l.uz cl (k+1)) (hs:gu∉ju R.aS R.nS) (hc:∀ k,k<l.nU→cur[k]?=some (.slice (l.uA k) (l.uL k) (l.uC k))) (hb:base≤gu):TyL W base (l.FN cl a' c' R):=by
 have hf:cl+(#[.slice a' (l.uL cl-1) c']:Array Value).size≤cur.size:=by simp;omega
 refine ⟨h.t.tg kU hP.to,?_,fun k hk=>?_,h.q.tg kU hP.to,h.d.tg kU hP.to,h.s.iB hP.to (fun x hx hy=>hs ((List.mem_singleton.1 hy)▸hx)),fun i hi=>(h.y i hi).tg kU hP.to⟩
 ·
  show VG 27 W base l.aU l.nU fun k=>.slice (if k=cl then a' else l.uA k) (mj l.uL cl (l.uL cl-1) k) (if k=cl then c' else l.uC k)
  rw [eU]
  refine .inr ⟨gu,0,rfl,hb,_,hP.blk,by rw [jJ hf];omega,fun k hk=>?_⟩
  rw [Nat.zero_add]
  dsimp only
  by_cases e:k=cl
  ·
   subst e
   rw [if_pos rfl,if_pos rfl,jD]
   exact jC hf 0 (by simp)
  rw [if_neg e,if_neg e,js e,yO hf (by simp;omega)]
  exact hc k hk
 show VG 2 W base (if k=cl then a' else l.uA k) (mj l.uL cl (l.uL cl-1) k) fun j=>.int .i64 (sj l.uz cl (fun j=>l.uz cl (j+1)) k j)
 by_cases e:k=cl
 ·
  subst e
  rw [if_pos rfl,jD,mg]
  exact ho.vgI.tg kU hP.to
 rw [if_neg e,js e,pd e]
 exact (h.z k hk).tg kU hP.to
theorem EX (h:∀ i,i<n→K i=K' i):qm n K=qm n K':=by
 induction n with
 | zero=>rfl
 | succ n ih=>rw [lJ,lJ,ih (fun i hi=>h i (by omega)),h n (by omega)]
theorem Bq (K:Nat→Pkt) (j:Nat):∀ m,qm j K++qm m (fun q=>K (j+1+q))=qm (j+m) (rmK K j)
 | 0=>by
  show qm j K++[]=qm j (rmK K j)
  rw [List.append_nil]
  exact EX (fun i hi=>(pq hi).symm)
 | m+1=>by
  rw [lJ,←List.append_assoc,Bq K j m,show j+(m+1)=j+m+1 by omega,lJ,pT (show j≤j+m by omega),show j+1+m=j+m+1 by omega]
theorem Aa (gk n c k:Nat) (w:World) (hk:k≤n) (hc:n≤c) :
  (Instr.slice 31 (.slice (some (Hh gk 0)) n c) (some (.int .i64 (k:Int))) none none).run Tryz.prog w=.ok (.slice (some (Hh gk (if c=k then 0 else k*8))) (n-k) (c-k)) w:=by
 have h1:(k:Int)≤(n:Int):=by omega
 have h3:(0:Int)≤(k:Int):=by omega
 have h4:(n:Int)≤(c:Int):=by omega
 by_cases h5:c=k
 ·
  have h2:c-k=0:=by omega
  simp [go_sem,h1,h2,h3,h4,h5]
 have h2:¬ c-k=0:=by omega
 simp [go_sem,h1,h2,h3,h4,h5]
theorem BZ:(Tryz.prog.info? 50).map (fun i=>(i.zero,i.size,i.bytes))=some (some (.agg zPk.cells),8,72):=by kernel_rfl
theorem pP.tail (h:pP w (some (Hh gk 0)) n K) (hm:j+1+m≤n):pP w (some (Hh gk ((j+1)*8))) m (fun q=>K (j+1+q)):=fun i hi =>
 ⟨gk,(j+1)*8,rfl,fun q hq=>by
  have:=h.cell (i:=j+1+i) (by omega) q hq
  rw [show 0+(j+1+i)*8+q=(j+1)*8+i*8+q by omega] at this
  exact this⟩
theorem Gn {D:World} (h:pP D (some (Hh gk 0)) n K) (hj:j<n) (hc:n≤c) (hn:n≤1048576) :
  ∃ a1 c1 W1,(Builtin.append_ #[31,31] 31 #[.slice (some (Hh D.heap.size 0)) 0 0,.slice (some (Hh gk 0)) j c]).run Tryz.prog (D.alloc (.cells #[] 50))=.ok (.slice a1 j c1) W1∧Below D.heap.size D W1 ∧
  ∃ a2 c2 W2,(Builtin.append_ #[31,31] 31 #[.slice a1 j c1,.slice (some (Hh gk (if c=j+1 then 0 else (j+1)*8))) (n-(j+1)) (c-(j+1))]).run Tryz.prog W1=.ok (.slice a2 (n-1) c2) W2∧OG 50 8 W2 D.heap.size a2 (n-1) c2 (qm (n-1) (rmK K j))∧Below D.heap.size D W2:=by
 have hlo:pP D (some (Hh gk 0)) j K:=fun i hi=>h i (by omega)
 obtain ⟨a1,c1,W1,r1,o1,b1⟩:=nh (V:=D) (c:=c) 31 50 _ 8 72 BZ Tryz.underlying31 rfl (by decide) (by decide) (by omega) (mT j K) hlo.cs (sr j K)
 refine ⟨a1,c1,W1,r1,b1,?_⟩
 have hrd:CQ W1 (some (Hh gk (if c=j+1 then 0 else (j+1)*8))) (qm (n-(j+1)) (fun q=>K (j+1+q))):=by
  by_cases e:n=j+1
  ·
   rw [show n-(j+1)=0 by omega]
   intro q u hq
   simp [qm] at hq
  rw [if_neg (by omega)]
  exact ((h.up b1).tail (by omega)).cs
 obtain ⟨a2,c2,W2,r2,o2,t2,_⟩:=rO (c:=c-(j+1)) 31 50 _ 8 72 BZ Tryz.underlying31 rfl (by decide) (by decide) o1 b1.size (by omega) (mT _ _) hrd (sr _ _)
 rw [Bq] at o2
 rw [show j+(n-(j+1))=n-1 by omega] at r2 o2
 exact ⟨a2,c2,W2,r2,o2,b1.trans (t2.below b1.size (fun x hx=>(o1.blk x hx).1))⟩
theorem DT (ts:List Pkt) (x:Pkt):(tV (ts.length+1) fun k=>(fsF (ts++[x]) k).frame)=(tV ts.length fun k=>(fsF ts k).frame)++x.frame.toList:=by
 rw [rq]
 congr 1
 ·
  exact FU (fun q hq=>by unfold fsF;rw [List.getElem?_append_left hq])
 unfold fsF;simp
theorem EK {Z1 Z2:World} (h:SpS w S Y b g6 Z1) (hh:ll Z1 b Y Y.nL) (ho:OG 43 5 Z1 b a n c xs) (hP:Put Z1 Z2 (w.heap.size+1) cs 34):ll Z2 w.heap.size Y Y.nL∧OG 43 5 Z2 w.heap.size a n c xs∧Below w.heap.size w Z2:=by
 have hlo:=h.lo
 exact ⟨(hh.box h.z hP.to ⟨by decide,by decide,by decide,by decide⟩ (hh.k.rC h.z (by decide)) (hh.l.rC h.z (by decide))).mono (by omega),(ho.iB hP.to (fun x hx hy=>ho.mv (by decide) h.z (by simp at hy;rw [←hy];exact hx))).mono (by omega),h.bel.trans (hP.to.below h.bel.size (fun x hx=>by simp at hx;omega))⟩
structure SpY (S S' Y:Swg) (id:Int) (ts fs:List Pkt):Prop where
 n:Y.nK≤1048576
 cap:Y.nK≤Y.cK
 k:lC Y.nx Y.C.p Y.nK Y.K
 refs:∀ j,j<Y.nK→1≤(Y.K j).refs∧(Y.K j).refs≤12000
 cn:Cnt.Ok Y.C Y.N
 rel:∀ j,j<Y.nK→Cnt.Ok Y.C (lu Y.N (Y.K j).inn (Y.K j).p (-(Y.K j).cl))
 c:Y.C=S.C
 ax:(id=0∧iE S' Y∧fs=ts)∨(id≠0∧∃ j,j<Y.nK∧(Y.K j).id=id∧fs=ts++[Y.K j]∧(((Y.K j).refs≠1∧iE S' { Y with K:=jM Y.K j })∨((Y.K j).refs=1∧iE S' { Y with nK:=Y.nK-1,K:=rmK Y.K j,N:=lu Y.N (Y.K j).inn (Y.K j).p (-(Y.K j).cl) })))
theorem spY {S' X':Swg} {l' l2:Lng} {id:Int} {ts gs fs:List Pkt} (hok:X.Ok) (hs:X.Small) (hcap:X.nK≤X.cK) (hC:X.C=S.C) (hal:iT l' l2) (efs:fs=ts++gs) (hA:iE S' X')
  (hc:(id=0∧X'=X.lane i l'∧gs=[])∨(id≠0∧∃ j,j<X.nK∧(X.K j).id=id∧gs=[X.K j]∧(((X.K j).refs≠1∧X'={ X.lane i l' with K:=jM X.K j })∨((X.K j).refs=1∧X'={ X.lane i l' with nK:=X.nK-1,K:=rmK X.K j,N:=lu X.N (X.K j).inn (X.K j).p (-(X.K j).cl) })))):SpY S S' (X.lane i l2) id ts fs:=by
 have HLA:=nI (iE.refl X) i hal
 refine ⟨hs.k,hcap,hok.k,fun j hj=>?_,hok.n,fun j hj=>(hok.rel hj).2,hC,?_⟩
 ·
  have h1:=hok.uK hj
  have h2:(X.nL:Int)≤4:=by rw [hok.nl];exact hok.n.c.num.p.2
  exact ⟨h1.1,by have:=h1.2;show (X.K j).refs≤12000;omega⟩
 rcases hc with ⟨q1,q2,q3⟩ | ⟨q1,j,q2,q3,q4,⟨q5,q6⟩ | ⟨q5,q6⟩⟩
 ·
  exact .inl ⟨q1,by rw [q2] at hA;exact hA.trans HLA,by rw [efs,q3,List.append_nil]⟩
 ·
  refine .inr ⟨q1,j,q2,q3,by rw [efs,q4];rfl,.inl ⟨q5,?_⟩⟩
  rw [q6] at hA
  exact hA.trans ⟨HLA.c,HLA.now,HLA.nx,HLA.nE,HLA.e,HLA.n,HLA.nK,rfl,HLA.nL,HLA.l,HLA.dr,HLA.lst⟩
 refine .inr ⟨q1,j,q2,q3,by rw [efs,q4];rfl,.inr ⟨q5,?_⟩⟩
 rw [q6] at hA
 exact hA.trans ⟨HLA.c,HLA.now,HLA.nx,HLA.nE,HLA.e,iQ.refl _,rfl,rfl,HLA.nL,HLA.l,HLA.dr,HLA.lst⟩
theorem ll.newRow (h:ll w base Y i) (ho:OG 50 8 w b2 a n c (qm n K)) (hb:base≤b2):ll w base { Y with aK:=a,nK:=n,cK:=c,K:=K } i :=
 ⟨h.e,h.n,(ho.vt (fun i hi=>xl _ _ i hi)).mono hb,h.l,h.ls⟩
theorem ll.GH (h:ll w base Y i) (hM:jb w b2 M) (hb:base≤b2):ll w base { Y with N:=M } i:=⟨h.e,hM.mono hb,h.k,h.l,h.ls⟩
theorem Fz (K:Nat→Pkt) (j:Nat):∀ q,jM K j q=if q=j then { K j with refs:=(K j).refs-1 } else K q:=fun q=>by
 unfold jM
 by_cases e:q=j
 ·
  subst e;rw [if_pos rfl]
 rw [if_neg e,if_neg e]
theorem FF (h:g≠gk):g∉ju (some (Hh gk 0)) n:=by
 unfold ju
 split
 ·
  simp
 simp;exact h
theorem jb.GF {N:Cnt} (h:jb w base N) (hg:w.heap[g]?=some (.cells cs t (0,0))) (h2:2≠t) (h4:4≠t) (ht:Touch [g] w w'):jb w' base N :=
 ⟨h.u.iB ht (fun x hx hy=>h.u.rC hg h2 ((List.mem_singleton.1 hy)▸hx)),h.p.iB ht (fun x hx hy=>h.p.rC hg h4 ((List.mem_singleton.1 hy)▸hx))⟩
