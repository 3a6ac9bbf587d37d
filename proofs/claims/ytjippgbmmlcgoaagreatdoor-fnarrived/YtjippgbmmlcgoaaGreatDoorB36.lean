import Derived.Test.YtjippgbmmlcgoaaGreatDoorB35
namespace Go.Proofs.YtjippgbmmlcgoaaGreatDoor
open Go.RowKit
set_option linter.unusedVariables false
set_option linter.unusedSimpArgs false
variable {cs cur:Array Value} {M:Cnt} {T:List Nat} {xs:List Value} {b b2 base base' c c' cl g g6 gk gu i j m n:Nat} {K K':Nat→Pkt} {f:Nat→Value} {a a':Option Addr} {p:Prop} {R:Rnd} {S X Y:Swg} {t:TypeId} {W W' w w':World}
theorem gx (h:p:=by
 have far:∀ x t,(∃ cs,w.heap[x]?=some (.cells cs t (0,0)))→t≠36→x∉[g]:=by
  rintro x t ⟨cs,hx⟩ hne hy
  exact rY hx hk hne (by simpa using hy)
 exact ⟨h.e.iu ht1 (fun x hx=>far x _ (h.e.type x hx) (by decide)),⟨h.n.u.iu ht1 (fun x hx=>far x _ (h.n.u.type x hx) (by decide)),h.n.p.iu ht1 (fun x hx=>far x _ (h.n.p.type x hx) (by decide))⟩,h.k.iu ht1 (fun x hx=>far x _ (h.k.type x hx) (by decide)),h.l.box hk (by decide) (by decide) (by decide) ht1,h.un⟩):p:=h
theorem gy (h:p:=by
 rwa [show q / 8*8+q % 8=q by omega] at this):p:=h
structure TyL (w:World) (base:Nat) (l:Lng):Prop where
 t:VG 2 w base l.aT l.nT fun i=>.int .i64 (l.t i)
 u:VG 27 w base l.aU l.nU fun i=>.slice (l.uA i) (l.uL i) (l.uC i)
 z:∀ i,i<l.nU→VG 2 w base (l.uA i) (l.uL i) fun j=>.int .i64 (l.uz i j)
 q:VG 2 w base l.R.aQ l.R.nQ fun i=>.int .i64 (l.R.q i)
 d:VG 2 w base l.R.aD l.R.nD fun i=>.int .i64 (l.R.d i)
 s:VG 27 w base l.R.aS l.R.nS fun i=>.slice (l.R.A i) (l.R.L i) (l.R.C i)
 y:∀ i,i<l.R.nS→VG 2 w base (l.R.A i) (l.R.L i) fun j=>.int .i64 (l.R.z i j)
theorem AD.ty {l:Lng} (h:AD w base l):TyL w base l:=⟨h.t,h.u,h.z,h.q,h.d,h.s,h.y⟩
theorem TyL.rd {l:Lng} (h:TyL w base l):zo w l:=⟨h.t.read,h.u.read,fun i hi=>(h.z i hi).read,⟨h.q.read,h.d.read,h.s.read,fun i hi=>(h.y i hi).read⟩⟩
theorem TyL.up {l:Lng} (h:TyL w base l) (hb:Below w.heap.size w w'):TyL w' base l :=
 ⟨h.t.up hb,h.u.up hb,fun i hi=>(h.z i hi).up hb,h.q.up hb,h.d.up hb,h.s.up hb,fun i hi=>(h.y i hi).up hb⟩
def DX (T:List Nat) (w:World):Prop:=∀ x∈T,∃ cs t,w.heap[x]?=some (.cells cs t (0,0))∧t≠2∧t≠27
theorem VG.ya (h:VG t w base a n f) (ht:Touch T w w') (hT:DX T w) (h2:t=2∨t=27):VG t w' base a n f :=
 h.iu ht (fun x hx hy=>by
  obtain ⟨c1,k1⟩:=h.type x hx
  obtain ⟨c2,t2,k2,n1,n2⟩:=hT x hy
  rw [k1] at k2
  simp at k2
  rcases h2 with rfl | rfl
  ·
   exact n1 k2.2.symm
  ·
   exact n2 k2.2.symm)
theorem TyL.far {l:Lng} (h:TyL w base l) (ht:Touch T w w') (hT:DX T w):TyL w' base l :=
 ⟨h.t.ya ht hT (.inl rfl),h.u.ya ht hT (.inr rfl),fun i hi=>(h.z i hi).ya ht hT (.inl rfl),h.q.ya ht hT (.inl rfl),h.d.ya ht hT (.inl rfl),h.s.ya ht hT (.inr rfl),fun i hi=>(h.y i hi).ya ht hT (.inl rfl)⟩
structure kj (w:World) (base:Nat) (X:Swg) (i:Nat):Prop where
 e:VT 71 w base X.aE (X.nE*3) (flat X.e)
 n:iN w base X.N
 k:VT 51 w base X.aK (X.nK*8) (xg X.K)
 l:VT 47 w base X.aL (X.nL*8) (xh X.L)
 ls:∀ k,k<X.nL→k≠i→TyL w base (X.L k)
theorem kj.up (h:kj w base X i) (hb:Below w.heap.size w w'):kj w' base X i:=⟨h.e.up hb,h.n.up hb,h.k.up hb,h.l.up hb,fun k hk hi=>(h.ls k hk hi).up hb⟩
theorem TyL.mono {l:Lng} (h:TyL w base l) (hb:base'≤base):TyL w base' l :=
 ⟨h.t.mono hb,h.u.mono hb,fun i hi=>(h.z i hi).mono hb,h.q.mono hb,h.d.mono hb,h.s.mono hb,fun i hi=>(h.y i hi).mono hb⟩
theorem TyL.low {l:Lng} (h:TyL w base l) (ht:Touch T w w') (hT:∀ x∈T,x<base):TyL w' base l :=
 ⟨h.t.low ht hT,h.u.low ht hT,fun i hi=>(h.z i hi).low ht hT,h.q.low ht hT,h.d.low ht hT,h.s.low ht hT,fun i hi=>(h.y i hi).low ht hT⟩
theorem kj.mono (h:kj w base X i) (hb:base'≤base):kj w base' X i:=⟨h.e.mono hb,h.n.mono hb,h.k.mono hb,h.l.mono hb,fun k hk hi=>(h.ls k hk hi).mono hb⟩
theorem kj.low (h:kj w base X i) (ht:Touch T w w') (hT:∀ x∈T,x<base):kj w' base X i:=⟨h.e.low ht hT,h.n.kk ht hT,h.k.low ht hT,h.l.low ht hT,fun k hk hi=>(h.ls k hk hi).low ht hT⟩
theorem kj.rd (h:kj w base X X.nL):lr w X:=⟨h.e.g.DB,h.n.rd,h.k.g.pks,h.l.g.lns,fun k hk=>(h.ls k hk (by omega)).rd⟩
theorem iG.half (h:iG w base X) (i:Nat):kj w base X i:=⟨h.g.e,h.n,h.g.k,h.g.l,fun k hk _=>(h.g.ls k hk).ty⟩
structure GG (T:List Nat) (w:World) (X:Swg):Prop where
 i:∀ x∈T,∃ cs t,w.heap[x]?=some (.cells cs t (0,0))∧t≠2∧t≠27∧t≠4∧t≠71
 k:∀ x∈T,x∉ku X.aK (X.nK*8)
 l:∀ x∈T,x∉ku X.aL (X.nL*8)
theorem GG.ya (h:GG T w X):DX T w:=fun x hx=>by
 obtain ⟨cs,t,k,n1,n2,_⟩:=h.i x hx
 exact ⟨cs,t,k,n1,n2⟩
theorem kj.far (h:kj w base X i) (ht:Touch T w w') (hT:GG T w X):kj w' base X i:=by
 have far:∀ x t,(∃ cs,w.heap[x]?=some (.cells cs t (0,0)))→(t=2∨t=4∨t=71)→x∉T:=by
  rintro x t ⟨cs,hx⟩ ht hy
  obtain ⟨c2,t2,k2,n1,n2,n3,n4⟩:=hT.i x hy
  rw [hx] at k2
  simp at k2
  rcases ht with rfl | rfl | rfl
  ·
   exact n1 k2.2.symm
  ·
   exact n3 k2.2.symm
  exact n4 k2.2.symm
 exact ⟨h.e.iu ht (fun x hx=>far x _ (h.e.type x hx) (.inr (.inr rfl))),⟨h.n.u.iu ht (fun x hx=>far x _ (h.n.u.type x hx) (.inl rfl)),h.n.p.iu ht (fun x hx=>far x _ (h.n.p.type x hx) (.inr (.inl rfl)))⟩,h.k.iu ht (fun x hx hy=>hT.k x hy hx),h.l.iu ht (fun x hx hy=>hT.l x hy hx),fun k hk hi=>(h.ls k hk hi).far ht hT.ya⟩
theorem kj.box (h:kj w base X i) (hg:w.heap[g]?=some (.cells cs t (0,0))) (ht:Touch [g] w w') (h2:t≠2∧t≠27∧t≠4∧t≠71) (hk:g∉ku X.aK (X.nK*8)) (hl:g∉ku X.aL (X.nL*8)):kj w' base X i :=
 h.far ht ⟨fun x hx=>(List.mem_singleton.1 hx)▸⟨cs,t,hg,h2.1,h2.2.1,h2.2.2.1,h2.2.2.2⟩,fun x hx=>(List.mem_singleton.1 hx)▸hk,fun x hx=>(List.mem_singleton.1 hx)▸hl⟩
theorem VT.qH {t':TypeId} (h:VT t w base a n f) (hg:w.heap[g]?=some (.cells cs t' (0,0))) (hne:t≠t'):g∉ku a n:=fun hx=>by
 obtain ⟨c,k⟩:=h.type g hx
 exact rY k hg hne rfl
theorem yd {o:Nat} (hf:o+cs.size≤cur.size) (h:j<o∨o+cs.size≤j):(lay cur o cs)[j]?=cur[j]?:=by
 rcases h with h | h
 ·
  exact ox hf j h
 unfold lay
 simp only [List.getElem?_toArray]
 rw [List.append_assoc,List.getElem?_append_right (by simp;omega),List.getElem?_append_right (by simp;omega),List.getElem?_drop]
 simp only [List.length_take,Array.length_toList,Array.getElem?_toList]
 congr 1
 omega
theorem kj.EE {gL:Nat} {l2:Lng} (h:kj w base X i) (hi:i<X.nL) (eL:X.aL=some ⟨gL,0,none⟩) (kL:w.heap[gL]?=some (.cells cur 47 (0,0))) (hP:Put w W gL (lay cur (i*8) l2.cells) 47) (hl:TyL w base l2):kj W base (X.lane i l2) X.nL:=by
 have hoff:DX [gL] w:=fun x hx=>by
  obtain rfl:x=gL:=by simpa using hx
  exact ⟨_,_,kL,by decide,by decide⟩
 have far:∀ x t,(∃ cs,w.heap[x]?=some (.cells cs t (0,0)))→t≠47→x∉[gL]:=by
  rintro x t ⟨cs,hx⟩ hne hy
  exact rY hx kL hne (by simpa using hy)
 refine ⟨h.e.iu hP.to (fun x hx=>far x _ (h.e.type x hx) (by decide)),⟨h.n.u.iu hP.to (fun x hx=>far x _ (h.n.u.type x hx) (by decide)),h.n.p.iu hP.to (fun x hx=>far x _ (h.n.p.type x hx) (by decide))⟩,h.k.iu hP.to (fun x hx=>far x _ (h.k.type x hx) (by decide)),?_,fun k hk hk2=>?_⟩
 ·
  show VT 47 W base X.aL (X.nL*8) (xh (X.lane i l2).L)
  rcases h.l with e | ⟨g,e,hb,arr,k1,k2,k3⟩
  ·
   omega
  have hg:g=gL:=by rw [eL] at e;simp at e;exact e.symm
  subst hg
  rw [kL] at k1
  simp at k1
  subst k1
  have hs:l2.cells.size=8:=l2.iY
  have hf:i*8+l2.cells.size≤cur.size:=by omega
  refine .inr ⟨g,e,hb,_,hP.blk,by rw [kp hf];exact k2,fun q hq=>?_⟩
  have e1:some (xh (X.lane i l2).L q)=((X.lane i l2).L (q / 8)).cells[q % 8]?:=by
   have:=nF (X.lane i l2).L (q / 8) (q % 8) (by omega)
   exact gy
  rw [e1]
  show _=(if q / 8=i then l2 else X.L (q / 8)).cells[q % 8]?
  by_cases c:q / 8=i
  ·
   rw [if_pos c]
   have:=lv hf (q % 8) (by omega)
   rwa [show i*8+q % 8=q by omega] at this
  rw [if_neg c,yd hf (by omega),k3 q hq]
  have:=nF X.L (q / 8) (q % 8) (by omega)
  exact gy
 show TyL W base (if k=i then l2 else X.L k)
 by_cases c:k=i
 ·
  rw [if_pos c];exact hl.far hP.to hoff
 rw [if_neg c];exact (h.ls k hk c).far hP.to hoff
theorem kj.setK {x:Pkt} (h:kj w base X i) (hj:j<X.nK) (eK:X.aK=some ⟨gk,0,none⟩) (kK:w.heap[gk]?=some (.cells cur 51 (0,0))) (hP:Put w W gk (lay cur (j*8) x.cells) 51) (hK:∀ q,K' q=if q=j then x else X.K q):kj W base { X with K:=K' } i:=by
 have hoff:DX [gk] w:=fun x hx=>by
  obtain rfl:x=gk:=by simpa using hx
  exact ⟨_,_,kK,by decide,by decide⟩
 have far:∀ x t,(∃ cs,w.heap[x]?=some (.cells cs t (0,0)))→t≠51→x∉[gk]:=by
  rintro x t ⟨cs,hx⟩ hne hy
  exact rY hx kK hne (by simpa using hy)
 refine ⟨h.e.iu hP.to (fun x hx=>far x _ (h.e.type x hx) (by decide)),⟨h.n.u.iu hP.to (fun x hx=>far x _ (h.n.u.type x hx) (by decide)),h.n.p.iu hP.to (fun x hx=>far x _ (h.n.p.type x hx) (by decide))⟩,?_,h.l.iu hP.to (fun x hx=>far x _ (h.l.type x hx) (by decide)),fun k hk hk2=>(h.ls k hk hk2).far hP.to hoff⟩
 show VT 51 W base X.aK (X.nK*8) (xg K')
 rcases h.k with e | ⟨g,e,hb,arr,k1,k2,k3⟩
 ·
  omega
 have hg:g=gk:=by rw [eK] at e;simp at e;exact e.symm
 subst hg
 rw [kK] at k1
 simp at k1
 subst k1
 have hs:x.cells.size=8:=x.iY
 have hf:j*8+x.cells.size≤cur.size:=by omega
 refine .inr ⟨g,e,hb,_,hP.blk,by rw [kp hf];exact k2,fun q hq=>?_⟩
 have e1:some (xg K' q)=(K' (q / 8)).cells[q % 8]?:=by
  have:=qj K' (q / 8) (q % 8) (by omega)
  exact gy
 rw [e1,hK]
 by_cases c:q / 8=j
 ·
  rw [if_pos c]
  have:=lv hf (q % 8) (by omega)
  rwa [show j*8+q % 8=q by omega] at this
 rw [if_neg c,yd hf (by omega),k3 q hq]
 have:=qj X.K (q / 8) (q % 8) (by omega)
 exact gy
theorem VT.at0 (h:VT t w base a n f) (h0:0<n):∃ g cur,a=some ⟨g,0,none⟩∧base≤g∧w.heap[g]?=some (.cells cur t (0,0))∧n≤cur.size∧∀ q,q<n→cur[q]?=some (f q):=by
 rcases h with e | ⟨g,e,hb,arr,k1,k2,k3⟩
 ·
  omega
 exact ⟨g,arr,e,hb,k1,k2,k3⟩
structure SpS (w:World) (S X:Swg) (b g6:Nat) (W:World):Prop where
 a:W.heap[w.heap.size]?=some (.cells S.cells 34 (0,0))
 z:W.heap[w.heap.size+1]?=some (.cells zSw 34 (0,0))
 o:W.heap[g6]?=some (.cells X.cells 34 (0,0))
 bel:Below w.heap.size w W
 lo:w.heap.size+1<b
 hi:b≤g6
theorem SpS.up (h:SpS w S X b g6 W) (hb:Below W.heap.size W W'):SpS w S X b g6 W' :=
 ⟨(hb.block _ (ig h.a)).trans h.a,(hb.block _ (ig h.z)).trans h.z,(hb.block _ (ig h.o)).trans h.o,h.bel.trans (hb.mono h.bel.size),h.lo,h.hi⟩
theorem SpS.size (h:SpS w S X b g6 W):b<W.heap.size:=by have:=ig h.o;have:=h.hi;omega
theorem SpS.far (h:SpS w S X b g6 W) (hg:W.heap[g]?=some (.cells cs t (0,0))) (hne:t≠34) (hb:b≤g) (ht:Touch [g] W W'):SpS w S X b g6 W':=by
 have far:∀ {x:Nat} {c:Array Value},W.heap[x]?=some (.cells c 34 (0,0))→W'.heap[x]?=some (.cells c 34 (0,0)):=fun {x c} hx=>(ht.block x (ig hx) (fun hy=>rY hg hx hne (by simpa using hy:x=g).symm)).trans hx
 exact ⟨far h.a,far h.z,far h.o,h.bel.trans (ht.below h.bel.size (fun x hx=>by have:=h.lo;simp at hx;omega)),h.lo,h.hi⟩
theorem SpS.kk (h:SpS w S X b g6 W) (ht:Touch T W W') (hT:∀ x∈T,b≤x∧∃ cs t,W.heap[x]?=some (.cells cs t (0,0))∧t≠34):SpS w S X b g6 W':=by
 have far:∀ {x:Nat} {c:Array Value},W.heap[x]?=some (.cells c 34 (0,0))→W'.heap[x]?=some (.cells c 34 (0,0)):=fun {x c} hx=>(ht.block x (ig hx) (fun hy=>by
  obtain ⟨_,c2,t2,k2,hne⟩:=hT x hy
  exact rY k2 hx hne rfl)).trans hx
 exact ⟨far h.a,far h.z,far h.o,h.bel.trans (ht.below h.bel.size (fun x hx=>by have:=h.lo;have:=(hT x hx).1;omega)),h.lo,h.hi⟩
theorem SpS.put (h:SpS w S X b g6 W) (hP:Put W W' g6 Y.cells 34):SpS w S Y b g6 W' :=
 ⟨(hP.to.block _ (ig h.a) (by have:=h.lo;have:=h.hi;simp;omega)).trans h.a,(hP.to.block _ (ig h.z) (by have:=h.lo;have:=h.hi;simp;omega)).trans h.z,hP.blk,h.bel.trans (hP.to.below h.bel.size (fun x hx=>by have:=h.lo;have:=h.hi;simp at hx;omega)),h.lo,h.hi⟩
theorem zZ (C:Cfg) (N:Cnt) (p q y:Int) (w:World) (hN:Cnt.Ok C N) (h:my w N) (hp:0≤p∧p≤C.p-1) (hy1:-5≤y) (hy2:y≤5) (hok:Cnt.Ok C (lq N p q y)) :
  Calls Tryz.prog 63 #[.agg C.cells,.agg N.cells,.int .i64 p,.int .i64 q,.int .i64 y] w fun e w'=>∃ M:Cnt,e=.returned (.tuple #[.agg M.cells,.bool true])∧iN w' w.heap.size M∧Below w.heap.size w w'∧iR (lq N p q y) M:=by
 by_cases e:q=2
 ·
  subst e
  obtain ⟨i,rfl⟩:∃ i:Nat,p=(i:Int):=⟨p.toNat,by omega⟩
  rw [mx] at hok ⊢
  exact pO C N i y w hN h (by have:=hN.nU;omega) hy1 hy2 true ⟨fun _=>hok,fun _=>rfl⟩
 rw [lC e] at hok ⊢
 exact pP C N p q e y w hN h hy1 hy2 true ⟨fun _=>hok,fun _=>rfl⟩
theorem BR:(Tryz.prog.info? 25).map (·.size)=some 7:=by kernel_rfl
theorem pB:(Tryz.prog.info? 30).map (·.size)=some 3:=by kernel_rfl
theorem vr:(Tryz.prog.info? 47).map (·.size)=some 8:=by kernel_rfl
theorem vo:(Tryz.prog.info? 45).map (·.size)=some 5:=by kernel_rfl
theorem vq:(Tryz.prog.info? 51).map (·.size)=some 8:=by kernel_rfl
theorem BU:(Tryz.prog.info? 27).map (·.size)=some 1:=by kernel_rfl
theorem E3:(Tryz.prog.info? 31).map (·.size)=some 1:=by kernel_rfl
theorem FT:(Tryz.prog.info? 2).map (fun i=>(i.zero,i.size,i.bytes))=some (some (.int .i64 0),1,8):=by kernel_rfl
theorem Cnt.lF (N:Cnt):N.cells.all (·.oneCell')=true:=by simp [Cnt.cells,Value.oneCell']
theorem iG.ru (h:iG w base S) (ho:OG 36 5 w b2 a n c xs) (ht:Touch (iI a) w w'):iG w' base S:=by
 rcases ho.2 with ⟨e,_⟩ | ⟨g,cap,cur,e,_,hk,_⟩
 ·
  cases e
  exact h.up (ht.below (Nat.le_refl _) (by simp [iI]))
 cases e
 have ht1:Touch [g] w w':=ht
 exact gx
theorem iG.FU (h:iG w base S) (hk:w.heap[g]?=some (.cells cs 36 (0,0))) (ht1:Touch [g] w w'):iG w' base S:=gx
theorem kj.ru (h:kj w base S i) (ho:OG 36 5 w b2 a n c xs) (ht:Touch (iI a) w w'):kj w' base S i:=by
 rcases ho.2 with ⟨e,_⟩ | ⟨g,cap,cur,e,_,hk,_⟩
 ·
  cases e
  exact h.up (ht.below (Nat.le_refl _) (by simp [iI]))
 cases e
 exact h.box hk ht ⟨by decide,by decide,by decide,by decide⟩ (h.k.qH hk (by decide)) (h.l.qH hk (by decide))
theorem SpS.ru (h:SpS w S X b g6 W) (ho:OG 36 5 W b a n c xs) (ht:Touch (iI a) W W'):SpS w S X b g6 W' :=
 h.kk ht (fun x hx=>⟨(ho.blk x hx).1,by obtain ⟨cs,hc⟩:=ho.type x hx;exact ⟨cs,_,hc,by decide⟩⟩)
theorem iG.Gp {P:Swg} {w0:World} (h:iG w base P) (h0:iG w0 base P) (hM:iN w w0.heap.size M) (hb:base≤w0.heap.size):iG w base { P with N:=M } :=
 ⟨h.e,hM.mono hb,h.k,h.l,fun x hx hy=>by
  have h1:=(hM.u.blk x hx).1
  simp only [List.mem_flatMap,List.mem_range] at hy
  obtain ⟨i,hi,hy⟩:=hy
  have:=((h0.l.ls i hi).blk x hy).2
  omega⟩
theorem yW (n:Nat) (f:Nat→Int):(kW n f).length=n:=by unfold kW;simp
theorem Dt (n:Nat) (f:Nat→Int):∀ u∈kW n f,u.oneCell'=true:=by
 intro u hu
 unfold kW at hu
 simp only [List.mem_map,List.mem_range] at hu
 obtain ⟨i,_,rfl⟩:=hu
 rfl
theorem Gl {f:Nat→Int} (h:iP w a n fun i=>.int .i64 (f i)):CC w a (kW n f):=fun j u hj=>by
 have hlt:j<n:=by
  have:=(List.getElem?_eq_some_iff.1 hj).1
  rwa [yW] at this
 rw [yh n f j hlt] at hj
 simp at hj
 subst hj
 exact h j hlt
theorem Cy {V:World} {gz:Nat} {f:Nat→Int} (h:OI V b (some ⟨gz,0,none⟩) n c f) (hn:n≠0) (hle:n≤1048576) :
  ∃ a' c' W',(Builtin.append_ #[27,27] 27 #[.slice (some ⟨V.heap.size,0,none⟩) 0 0,.slice (some ⟨gz,zO 0 c,none⟩) (n-1) (c-1)]).run Tryz.prog (V.alloc (.cells #[] 2))=.ok (.slice a' (n-1) c') W'∧OI W' V.heap.size a' (n-1) c' (fun k=>f (k+1))∧Below V.heap.size V W' :=
 mJ 27 2 (.int .i64 0) 1 8 FT Tryz.underlying27 rfl (by decide) (by decide) (by omega) (by rw [yW,Nat.mul_one]) (Gl (f:=fun k=>f (k+1)) ((h.vgI.drop hn (OG.cap (t:=2) (sz:=1) h)).read)) (Dt _ _)
theorem OI.some {f:Nat→Int} (h:OI w base a n c f) (h0:n≠0):∃ g,a=some ⟨g,0,none⟩∧w.cell? ⟨g,0,none⟩=some (.int .i64 (f 0)):=by
 have h2:OG 2 1 w base a n c (kW n f):=h
 obtain ⟨g,cur,e,k1,k2,k3⟩:=h2.at0 (by omega)
 refine ⟨g,e,?_⟩
 rw [ie k1,k3 0 (by omega),yh n f 0 (by omega)]
theorem TyL.E7 {l:Lng} (h:TyL w base l) (ho:OI w base a' (l.nT-1) c' fun k=>l.t (k+1)):TyL w base { l with aT:=a',nT:=l.nT-1,cT:=c',t:=fun k=>l.t (k+1) }:=⟨ho.vgI,h.u,h.z,h.q,h.d,h.s,h.y⟩
theorem TyL.ub {l:Lng} (h:TyL w base l) (ho:jy w b2 R) (hb:base≤b2):TyL w base { l with R:=R }:=⟨h.t,h.u,h.z,ho.q.g.mono hb,ho.d.g.mono hb,ho.s.g.mono hb,fun i hi=>(ho.z i hi).g.mono hb⟩
theorem VI.ya {f:Nat→Int} (h:VI w base a n f) (ht:Touch T w w') (hT:DX T w):VI w' base a n f:=by
 rcases h with h | ⟨g,e,hb,arr,k1,k2,k3⟩
 ·
  exact .inl h
 refine .inr ⟨g,e,hb,arr,(ht.block g (ig k1) (fun hy=>?_)).trans k1,k2,k3⟩
 obtain ⟨c2,t2,k4,n1,n2⟩:=hT g hy
 rw [k1] at k4
 simp at k4
 exact n1 k4.2.symm
theorem VS.ya (h:VS w base a n f) (ht:Touch T w w') (hT:DX T w):VS w' base a n f:=by
 rcases h with h | ⟨g,e,hb,arr,k1,k2,k3⟩
 ·
  exact .inl h
 refine .inr ⟨g,e,hb,arr,(ht.block g (ig k1) (fun hy=>?_)).trans k1,k2,k3⟩
 obtain ⟨c2,t2,k4,n1,n2⟩:=hT g hy
 rw [k1] at k4
 simp at k4
 exact n2 k4.2.symm
theorem jy.Gn (h:jy w base R) (hT:DX T w) (ht:Touch T w w'):jy w' base R :=
 ⟨h.q.ya ht hT,h.d.ya ht hT,h.s.ya ht hT,fun i hi=>(h.z i hi).ya ht hT,h.qd,h.qz,h.dz,h.zz⟩
theorem xY {l:Lng} {M:Rnd} {s:Int} (hl:nN m K l) (hp:xD l.R M (cl:Int) s):cl<2∧l.uL cl≠0:=by
 rcases hp with ⟨hno,_⟩ | ⟨_,_,_,e,_⟩ | ⟨ho,_,k,c',hpk,e⟩
 ·
  exact absurd hl.r hno
 ·
  omega
 have e2:c'=cl:=by omega
 subst e2
 have hc2:c'<2:=by
  have:=(hpk.ok ho).2.2.1
  have:=hl.n
  omega
 exact ⟨hc2,by rw [(hl.z c' hc2).2.1];exact hpk.rows.1⟩
theorem VG.sG (h:VG 2 w base a n f) (kU:w.heap[gu]?=some (.cells cs 27 (0,0))) (ht:Touch [gu] w w'):VG 2 w' base a n f :=
 h.iu ht (fun x hx hy=>by
  obtain ⟨c1,k1⟩:=h.type x hx
  exact rY k1 kU (by decide) (by simpa using hy))
theorem TyL.EX {l:Lng} (h:TyL w base l) (kU:w.heap[gu]?=some (.cells cs 27 (0,0))) (ht:Touch [gu] w w') (hu:gu∉ku l.aU l.nU) (hs:gu∉ku l.R.aS l.R.nS):TyL w' base l :=
 ⟨h.t.sG kU ht,h.u.iu ht (fun x hx hy=>hu ((List.mem_singleton.1 hy)▸hx)),fun i hi=>(h.z i hi).sG kU ht,h.q.sG kU ht,h.d.sG kU ht,h.s.iu ht (fun x hx hy=>hs ((List.mem_singleton.1 hy)▸hx)),fun i hi=>(h.y i hi).sG kU ht⟩
theorem kj.EX (h:kj w base X i) (kU:w.heap[gu]?=some (.cells cs 27 (0,0))) (ht:Touch [gu] w w') (hL:∀ k,k<X.nL→k≠i→gu∉ku (X.L k).aU (X.L k).nU∧gu∉ku (X.L k).R.aS (X.L k).R.nS):kj w' base X i:=by
 have far:∀ x t,(∃ cs,w.heap[x]?=some (.cells cs t (0,0)))→t≠27→x∉[gu]:=by
  rintro x t ⟨cs,hx⟩ hne hy
  exact rY hx kU hne (by simpa using hy)
 exact ⟨h.e.iu ht (fun x hx=>far x _ (h.e.type x hx) (by decide)),⟨h.n.u.iu ht (fun x hx=>far x _ (h.n.u.type x hx) (by decide)),h.n.p.iu ht (fun x hx=>far x _ (h.n.p.type x hx) (by decide))⟩,h.k.iu ht (fun x hx=>far x _ (h.k.type x hx) (by decide)),h.l.iu ht (fun x hx=>far x _ (h.l.type x hx) (by decide)),fun k hk hki=>(h.ls k hk hki).EX kU ht (hL k hk hki).1 (hL k hk hki).2⟩
theorem DN (a:Option Addr) (n:Nat):∀ x∈ku a n,x∈iI a:=fun x hx=>(rS a n).subset hx
theorem iG.oK (h:iG w base X) (hi:i<X.nL) (hg:gu∈iI (X.L i).aU):∀ k,k<X.nL→k≠i→gu∉ku (X.L k).aU (X.L k).nU∧gu∉ku (X.L k).R.aS (X.L k).R.nS:=fun k hk hne=>by
 have hx:gu∉(X.L k).oK:=ui X.nL h.l.td i k hi hk (fun e=>hne e.symm) gu (by unfold Lng.oK;exact List.mem_append.2 (.inl hg))
 unfold Lng.oK at hx
 rw [List.mem_append] at hx
 exact ⟨fun h1=>hx (.inl (DN _ _ gu h1)),fun h1=>hx (.inr h1)⟩
def Lng.Fp (l:Lng) (c:Nat) (a':Option Addr) (c':Nat) (R:Rnd):Lng:={ l with uA:=fun k=>if k=c then a' else l.uA k,uL:=oY l.uL c (l.uL c-1),uC:=fun k=>if k=c then c' else l.uC k,uz:=tJ l.uz c (fun j=>l.uz c (j+1)),R:=R }
theorem TyL.Fp {l:Lng} (h:TyL w base { l with R:=R }) (eU:l.aU=some ⟨gu,0,none⟩) (kU:w.heap[gu]?=some (.cells cur 27 (0,0))) (hsz:l.nU≤cur.size) (hcl:cl<l.nU) (hP:Put w W gu (lay cur cl #[.slice a' (l.uL cl-1) c']) 27) (ho:OI w base a' (l.uL cl-1) c' fun k=>l.uz cl (k+1)) (hs:gu∉ku R.aS R.nS) (hc:∀ k,k<l.nU→cur[k]?=some (.slice (l.uA k) (l.uL k) (l.uC k))) (hb:base≤gu):TyL W base (l.Fp cl a' c' R):=by
 have hf:cl+(#[.slice a' (l.uL cl-1) c']:Array Value).size≤cur.size:=by simp;omega
 refine ⟨h.t.sG kU hP.to,?_,fun k hk=>?_,h.q.sG kU hP.to,h.d.sG kU hP.to,h.s.iu hP.to (fun x hx hy=>hs ((List.mem_singleton.1 hy)▸hx)),fun i hi=>(h.y i hi).sG kU hP.to⟩
 ·
  show VG 27 W base l.aU l.nU fun k=>.slice (if k=cl then a' else l.uA k) (oY l.uL cl (l.uL cl-1) k) (if k=cl then c' else l.uC k)
  rw [eU]
  refine .inr ⟨gu,0,rfl,hb,_,hP.blk,by rw [kp hf];omega,fun k hk=>?_⟩
  rw [Nat.zero_add]
  dsimp only
  by_cases e:k=cl
  ·
   subst e
   rw [if_pos rfl,if_pos rfl,jE]
   exact lv hf 0 (by simp)
  rw [if_neg e,if_neg e,jJ e,yd hf (by simp;omega)]
  exact hc k hk
 show VG 2 W base (if k=cl then a' else l.uA k) (oY l.uL cl (l.uL cl-1) k) fun j=>.int .i64 (tJ l.uz cl (fun j=>l.uz cl (j+1)) k j)
 by_cases e:k=cl
 ·
  subst e
  rw [if_pos rfl,jE,mm]
  exact ho.vgI.sG kU hP.to
 rw [if_neg e,jJ e,pv e]
 exact (h.z k hk).sG kU hP.to
theorem EL (h:∀ i,i<n→K i=K' i):oe n K=oe n K':=by
 induction n with
 | zero=>rfl
 | succ n ih=>rw [ko,ko,ih (fun i hi=>h i (by omega)),h n (by omega)]
theorem Ba (K:Nat→Pkt) (j:Nat):∀ m,oe j K++oe m (fun q=>K (j+1+q))=oe (j+m) (rmK K j)
 | 0=>by
  show oe j K++[]=oe j (rmK K j)
  rw [List.append_nil]
  exact EL (fun i hi=>(pf hi).symm)
 | m+1=>by
  rw [ko,←List.append_assoc,Ba K j m,show j+(m+1)=j+m+1 by omega,ko,pQ (show j≤j+m by omega),show j+1+m=j+m+1 by omega]
theorem zy (gk n c k:Nat) (w:World) (hk:k≤n) (hc:n≤c) :
  (Instr.slice 31 (.slice (some ⟨gk,0,none⟩) n c) (some (.int .i64 (k:Int))) none none).run Tryz.prog w=.ok (.slice (some ⟨gk,if c=k then 0 else k*8,none⟩) (n-k) (c-k)) w:=by
 have h1:(k:Int)≤(n:Int):=by omega
 have h3:(0:Int)≤(k:Int):=by omega
 have h4:(n:Int)≤(c:Int):=by omega
 by_cases h5:c=k
 ·
  have h2:c-k=0:=by omega
  simp [go_sem,h1,h2,h3,h4,h5]
 have h2:¬ c-k=0:=by omega
 simp [go_sem,h1,h2,h3,h4,h5]
theorem BG:(Tryz.prog.info? 51).map (fun i=>(i.zero,i.size,i.bytes))=some (some (.agg zPk.cells),8,72):=by kernel_rfl
theorem pI.tail (h:pI w (some ⟨gk,0,none⟩) n K) (hm:j+1+m≤n):pI w (some ⟨gk,(j+1)*8,none⟩) m (fun q=>K (j+1+q)):=fun i hi =>
 ⟨gk,(j+1)*8,rfl,fun q hq=>by
  have:=h.cell (i:=j+1+i) (by omega) q hq
  rw [show 0+(j+1+i)*8+q=(j+1)*8+i*8+q by omega] at this
  exact this⟩
theorem F8 {D:World} (h:pI D (some ⟨gk,0,none⟩) n K) (hj:j<n) (hc:n≤c) (hn:n≤1048576) :
  ∃ a1 c1 W1,(Builtin.append_ #[31,31] 31 #[.slice (some ⟨D.heap.size,0,none⟩) 0 0,.slice (some ⟨gk,0,none⟩) j c]).run Tryz.prog (D.alloc (.cells #[] 51))=.ok (.slice a1 j c1) W1∧Below D.heap.size D W1 ∧
  ∃ a2 c2 W2,(Builtin.append_ #[31,31] 31 #[.slice a1 j c1,.slice (some ⟨gk,if c=j+1 then 0 else (j+1)*8,none⟩) (n-(j+1)) (c-(j+1))]).run Tryz.prog W1=.ok (.slice a2 (n-1) c2) W2∧OG 51 8 W2 D.heap.size a2 (n-1) c2 (oe (n-1) (rmK K j))∧Below D.heap.size D W2:=by
 have hlo:pI D (some ⟨gk,0,none⟩) j K:=fun i hi=>h i (by omega)
 obtain ⟨a1,c1,W1,r1,o1,b1⟩:=mJ (V:=D) (c:=c) 31 51 _ 8 72 BG Tryz.underlying31 rfl (by decide) (by decide) (by omega) (mC j K) hlo.cs (rH j K)
 refine ⟨a1,c1,W1,r1,b1,?_⟩
 have hrd:CC W1 (some ⟨gk,if c=j+1 then 0 else (j+1)*8,none⟩) (oe (n-(j+1)) (fun q=>K (j+1+q))):=by
  by_cases e:n=j+1
  ·
   rw [show n-(j+1)=0 by omega]
   intro q u hq
   simp [oe] at hq
  rw [if_neg (by omega)]
  exact ((h.up b1).tail (by omega)).cs
 obtain ⟨a2,c2,W2,r2,o2,t2,_⟩:=Az (c:=c-(j+1)) 31 51 _ 8 72 BG Tryz.underlying31 rfl (by decide) (by decide) o1 b1.size (by omega) (mC _ _) hrd (rH _ _)
 rw [Ba] at o2
 rw [show j+(n-(j+1))=n-1 by omega] at r2 o2
 exact ⟨a2,c2,W2,r2,o2,b1.trans (t2.below b1.size (fun x hx=>(o1.blk x hx).1))⟩
theorem Dy (ts:List Pkt) (x:Pkt):(tV (ts.length+1) fun k=>(fsF (ts++[x]) k).frame)=(tV ts.length fun k=>(fsF ts k).frame)++x.frame.toList:=by
 rw [xM]
 congr 1
 ·
  exact Fw (fun q hq=>by unfold fsF;rw [List.getElem?_append_left hq])
 unfold fsF;simp
theorem EB {Z1 Z2:World} (h:SpS w S Y b g6 Z1) (hh:kj Z1 b Y Y.nL) (ho:OG 36 5 Z1 b a n c xs) (hP:Put Z1 Z2 (w.heap.size+1) cs 34):kj Z2 w.heap.size Y Y.nL∧OG 36 5 Z2 w.heap.size a n c xs∧Below w.heap.size w Z2:=by
 have hlo:=h.lo
 exact ⟨(hh.box h.z hP.to ⟨by decide,by decide,by decide,by decide⟩ (hh.k.qH h.z (by decide)) (hh.l.qH h.z (by decide))).mono (by omega),(ho.iu hP.to (fun x hx hy=>ho.lM (by decide) h.z (by simp at hy;rw [←hy];exact hx))).mono (by omega),h.bel.trans (hP.to.below h.bel.size (fun x hx=>by simp at hx;omega))⟩
structure SpY (S S' Y:Swg) (id:Int) (ts fs:List Pkt):Prop where
 n:Y.nK≤1048576
 cap:Y.nK≤Y.cK
 k:lQ Y.nx Y.C.p Y.nK Y.K
 refs:∀ j,j<Y.nK→1≤(Y.K j).refs∧(Y.K j).refs≤12000
 cn:Cnt.Ok Y.C Y.N
 rel:∀ j,j<Y.nK→Cnt.Ok Y.C (lq Y.N (Y.K j).inn (Y.K j).p (-(Y.K j).cl))
 c:Y.C=S.C
 ax:(id=0∧iw S' Y∧fs=ts)∨(id≠0∧∃ j,j<Y.nK∧(Y.K j).id=id∧fs=ts++[Y.K j]∧(((Y.K j).refs≠1∧iw S' { Y with K:=lf Y.K j })∨((Y.K j).refs=1∧iw S' { Y with nK:=Y.nK-1,K:=rmK Y.K j,N:=lq Y.N (Y.K j).inn (Y.K j).p (-(Y.K j).cl) })))
theorem spY {S' X':Swg} {l' l2:Lng} {id:Int} {ts gs fs:List Pkt} (hok:X.Ok) (hs:X.Small) (hcap:X.nK≤X.cK) (hC:X.C=S.C) (hal:iO l' l2) (efs:fs=ts++gs) (hA:iw S' X')
  (hc:(id=0∧X'=X.lane i l'∧gs=[])∨(id≠0∧∃ j,j<X.nK∧(X.K j).id=id∧gs=[X.K j]∧(((X.K j).refs≠1∧X'={ X.lane i l' with K:=lf X.K j })∨((X.K j).refs=1∧X'={ X.lane i l' with nK:=X.nK-1,K:=rmK X.K j,N:=lq X.N (X.K j).inn (X.K j).p (-(X.K j).cl) })))):SpY S S' (X.lane i l2) id ts fs:=by
 have HLA:=uc (iw.refl X) i hal
 refine ⟨hs.k,hcap,hok.k,fun j hj=>?_,hok.n,fun j hj=>(hok.rel hj).2,hC,?_⟩
 ·
  have h1:=hok.zE hj
  have h2:(X.nL:Int)≤4:=by rw [hok.nl];exact hok.n.c.num.p.2
  exact ⟨h1.1,by have:=h1.2;show (X.K j).refs≤12000;omega⟩
 rcases hc with ⟨q1,q2,q3⟩ | ⟨q1,j,q2,q3,q4,⟨q5,q6⟩ | ⟨q5,q6⟩⟩
 ·
  exact .inl ⟨q1,by rw [q2] at hA;exact hA.trans HLA,by rw [efs,q3,List.append_nil]⟩
 ·
  refine .inr ⟨q1,j,q2,q3,by rw [efs,q4];rfl,.inl ⟨q5,?_⟩⟩
  rw [q6] at hA
  exact hA.trans ⟨HLA.c,HLA.now,HLA.nx,HLA.nE,HLA.e,HLA.n,HLA.nK,rfl,HLA.nL,HLA.l,HLA.dr,HLA.lst⟩
 refine .inr ⟨q1,j,q2,q3,by rw [efs,q4];rfl,.inr ⟨q5,?_⟩⟩
 rw [q6] at hA
 exact hA.trans ⟨HLA.c,HLA.now,HLA.nx,HLA.nE,HLA.e,iR.refl _,rfl,rfl,HLA.nL,HLA.l,HLA.dr,HLA.lst⟩
theorem kj.newRow (h:kj w base Y i) (ho:OG 51 8 w b2 a n c (oe n K)) (hb:base≤b2):kj w base { Y with aK:=a,nK:=n,cK:=c,K:=K } i :=
 ⟨h.e,h.n,(ho.vt (fun i hi=>wG _ _ i hi)).mono hb,h.l,h.ls⟩
theorem kj.Gp (h:kj w base Y i) (hM:iN w b2 M) (hb:base≤b2):kj w base { Y with N:=M } i:=⟨h.e,hM.mono hb,h.k,h.l,h.ls⟩
theorem E6 (K:Nat→Pkt) (j:Nat):∀ q,lf K j q=if q=j then { K j with refs:=(K j).refs-1 } else K q:=fun q=>by
 unfold lf
 by_cases e:q=j
 ·
  subst e;rw [if_pos rfl]
 rw [if_neg e,if_neg e]
theorem Fg (h:g≠gk):g∉ku (some ⟨gk,0,none⟩) n:=by
 unfold ku
 split
 ·
  simp
 simp;exact h
theorem iN.Gm {N:Cnt} (h:iN w base N) (hg:w.heap[g]?=some (.cells cs t (0,0))) (h2:2≠t) (h4:4≠t) (ht:Touch [g] w w'):iN w' base N :=
 ⟨h.u.iu ht (fun x hx hy=>h.u.qH hg h2 ((List.mem_singleton.1 hy)▸hx)),h.p.iu ht (fun x hx hy=>h.p.qH hg h4 ((List.mem_singleton.1 hy)▸hx))⟩
