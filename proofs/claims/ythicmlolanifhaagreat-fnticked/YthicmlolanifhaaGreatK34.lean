import Derived.Test.YthicmlolanifhaaGreatK33
import Derived.Deep.Cut
import Derived.Deep.DeepCutAuto
import Derived.Handy
import Derived.Lib.SmallJoins
namespace Go.Proofs.YthicmlolanifhaaGreat
open Go.RowKit
set_option linter.unusedVariables false
set_option linter.unusedSimpArgs false
theorem fT {p:Prop} (h:p:=by
 have far:∀ x t,(∃ cs,w.heap[x]?=some (.cells cs t (0,0)))→t≠43→x∉[g]:=by
  rintro x t ⟨cs,hx⟩ hne hy
  exact jW hx hk hne (by simpa using hy)
 exact ⟨h.e.gX ht1 (fun x hx=>far x _ (h.e.type x hx) (by decide)),⟨h.n.u.gX ht1 (fun x hx=>far x _ (h.n.u.type x hx) (by decide)),h.n.p.gX ht1 (fun x hx=>far x _ (h.n.p.type x hx) (by decide))⟩,h.k.gX ht1 (fun x hx=>far x _ (h.k.type x hx) (by decide)),h.l.box hk (by decide) (by decide) (by decide) ht1,h.un⟩):p:=h
theorem fP {p:Prop} (h:p:=by
 rwa [show q / 8*8+q % 8=q by omega] at this):p:=h
theorem qj.sG {l l' m:Lng} {id:Int} (h:qj l l' id) (ha:iC l m):∃ m',qj m m' id∧iC l' m':=by
 rcases h with ⟨h1,h2,rfl,rfl⟩ | ⟨hno,M,x,s,hp,⟨h1,rfl,rfl⟩ | ⟨c,h1,rfl,rfl⟩⟩
 ·
  refine ⟨_,.inl ⟨by rw [ha.nT];exact h1,by rw [ha.st];exact h2,by rw [ha.t],rfl⟩,?_⟩
  unfold Lng.Db
  exact ⟨ha.st,by show m.nT-1=l.nT-1;rw [ha.nT],by show (fun i=>m.t (i+1))=fun i=>l.t (i+1);rw [ha.t],ha.nU,ha.l,ha.z,ha.r⟩
 ·
  obtain ⟨M',hp',hA⟩:=hp.sG ha.r
  exact ⟨_,.inr ⟨by rw [ha.nT,ha.st];exact hno,M',x,s,hp',.inl ⟨h1,rfl,rfl⟩⟩,⟨ha.st,ha.nT,ha.t,ha.nU,ha.l,ha.z,hA⟩⟩
 obtain ⟨M',hp',hA⟩:=hp.sG ha.r
 refine ⟨_,.inr ⟨by rw [ha.nT,ha.st];exact hno,M',x,s,hp',.inr ⟨c,h1,by rw [ha.z],rfl⟩⟩,?_⟩
 unfold Lng.Er
 exact ⟨ha.st,ha.nT,ha.t,ha.nU,by show ly m.uL c (m.uL c-1)=ly l.uL c (l.uL c-1);rw [ha.l],by show qF m.uz c (fun j=>m.uz c (j+1))=qF l.uz c (fun j=>l.uz c (j+1));rw [ha.z],hA⟩
def CP (S S':Swg) (i:Nat) (fs:List Pkt):Prop :=
 ∃ l' id,qj (S.L i) l' id ∧
  ((id=0∧S'=S.lane i l'∧fs=[]) ∨
   (id≠0∧∃ j,j<S.nK∧(S.K j).id=id∧fs=[S.K j] ∧
    (((S.K j).refs≠1∧S'={ S.lane i l' with K:=j9 S.K j }) ∨
    ((S.K j).refs=1∧S'={ S.lane i l' with nK:=S.nK-1,K:=rmK S.K j,N:=kW S.N (S.K j).inn (S.K j).p (-(S.K j).cl) }))))
def Swg.flip (S:Swg) (i:Nat):Swg:={ S with N:=lY S.C S.N i }
theorem o6.next {S S':Swg} {i:Nat} {fs:List Pkt} (h:o6 S S' i fs):∃ gs,CP (S.flip i) S' i gs∧fs=nm S.C S.N i++gs:=by
 obtain ⟨l',id,ht,⟨h0,h1,h2⟩ | ⟨h0,j,hj,hid,hf,hr⟩⟩:=h
 ·
  exact ⟨[],⟨l',id,ht,.inl ⟨h0,h1,rfl⟩⟩,by rw [List.append_nil];exact h2⟩
 exact ⟨[S.K j],⟨l',id,ht,.inr ⟨h0,j,hj,hid,rfl,hr⟩⟩,hf⟩
theorem tj {S P:Swg} (ha:hG S P) (i:Nat) {l m:Lng} (hl:iC l m):hG (S.lane i l) (P.lane i m):=by
 refine ⟨ha.c,ha.now,ha.nx,ha.nE,ha.e,ha.n,ha.nK,ha.k,ha.nL,fun k hk=>?_,ha.dr,ha.lst⟩
 show iC (if k=i then l else S.L k) (if k=i then m else P.L k)
 split
 ·
  exact hl
 exact ha.l k hk
theorem CP.sG {S S' P:Swg} {i:Nat} {fs:List Pkt} (h:CP S S' i fs) (hi:i<S.nL) (ha:hG S P):∃ P',CP P P' i fs∧hG S' P':=by
 obtain ⟨l',id,ht,h⟩:=h
 obtain ⟨m',ht',hl⟩:=ht.sG (ha.l i hi)
 have hA:=tj ha i hl
 rcases h with ⟨h0,rfl,rfl⟩ | ⟨h0,j,hj,hid,rfl,⟨hr,rfl⟩ | ⟨hr,rfl⟩⟩
 ·
  exact ⟨_,⟨m',id,ht',.inl ⟨h0,rfl,rfl⟩⟩,hA⟩
 ·
  refine ⟨_,⟨m',id,ht',.inr ⟨h0,j,by rw [ha.nK];exact hj,by rw [ha.k];exact hid,by rw [ha.k],.inl ⟨by rw [ha.k];exact hr,rfl⟩⟩⟩,?_⟩
  exact ⟨hA.c,hA.now,hA.nx,hA.nE,hA.e,hA.n,hA.nK,by show j9 P.K j=j9 S.K j;rw [ha.k],hA.nL,hA.l,hA.dr,hA.lst⟩
 refine ⟨_,⟨m',id,ht',.inr ⟨h0,j,by rw [ha.nK];exact hj,by rw [ha.k];exact hid,by rw [ha.k],.inr ⟨by rw [ha.k];exact hr,rfl⟩⟩⟩,?_⟩
 refine ⟨hA.c,hA.now,hA.nx,hA.nE,hA.e,?_,by show P.nK-1=S.nK-1;rw [ha.nK],by show rmK P.K j=rmK S.K j;rw [ha.k],hA.nL,hA.l,hA.dr,hA.lst⟩
 show iA (kW S.N (S.K j).inn (S.K j).p (-(S.K j).cl)) (kW P.N (P.K j).inn (P.K j).p (-(P.K j).cl))
 rw [ha.k]
 exact oo ha.n _ _ _
theorem Swg.Ok.flip {S:Swg} (h:S.Ok) (i:Nat):(S.flip i).Ok:=⟨xD i h.n,⟨h.nums.now,h.nums.nx,h.nums.dr,h.nums.lst⟩,h.seen,h.k,h.nl,h.l,h.refs,h.held⟩
theorem xK {W:World} {a0:Option Addr} {n0 c0 c base:Nat} {xs:List Value} (t e:TypeId) (z:Value) (sz bytes:Nat) (hinfo:(Tryz.prog.info? e).map (fun i=>(i.zero,i.size,i.bytes))=some (some z,sz,bytes)) (hu:Tryz.prog.underlying t=some (.slice e)) (h:OG e sz W base a0 n0 c0 xs) :
  (Builtin.append_ #[t,t] t #[.slice a0 n0 c0,.slice none 0 c]).run Tryz.prog W=.ok (.slice a0 n0 c0) W:=by
 obtain ⟨i0,hi,hz0,hz1,hz2⟩:=info_parts hinfo
 rcases h.2 with ⟨e1,e2⟩ | ⟨g,cap,cur,e1,_,_,hn,_⟩
 ·
  cases e1
  simp [Builtin.append_,run_underlying hu,sizeOf,typeInfo,hi,Builtin.lenOf,Builtin.firstCells,loadCells,loadCellsFrom]
 cases e1
 simp [Builtin.append_,run_underlying hu,sizeOf,typeInfo,hi,Builtin.lenOf,Builtin.firstCells,loadCells,loadCellsFrom,storeCells,hn]
theorem zo {W:World} {base:Nat} {a0 a:Option Addr} {n0 c0 n c:Nat} {xs0 xs:List Value} (t e:TypeId) (z:Value) (sz bytes:Nat) (hinfo:(Tryz.prog.info? e).map (fun i=>(i.zero,i.size,i.bytes))=some (some z,sz,bytes)) (hu:Tryz.prog.underlying t=some (.slice e)) (hz:z.cells.size=sz) (hsz:0<sz) (hby:bytes≤1000)
  (h:OG e sz W base a0 n0 c0 xs0) (hb:base≤W.heap.size) (hn:n0+n≤1048576) (hl:xs.length=n*sz) (hr:Bm W a xs) (h1:∀ u∈xs,u.oneCell'=true) :
  ∃ a' c' W',(Builtin.append_ #[t,t] t #[.slice a0 n0 c0,.slice a n c]).run Tryz.prog W=.ok (.slice a' (n0+n) c') W'∧OG e sz W' base a' (n0+n) c' (xs0++xs)∧Touch (ix a0) W W'∧((a'=a0∧a0≠none)∨(∃ g,a'=some ⟨g,0,none⟩∧W.heap.size≤g)∨a'=none):=by
 have hbb:(n0+n)*bytes≤140737488355328:=by
  have:=Nat.mul_le_mul (show n0+n≤1048577 by omega) hby
  omega
 obtain ⟨i0,hi,hz0,hz1,hz2⟩:=info_parts hinfo
 cases a with
 | none =>
  have hx:xs=[]:=by
   cases xs with
   | nil=>rfl
   | cons x r =>
    obtain ⟨g,o,ha,_⟩:=hr 0 x rfl
    cases ha
  subst hx
  have hl':n*sz=0:=hl.symm
  have h0:n=0:=(Nat.mul_eq_zero.1 hl').resolve_right (by omega)
  subst h0
  refine ⟨a0,c0,W,xK t e z sz bytes hinfo hu h,by rw [List.append_nil];exact h,Touch.refl _ _,?_⟩
  cases a0 with
  | none=>exact .inr (.inr rfl)
  | some x=>exact .inl ⟨rfl,by simp⟩
 | some ad =>
  obtain ⟨v',W',hr',h2,h3,h4,h5⟩:=run_append_own_at (P:=Tryz.prog) W base t t e i0 z sz bytes hu hi hz0 hz1 hz2 hz hsz (.slice a0 n0 c0) n0 xs0 h ad n c xs hl (fun j u hj=>by
   obtain ⟨g,o,ha,hc⟩:=hr j u hj
   cases ha
   have e0:(⟨g,o,none⟩:Addr).add j=⟨g,o+j,none⟩:=by unfold Addr.add;split <;> simp_all
   rw [e0]
   exact hc) h1 (by unfold maxLen;omega) hbb hb
  have ht:=Touch.rv (v:=.slice a0 n0 c0) h3
  rcases h2.2 with ⟨e1,e2⟩ | ⟨g,cap,cur,e1,_⟩
  ·
   subst e1
   refine ⟨none,0,W',?_,?_,ht,.inr (.inr rfl)⟩
   ·
    rw [hr',←e2]
   rw [←e2] at h2 ⊢;exact h2
  subst e1
  refine ⟨some ⟨g,0,none⟩,cap,W',hr',h2,ht,?_⟩
  rcases h5 with h5 | h5
  ·
   left
   cases a0 with
   | none=>simp [Value.ownBlock] at h5
   | some x =>
    rcases h.2 with ⟨e3,_⟩ | ⟨g2,cap2,cur2,e3,_⟩
    ·
     cases e3
    cases e3
    simp [Value.ownBlock] at h5
    exact ⟨by rw [h5],by simp⟩
  right;left
  simp only [Value.ownBlock,Option.some.injEq] at h5
  exact ⟨g,rfl,by omega⟩
theorem pC {m:Nat} {w w2:World} {g o:Nat} {cs:Array Value} (hs:cs.size=m) (hc:∀ j,j<m→w.cell? ⟨g,o+j,none⟩=cs[j]?) (hb:Below w.heap.size w w2):∀ j,j<m→w2.cell? ⟨g,o+j,none⟩=cs[j]?:=by
 intro j hj
 have h2:=hc j hj
 have h3:j<cs.size:=by omega
 rw [Array.getElem?_eq_getElem h3] at h2
 exact ((hb.cell (p:=⟨g,o+j,none⟩) (j7 h2)).trans h2).trans (Array.getElem?_eq_getElem h3).symm
theorem xy:(Tryz.prog.info? 43).map (fun i=>(i.zero,i.size,i.bytes))=some (some (.agg #[.int .i64 0,.int .i64 0,.int .i64 0,.int .i64 0,.string ⟨#[]⟩]),5,48):=by kernel_rfl
def tV (n:Nat) (c:Nat→Array Value):List Value:=(List.range n).flatMap fun i=>(c i).toList
theorem rh (n:Nat) (c:Nat→Array Value):tV (n+1) c=tV n c++(c n).toList:=by simp [tV,List.range_succ]
theorem Ev {n:Nat} {c c':Nat→Array Value} (h:∀ i,i<n→c i=c' i):tV n c=tV n c':=by
 induction n with
 | zero=>rfl
 | succ n ih=>rw [rh,rh,ih (fun i hi=>h i (by omega)),h n (by omega)]
theorem OG.new (V:World) (t:TypeId) (sz base:Nat) (hb:base≤V.heap.size):OG t sz (V.alloc (.cells #[] t)) base (some ⟨V.heap.size,0,none⟩) 0 0 [] :=
 ⟨by simp,.inr ⟨V.heap.size,0,#[],rfl,hb,gV _ _,Nat.le_refl _,Nat.zero_le _,by simp,by simp⟩⟩
def fsF (fs:List Pkt) (i:Nat):Pkt:=(fs[i]?).getD zPk
theorem o6.len {S S':Swg} {i:Nat} {fs:List Pkt} (h:o6 S S' i fs):fs.length≤2:=by
 have ht:(nm S.C S.N i).length≤1:=by unfold nm;split <;> simp
 obtain ⟨l',id,_,⟨_,_,rfl⟩ | ⟨_,j,_,_,rfl,_⟩⟩:=h
 ·
  omega
 rw [List.length_append];simp;exact ht
def wN (S S':Swg) (port:Int) (fs:List Pkt) (b:Bool):Prop :=
 (b=true∧S.Ok∧∃ i:Nat,port=(i:Int)∧i<S.nL∧o6 S S' i fs)∨(b=false∧¬ (S.Ok∧0≤port∧port≤S.C.p-1)∧S'=kQ∧fs=[])
theorem BR (S:Swg) (port:Int):∃ S' fs b,wN S S' port fs b:=by
 by_cases h:S.Ok∧0≤port∧port≤S.C.p-1
 ·
  obtain ⟨i,rfl⟩:∃ i:Nat,port=(i:Int):=⟨port.toNat,by omega⟩
  have hi:i<S.nL:=by have:=h.1.nl;omega
  obtain ⟨S',fs,hm⟩:=Du h.1 hi
  exact ⟨S',fs,true,.inl ⟨rfl,h.1,i,rfl,hi,hm⟩⟩
 exact ⟨_,_,_,.inr ⟨rfl,h,rfl,rfl⟩⟩
structure TyL (w:World) (base:Nat) (l:Lng):Prop where
 t:VG 2 w base l.aT l.nT fun i=>.int .i64 (l.t i)
 u:VG 27 w base l.aU l.nU fun i=>.slice (l.uA i) (l.uL i) (l.uC i)
 z:∀ i,i<l.nU→VG 2 w base (l.uA i) (l.uL i) fun j=>.int .i64 (l.uz i j)
 q:VG 2 w base l.R.aQ l.R.nQ fun i=>.int .i64 (l.R.q i)
 d:VG 2 w base l.R.aD l.R.nD fun i=>.int .i64 (l.R.d i)
 s:VG 27 w base l.R.aS l.R.nS fun i=>.slice (l.R.A i) (l.R.L i) (l.R.C i)
 y:∀ i,i<l.R.nS→VG 2 w base (l.R.A i) (l.R.L i) fun j=>.int .i64 (l.R.z i j)
theorem jH.ty {w:World} {base:Nat} {l:Lng} (h:jH w base l):TyL w base l:=⟨h.t,h.u,h.z,h.q,h.d,h.s,h.y⟩
theorem TyL.rd {w:World} {base:Nat} {l:Lng} (h:TyL w base l):tH w l:=⟨h.t.read,h.u.read,fun i hi=>(h.z i hi).read,⟨h.q.read,h.d.read,h.s.read,fun i hi=>(h.y i hi).read⟩⟩
theorem TyL.up {w w':World} {base:Nat} {l:Lng} (h:TyL w base l) (hb:Below w.heap.size w w'):TyL w' base l :=
 ⟨h.t.up hb,h.u.up hb,fun i hi=>(h.z i hi).up hb,h.q.up hb,h.d.up hb,h.s.up hb,fun i hi=>(h.y i hi).up hb⟩
def CO (T:List Nat) (w:World):Prop:=∀ x∈T,∃ cs t,w.heap[x]?=some (.cells cs t (0,0))∧t≠2∧t≠27
theorem VG.xm {t:TypeId} {w w':World} {base n:Nat} {a:Option Addr} {f:Nat→Value} {T:List Nat} (h:VG t w base a n f) (ht:Touch T w w') (hT:CO T w) (h2:t=2∨t=27):VG t w' base a n f :=
 h.gX ht (fun x hx hy=>by
  obtain ⟨c1,k1⟩:=h.type x hx
  obtain ⟨c2,t2,k2,n1,n2⟩:=hT x hy
  rw [k1] at k2
  simp at k2
  rcases h2 with rfl | rfl
  ·
   exact n1 k2.2.symm
  ·
   exact n2 k2.2.symm)
theorem TyL.far {w w':World} {base:Nat} {l:Lng} {T:List Nat} (h:TyL w base l) (ht:Touch T w w') (hT:CO T w):TyL w' base l :=
 ⟨h.t.xm ht hT (.inl rfl),h.u.xm ht hT (.inr rfl),fun i hi=>(h.z i hi).xm ht hT (.inl rfl),h.q.xm ht hT (.inl rfl),h.d.xm ht hT (.inl rfl),h.s.xm ht hT (.inr rfl),fun i hi=>(h.y i hi).xm ht hT (.inl rfl)⟩
structure jU (w:World) (base:Nat) (X:Swg) (i:Nat):Prop where
 e:VT 75 w base X.aE (X.nE*3) (flat X.e)
 n:iG w base X.N
 k:VT 50 w base X.aK (X.nK*8) (wy X.K)
 l:VT 48 w base X.aL (X.nL*8) (qc X.L)
 ls:∀ k,k<X.nL→k≠i→TyL w base (X.L k)
theorem jU.up {w w':World} {base i:Nat} {X:Swg} (h:jU w base X i) (hb:Below w.heap.size w w'):jU w' base X i:=⟨h.e.up hb,h.n.up hb,h.k.up hb,h.l.up hb,fun k hk hi=>(h.ls k hk hi).up hb⟩
theorem TyL.mono {w:World} {base base':Nat} {l:Lng} (h:TyL w base l) (hb:base'≤base):TyL w base' l :=
 ⟨h.t.mono hb,h.u.mono hb,fun i hi=>(h.z i hi).mono hb,h.q.mono hb,h.d.mono hb,h.s.mono hb,fun i hi=>(h.y i hi).mono hb⟩
theorem TyL.low {w w':World} {base:Nat} {l:Lng} {T:List Nat} (h:TyL w base l) (ht:Touch T w w') (hT:∀ x∈T,x<base):TyL w' base l :=
 ⟨h.t.low ht hT,h.u.low ht hT,fun i hi=>(h.z i hi).low ht hT,h.q.low ht hT,h.d.low ht hT,h.s.low ht hT,fun i hi=>(h.y i hi).low ht hT⟩
theorem jU.mono {w:World} {base base' i:Nat} {X:Swg} (h:jU w base X i) (hb:base'≤base):jU w base' X i:=⟨h.e.mono hb,h.n.mono hb,h.k.mono hb,h.l.mono hb,fun k hk hi=>(h.ls k hk hi).mono hb⟩
theorem jU.low {w w':World} {base i:Nat} {X:Swg} {T:List Nat} (h:jU w base X i) (ht:Touch T w w') (hT:∀ x∈T,x<base):jU w' base X i:=⟨h.e.low ht hT,h.n.jm ht hT,h.k.low ht hT,h.l.low ht hT,fun k hk hi=>(h.ls k hk hi).low ht hT⟩
theorem jU.rd {w:World} {base:Nat} {X:Swg} (h:jU w base X X.nL):jK w X:=⟨h.e.g.C7,h.n.rd,h.k.g.pks,h.l.g.lns,fun k hk=>(h.ls k hk (by omega)).rd⟩
theorem ir.half {w:World} {base:Nat} {X:Swg} (h:ir w base X) (i:Nat):jU w base X i:=⟨h.g.e,h.n,h.g.k,h.g.l,fun k hk _=>(h.g.ls k hk).ty⟩
structure FA (T:List Nat) (w:World) (X:Swg):Prop where
 i:∀ x∈T,∃ cs t,w.heap[x]?=some (.cells cs t (0,0))∧t≠2∧t≠27∧t≠4∧t≠75
 k:∀ x∈T,x∉iU X.aK (X.nK*8)
 l:∀ x∈T,x∉iU X.aL (X.nL*8)
theorem FA.xm {T:List Nat} {w:World} {X:Swg} (h:FA T w X):CO T w:=fun x hx=>by
 obtain ⟨cs,t,k,n1,n2,_⟩:=h.i x hx
 exact ⟨cs,t,k,n1,n2⟩
theorem jU.far {w w':World} {base i:Nat} {X:Swg} {T:List Nat} (h:jU w base X i) (ht:Touch T w w') (hT:FA T w X):jU w' base X i:=by
 have far:∀ x t,(∃ cs,w.heap[x]?=some (.cells cs t (0,0)))→(t=2∨t=4∨t=75)→x∉T:=by
  rintro x t ⟨cs,hx⟩ ht hy
  obtain ⟨c2,t2,k2,n1,n2,n3,n4⟩:=hT.i x hy
  rw [hx] at k2
  simp at k2
  rcases ht with rfl | rfl | rfl
  ·
   exact n1 k2.2.symm
  ·
   exact n3 k2.2.symm
  exact n4 k2.2.symm
 exact ⟨h.e.gX ht (fun x hx=>far x _ (h.e.type x hx) (.inr (.inr rfl))),⟨h.n.u.gX ht (fun x hx=>far x _ (h.n.u.type x hx) (.inl rfl)),h.n.p.gX ht (fun x hx=>far x _ (h.n.p.type x hx) (.inr (.inl rfl)))⟩,h.k.gX ht (fun x hx hy=>hT.k x hy hx),h.l.gX ht (fun x hx hy=>hT.l x hy hx),fun k hk hi=>(h.ls k hk hi).far ht hT.xm⟩
theorem jU.box {w w':World} {base i g:Nat} {X:Swg} {cs:Array Value} {t:TypeId} (h:jU w base X i) (hg:w.heap[g]?=some (.cells cs t (0,0))) (ht:Touch [g] w w') (h2:t≠2∧t≠27∧t≠4∧t≠75) (hk:g∉iU X.aK (X.nK*8)) (hl:g∉iU X.aL (X.nL*8)):jU w' base X i :=
 h.far ht ⟨fun x hx=>(List.mem_singleton.1 hx)▸⟨cs,t,hg,h2.1,h2.2.1,h2.2.2.1,h2.2.2.2⟩,fun x hx=>(List.mem_singleton.1 hx)▸hk,fun x hx=>(List.mem_singleton.1 hx)▸hl⟩
theorem VT.pY {t t':TypeId} {w:World} {base n g:Nat} {a:Option Addr} {f:Nat→Value} {cs:Array Value} (h:VT t w base a n f) (hg:w.heap[g]?=some (.cells cs t' (0,0))) (hne:t≠t'):g∉iU a n:=fun hx=>by
 obtain ⟨c,k⟩:=h.type g hx
 exact jW k hg hne rfl
theorem xt {cur cs:Array Value} {o j:Nat} (hf:o+cs.size≤cur.size) (h:j<o∨o+cs.size≤j):(lay cur o cs)[j]?=cur[j]?:=by
 rcases h with h | h
 ·
  exact jQ hf j h
 unfold lay
 simp only [List.getElem?_toArray]
 rw [List.append_assoc,List.getElem?_append_right (by simp;omega),List.getElem?_append_right (by simp;omega),List.getElem?_drop]
 simp only [List.length_take,Array.length_toList,Array.getElem?_toList]
 congr 1
 omega
theorem jU.Dt {w W:World} {base gL i:Nat} {X:Swg} {l2:Lng} {cur:Array Value} (h:jU w base X i) (hi:i<X.nL) (eL:X.aL=some ⟨gL,0,none⟩) (kL:w.heap[gL]?=some (.cells cur 48 (0,0))) (hP:Put w W gL (lay cur (i*8) l2.cells) 48) (hl:TyL w base l2):jU W base (X.lane i l2) X.nL:=by
 have hoff:CO [gL] w:=fun x hx=>by
  obtain rfl:x=gL:=by simpa using hx
  exact ⟨_,_,kL,by decide,by decide⟩
 have far:∀ x t,(∃ cs,w.heap[x]?=some (.cells cs t (0,0)))→t≠48→x∉[gL]:=by
  rintro x t ⟨cs,hx⟩ hne hy
  exact jW hx kL hne (by simpa using hy)
 refine ⟨h.e.gX hP.to (fun x hx=>far x _ (h.e.type x hx) (by decide)),⟨h.n.u.gX hP.to (fun x hx=>far x _ (h.n.u.type x hx) (by decide)),h.n.p.gX hP.to (fun x hx=>far x _ (h.n.p.type x hx) (by decide))⟩,h.k.gX hP.to (fun x hx=>far x _ (h.k.type x hx) (by decide)),?_,fun k hk hk2=>?_⟩
 ·
  show VT 48 W base X.aL (X.nL*8) (qc (X.lane i l2).L)
  rcases h.l with e | ⟨g,e,hb,arr,k1,k2,k3⟩
  ·
   omega
  have hg:g=gL:=by rw [eL] at e;simp at e;exact e.symm
  subst hg
  rw [kL] at k1
  simp at k1
  subst k1
  have hs:l2.cells.size=8:=l2.iE
  have hf:i*8+l2.cells.size≤cur.size:=by omega
  refine .inr ⟨g,e,hb,_,hP.blk,by rw [js hf];exact k2,fun q hq=>?_⟩
  have e1:some (qc (X.lane i l2).L q)=((X.lane i l2).L (q / 8)).cells[q % 8]?:=by
   have:=lH (X.lane i l2).L (q / 8) (q % 8) (by omega)
   exact fP
  rw [e1]
  show _=(if q / 8=i then l2 else X.L (q / 8)).cells[q % 8]?
  by_cases c:q / 8=i
  ·
   rw [if_pos c]
   have:=jh hf (q % 8) (by omega)
   rwa [show i*8+q % 8=q by omega] at this
  rw [if_neg c,xt hf (by omega),k3 q hq]
  have:=lH X.L (q / 8) (q % 8) (by omega)
  exact fP
 show TyL W base (if k=i then l2 else X.L k)
 by_cases c:k=i
 ·
  rw [if_pos c];exact hl.far hP.to hoff
 rw [if_neg c];exact (h.ls k hk c).far hP.to hoff
theorem jU.setK {w W:World} {base gk j i:Nat} {X:Swg} {x:Pkt} {K':Nat→Pkt} {cur:Array Value} (h:jU w base X i) (hj:j<X.nK) (eK:X.aK=some ⟨gk,0,none⟩) (kK:w.heap[gk]?=some (.cells cur 50 (0,0))) (hP:Put w W gk (lay cur (j*8) x.cells) 50) (hK:∀ q,K' q=if q=j then x else X.K q):jU W base { X with K:=K' } i:=by
 have hoff:CO [gk] w:=fun x hx=>by
  obtain rfl:x=gk:=by simpa using hx
  exact ⟨_,_,kK,by decide,by decide⟩
 have far:∀ x t,(∃ cs,w.heap[x]?=some (.cells cs t (0,0)))→t≠50→x∉[gk]:=by
  rintro x t ⟨cs,hx⟩ hne hy
  exact jW hx kK hne (by simpa using hy)
 refine ⟨h.e.gX hP.to (fun x hx=>far x _ (h.e.type x hx) (by decide)),⟨h.n.u.gX hP.to (fun x hx=>far x _ (h.n.u.type x hx) (by decide)),h.n.p.gX hP.to (fun x hx=>far x _ (h.n.p.type x hx) (by decide))⟩,?_,h.l.gX hP.to (fun x hx=>far x _ (h.l.type x hx) (by decide)),fun k hk hk2=>(h.ls k hk hk2).far hP.to hoff⟩
 show VT 50 W base X.aK (X.nK*8) (wy K')
 rcases h.k with e | ⟨g,e,hb,arr,k1,k2,k3⟩
 ·
  omega
 have hg:g=gk:=by rw [eK] at e;simp at e;exact e.symm
 subst hg
 rw [kK] at k1
 simp at k1
 subst k1
 have hs:x.cells.size=8:=x.iE
 have hf:j*8+x.cells.size≤cur.size:=by omega
 refine .inr ⟨g,e,hb,_,hP.blk,by rw [js hf];exact k2,fun q hq=>?_⟩
 have e1:some (wy K' q)=(K' (q / 8)).cells[q % 8]?:=by
  have:=pI K' (q / 8) (q % 8) (by omega)
  exact fP
 rw [e1,hK]
 by_cases c:q / 8=j
 ·
  rw [if_pos c]
  have:=jh hf (q % 8) (by omega)
  rwa [show j*8+q % 8=q by omega] at this
 rw [if_neg c,xt hf (by omega),k3 q hq]
 have:=pI X.K (q / 8) (q % 8) (by omega)
 exact fP
theorem VT.at0 {t:TypeId} {w:World} {base n:Nat} {a:Option Addr} {f:Nat→Value} (h:VT t w base a n f) (h0:0<n):∃ g cur,a=some ⟨g,0,none⟩∧base≤g∧w.heap[g]?=some (.cells cur t (0,0))∧n≤cur.size∧∀ q,q<n→cur[q]?=some (f q):=by
 rcases h with e | ⟨g,e,hb,arr,k1,k2,k3⟩
 ·
  omega
 exact ⟨g,arr,e,hb,k1,k2,k3⟩
structure SpS (w:World) (S X:Swg) (b g6:Nat) (W:World):Prop where
 a:W.heap[w.heap.size]?=some (.cells S.cells 34 (0,0))
 z:W.heap[w.heap.size+1]?=some (.cells zSw 34 (0,0))
 o:W.heap[g6]?=some (.cells X.cells 34 (0,0))
 bel:Below w.heap.size w W
 lo:w.heap.size+1<b
 hi:b≤g6
theorem SpS.up {w:World} {S X:Swg} {b g6:Nat} {W W':World} (h:SpS w S X b g6 W) (hb:Below W.heap.size W W'):SpS w S X b g6 W' :=
 ⟨(hb.block _ (gO h.a)).trans h.a,(hb.block _ (gO h.z)).trans h.z,(hb.block _ (gO h.o)).trans h.o,h.bel.trans (hb.mono h.bel.size),h.lo,h.hi⟩
theorem SpS.size {w:World} {S X:Swg} {b g6:Nat} {W:World} (h:SpS w S X b g6 W):b<W.heap.size:=by have:=gO h.o;have:=h.hi;omega
theorem SpS.far {w:World} {S X:Swg} {b g6 g:Nat} {W W':World} {cs:Array Value} {t:TypeId} (h:SpS w S X b g6 W) (hg:W.heap[g]?=some (.cells cs t (0,0))) (hne:t≠34) (hb:b≤g) (ht:Touch [g] W W'):SpS w S X b g6 W':=by
 have far:∀ {x:Nat} {c:Array Value},W.heap[x]?=some (.cells c 34 (0,0))→W'.heap[x]?=some (.cells c 34 (0,0)):=fun {x c} hx=>(ht.block x (gO hx) (fun hy=>jW hg hx hne (by simpa using hy:x=g).symm)).trans hx
 exact ⟨far h.a,far h.z,far h.o,h.bel.trans (ht.below h.bel.size (fun x hx=>by have:=h.lo;simp at hx;omega)),h.lo,h.hi⟩
theorem SpS.jm {w:World} {S X:Swg} {b g6:Nat} {W W':World} {T:List Nat} (h:SpS w S X b g6 W) (ht:Touch T W W') (hT:∀ x∈T,b≤x∧∃ cs t,W.heap[x]?=some (.cells cs t (0,0))∧t≠34):SpS w S X b g6 W':=by
 have far:∀ {x:Nat} {c:Array Value},W.heap[x]?=some (.cells c 34 (0,0))→W'.heap[x]?=some (.cells c 34 (0,0)):=fun {x c} hx=>(ht.block x (gO hx) (fun hy=>by
  obtain ⟨_,c2,t2,k2,hne⟩:=hT x hy
  exact jW k2 hx hne rfl)).trans hx
 exact ⟨far h.a,far h.z,far h.o,h.bel.trans (ht.below h.bel.size (fun x hx=>by have:=h.lo;have:=(hT x hx).1;omega)),h.lo,h.hi⟩
theorem SpS.put {w:World} {S X Y:Swg} {b g6:Nat} {W W':World} (h:SpS w S X b g6 W) (hP:Put W W' g6 Y.cells 34):SpS w S Y b g6 W' :=
 ⟨(hP.to.block _ (gO h.a) (by have:=h.lo;have:=h.hi;simp;omega)).trans h.a,(hP.to.block _ (gO h.z) (by have:=h.lo;have:=h.hi;simp;omega)).trans h.z,hP.blk,h.bel.trans (hP.to.below h.bel.size (fun x hx=>by have:=h.lo;have:=h.hi;simp at hx;omega)),h.lo,h.hi⟩
theorem yV (C:Cfg) (N:Cnt) (p q y:Int) (w:World) (hN:Cnt.Ok C N) (h:lJ w N) (hp:0≤p∧p≤C.p-1) (hy1:-5≤y) (hy2:y≤5) (hok:Cnt.Ok C (kW N p q y)) :
  Calls Tryz.prog 70 #[.agg C.cells,.agg N.cells,.int .i64 p,.int .i64 q,.int .i64 y] w fun e w'=>∃ M:Cnt,e=.returned (.tuple #[.agg M.cells,.bool true])∧iG w' w.heap.size M∧Below w.heap.size w w'∧iA (kW N p q y) M:=by
 by_cases e:q=2
 ·
  subst e
  obtain ⟨i,rfl⟩:∃ i:Nat,p=(i:Int):=⟨p.toNat,by omega⟩
  rw [nX] at hok ⊢
  exact ph C N i y w hN h (by have:=hN.nU;omega) hy1 hy2 true ⟨fun _=>hok,fun _=>rfl⟩
 rw [mF e] at hok ⊢
 exact pj C N p q e y w hN h hy1 hy2 true ⟨fun _=>hok,fun _=>rfl⟩
theorem AP:(Tryz.prog.info? 25).map (·.size)=some 7:=by kernel_rfl
theorem oY:(Tryz.prog.info? 30).map (·.size)=some 3:=by kernel_rfl
theorem uO:(Tryz.prog.info? 48).map (·.size)=some 8:=by kernel_rfl
theorem uK:(Tryz.prog.info? 46).map (·.size)=some 5:=by kernel_rfl
theorem uM:(Tryz.prog.info? 50).map (·.size)=some 8:=by kernel_rfl
theorem AQ:(Tryz.prog.info? 27).map (·.size)=some 1:=by kernel_rfl
theorem D6:(Tryz.prog.info? 31).map (·.size)=some 1:=by kernel_rfl
theorem ET:(Tryz.prog.info? 2).map (fun i=>(i.zero,i.size,i.bytes))=some (some (.int .i64 0),1,8):=by kernel_rfl
theorem Cnt.lx (N:Cnt):N.cells.all (·.oneCell')=true:=by simp [Cnt.cells,Value.oneCell']
theorem ir.mz {w w':World} {base b2 n c:Nat} {S:Swg} {a:Option Addr} {xs:List Value} (h:ir w base S) (ho:OG 43 5 w b2 a n c xs) (ht:Touch (ix a) w w'):ir w' base S:=by
 rcases ho.2 with ⟨e,_⟩ | ⟨g,cap,cur,e,_,hk,_⟩
 ·
  cases e
  exact h.up (ht.below (Nat.le_refl _) (by simp [ix]))
 cases e
 have ht1:Touch [g] w w':=ht
 exact fT
theorem ir.EW {w w':World} {base g:Nat} {S:Swg} {cs:Array Value} (h:ir w base S) (hk:w.heap[g]?=some (.cells cs 43 (0,0))) (ht1:Touch [g] w w'):ir w' base S:=fT
theorem jU.mz {w w':World} {base b2 n c i:Nat} {S:Swg} {a:Option Addr} {xs:List Value} (h:jU w base S i) (ho:OG 43 5 w b2 a n c xs) (ht:Touch (ix a) w w'):jU w' base S i:=by
 rcases ho.2 with ⟨e,_⟩ | ⟨g,cap,cur,e,_,hk,_⟩
 ·
  cases e
  exact h.up (ht.below (Nat.le_refl _) (by simp [ix]))
 cases e
 exact h.box hk ht ⟨by decide,by decide,by decide,by decide⟩ (h.k.pY hk (by decide)) (h.l.pY hk (by decide))
theorem SpS.mz {w:World} {S X:Swg} {b g6 n c:Nat} {W W':World} {a:Option Addr} {xs:List Value} (h:SpS w S X b g6 W) (ho:OG 43 5 W b a n c xs) (ht:Touch (ix a) W W'):SpS w S X b g6 W' :=
 h.jm ht (fun x hx=>⟨(ho.blk x hx).1,by obtain ⟨cs,hc⟩:=ho.type x hx;exact ⟨cs,_,hc,by decide⟩⟩)
theorem ir.Fl {w:World} {base:Nat} {P:Swg} {M:Cnt} {w0:World} (h:ir w base P) (h0:ir w0 base P) (hM:iG w w0.heap.size M) (hb:base≤w0.heap.size):ir w base { P with N:=M } :=
 ⟨h.e,hM.mono hb,h.k,h.l,fun x hx hy=>by
  have h1:=(hM.u.blk x hx).1
  simp only [List.mem_flatMap,List.mem_range] at hy
  obtain ⟨i,hi,hy⟩:=hy
  have:=((h0.l.ls i hi).blk x hy).2
  omega⟩
theorem ye (n:Nat) (f:Nat→Int):(kr n f).length=n:=by unfold kr;simp
theorem Ct (n:Nat) (f:Nat→Int):∀ u∈kr n f,u.oneCell'=true:=by
 intro u hu
 unfold kr at hu
 simp only [List.mem_map,List.mem_range] at hu
 obtain ⟨i,_,rfl⟩:=hu
 rfl
theorem Fi {w:World} {a:Option Addr} {n:Nat} {f:Nat→Int} (h:iq w a n fun i=>.int .i64 (f i)):Bm w a (kr n f):=fun j u hj=>by
 have hlt:j<n:=by
  have:=(List.getElem?_eq_some_iff.1 hj).1
  rwa [ye] at this
 rw [xw n f j hlt] at hj
 simp at hj
 subst hj
 exact h j hlt
theorem Bg {V:World} {gz n c b:Nat} {f:Nat→Int} (h:OI V b (some ⟨gz,0,none⟩) n c f) (hn:n≠0) (hle:n≤1048576) :
  ∃ a' c' W',(Builtin.append_ #[27,27] 27 #[.slice (some ⟨V.heap.size,0,none⟩) 0 0,.slice (some ⟨gz,pZ 0 c,none⟩) (n-1) (c-1)]).run Tryz.prog (V.alloc (.cells #[] 2))=.ok (.slice a' (n-1) c') W'∧OI W' V.heap.size a' (n-1) c' (fun k=>f (k+1))∧Below V.heap.size V W' :=
 mi 27 2 (.int .i64 0) 1 8 ET Tryz.underlying27 rfl (by decide) (by decide) (by omega) (by rw [ye,Nat.mul_one]) (Fi (f:=fun k=>f (k+1)) ((h.vgI.drop hn (OG.cap (t:=2) (sz:=1) h)).read)) (Ct _ _)
theorem OI.some {w:World} {base:Nat} {a:Option Addr} {n c:Nat} {f:Nat→Int} (h:OI w base a n c f) (h0:n≠0):∃ g,a=some ⟨g,0,none⟩∧w.cell? ⟨g,0,none⟩=some (.int .i64 (f 0)):=by
 have h2:OG 2 1 w base a n c (kr n f):=h
 obtain ⟨g,cur,e,k1,k2,k3⟩:=h2.at0 (by omega)
 refine ⟨g,e,?_⟩
 rw [gM k1,k3 0 (by omega),xw n f 0 (by omega)]
theorem TyL.Db {w:World} {base:Nat} {l:Lng} {a':Option Addr} {c':Nat} (h:TyL w base l) (ho:OI w base a' (l.nT-1) c' fun k=>l.t (k+1)):TyL w base { l with aT:=a',nT:=l.nT-1,cT:=c',t:=fun k=>l.t (k+1) }:=⟨ho.vgI,h.u,h.z,h.q,h.d,h.s,h.y⟩
theorem TyL.tg {w:World} {base b2:Nat} {l:Lng} {R:Rnd} (h:TyL w base l) (ho:iX w b2 R) (hb:base≤b2):TyL w base { l with R:=R }:=⟨h.t,h.u,h.z,ho.q.g.mono hb,ho.d.g.mono hb,ho.s.g.mono hb,fun i hi=>(ho.z i hi).g.mono hb⟩
theorem VI.xm {w w':World} {base n:Nat} {a:Option Addr} {f:Nat→Int} {T:List Nat} (h:VI w base a n f) (ht:Touch T w w') (hT:CO T w):VI w' base a n f:=by
 rcases h with h | ⟨g,e,hb,arr,k1,k2,k3⟩
 ·
  exact .inl h
 refine .inr ⟨g,e,hb,arr,(ht.block g (gO k1) (fun hy=>?_)).trans k1,k2,k3⟩
 obtain ⟨c2,t2,k4,n1,n2⟩:=hT g hy
 rw [k1] at k4
 simp at k4
 exact n1 k4.2.symm
theorem VS.xm {w w':World} {base n:Nat} {a:Option Addr} {f:Nat→Value} {T:List Nat} (h:VS w base a n f) (ht:Touch T w w') (hT:CO T w):VS w' base a n f:=by
 rcases h with h | ⟨g,e,hb,arr,k1,k2,k3⟩
 ·
  exact .inl h
 refine .inr ⟨g,e,hb,arr,(ht.block g (gO k1) (fun hy=>?_)).trans k1,k2,k3⟩
 obtain ⟨c2,t2,k4,n1,n2⟩:=hT g hy
 rw [k1] at k4
 simp at k4
 exact n2 k4.2.symm
theorem iX.Fk {w w':World} {base:Nat} {R:Rnd} {T:List Nat} (h:iX w base R) (hT:CO T w) (ht:Touch T w w'):iX w' base R :=
 ⟨h.q.xm ht hT,h.d.xm ht hT,h.s.xm ht hT,fun i hi=>(h.z i hi).xm ht hT,h.qd,h.qz,h.dz,h.zz⟩
theorem xj {m:Nat} {K:Nat→Pkt} {l:Lng} {M:Rnd} {cl:Nat} {s:Int} (hl:lB m K l) (hp:pM l.R M (cl:Int) s):cl<2∧l.uL cl≠0:=by
 rcases hp with ⟨hno,_⟩ | ⟨_,_,_,e,_⟩ | ⟨ho,_,k,c',hpk,e⟩
 ·
  exact absurd hl.r hno
 ·
  omega
 have e2:c'=cl:=by omega
 subst e2
 have hc2:c'<2:=by
  have:=(hpk.ok ho).2.2.1
  have:=hl.n
  omega
 exact ⟨hc2,by rw [(hl.z c' hc2).2.1];exact hpk.rows.1⟩
theorem VG.rM {w w':World} {base n gu:Nat} {a:Option Addr} {f:Nat→Value} {cs:Array Value} (h:VG 2 w base a n f) (kU:w.heap[gu]?=some (.cells cs 27 (0,0))) (ht:Touch [gu] w w'):VG 2 w' base a n f :=
 h.gX ht (fun x hx hy=>by
  obtain ⟨c1,k1⟩:=h.type x hx
  exact jW k1 kU (by decide) (by simpa using hy))
theorem TyL.DV {w w':World} {base gu:Nat} {l:Lng} {cs:Array Value} (h:TyL w base l) (kU:w.heap[gu]?=some (.cells cs 27 (0,0))) (ht:Touch [gu] w w') (hu:gu∉iU l.aU l.nU) (hs:gu∉iU l.R.aS l.R.nS):TyL w' base l :=
 ⟨h.t.rM kU ht,h.u.gX ht (fun x hx hy=>hu ((List.mem_singleton.1 hy)▸hx)),fun i hi=>(h.z i hi).rM kU ht,h.q.rM kU ht,h.d.rM kU ht,h.s.gX ht (fun x hx hy=>hs ((List.mem_singleton.1 hy)▸hx)),fun i hi=>(h.y i hi).rM kU ht⟩
theorem jU.DV {w w':World} {base i gu:Nat} {X:Swg} {cs:Array Value} (h:jU w base X i) (kU:w.heap[gu]?=some (.cells cs 27 (0,0))) (ht:Touch [gu] w w') (hL:∀ k,k<X.nL→k≠i→gu∉iU (X.L k).aU (X.L k).nU∧gu∉iU (X.L k).R.aS (X.L k).R.nS):jU w' base X i:=by
 have far:∀ x t,(∃ cs,w.heap[x]?=some (.cells cs t (0,0)))→t≠27→x∉[gu]:=by
  rintro x t ⟨cs,hx⟩ hne hy
  exact jW hx kU hne (by simpa using hy)
 exact ⟨h.e.gX ht (fun x hx=>far x _ (h.e.type x hx) (by decide)),⟨h.n.u.gX ht (fun x hx=>far x _ (h.n.u.type x hx) (by decide)),h.n.p.gX ht (fun x hx=>far x _ (h.n.p.type x hx) (by decide))⟩,h.k.gX ht (fun x hx=>far x _ (h.k.type x hx) (by decide)),h.l.gX ht (fun x hx=>far x _ (h.l.type x hx) (by decide)),fun k hk hki=>(h.ls k hk hki).DV kU ht (hL k hk hki).1 (hL k hk hki).2⟩
theorem CH (a:Option Addr) (n:Nat):∀ x∈iU a n,x∈ix a:=fun x hx=>(mf a n).subset hx
theorem ir.nu {w:World} {base i gu:Nat} {X:Swg} (h:ir w base X) (hi:i<X.nL) (hg:gu∈ix (X.L i).aU):∀ k,k<X.nL→k≠i→gu∉iU (X.L k).aU (X.L k).nU∧gu∉iU (X.L k).R.aS (X.L k).R.nS:=fun k hk hne=>by
 have hx:gu∉(X.L k).nu:=mA X.nL h.l.td i k hi hk (fun e=>hne e.symm) gu (by unfold Lng.nu;exact List.mem_append.2 (.inl hg))
 unfold Lng.nu at hx
 rw [List.mem_append] at hx
 exact ⟨fun h1=>hx (.inl (CH _ _ gu h1)),fun h1=>hx (.inr h1)⟩
def Lng.Ep (l:Lng) (c:Nat) (a':Option Addr) (c':Nat) (R:Rnd):Lng:={ l with uA:=fun k=>if k=c then a' else l.uA k,uL:=ly l.uL c (l.uL c-1),uC:=fun k=>if k=c then c' else l.uC k,uz:=qF l.uz c (fun j=>l.uz c (j+1)),R:=R }
theorem TyL.Ep {w W:World} {base gu cl c':Nat} {l:Lng} {R:Rnd} {a':Option Addr} {cur:Array Value} (h:TyL w base { l with R:=R }) (eU:l.aU=some ⟨gu,0,none⟩) (kU:w.heap[gu]?=some (.cells cur 27 (0,0))) (hsz:l.nU≤cur.size) (hcl:cl<l.nU) (hP:Put w W gu (lay cur cl #[.slice a' (l.uL cl-1) c']) 27) (ho:OI w base a' (l.uL cl-1) c' fun k=>l.uz cl (k+1)) (hs:gu∉iU R.aS R.nS) (hc:∀ k,k<l.nU→cur[k]?=some (.slice (l.uA k) (l.uL k) (l.uC k))) (hb:base≤gu):TyL W base (l.Ep cl a' c' R):=by
 have hf:cl+(#[.slice a' (l.uL cl-1) c']:Array Value).size≤cur.size:=by simp;omega
 refine ⟨h.t.rM kU hP.to,?_,fun k hk=>?_,h.q.rM kU hP.to,h.d.rM kU hP.to,h.s.gX hP.to (fun x hx hy=>hs ((List.mem_singleton.1 hy)▸hx)),fun i hi=>(h.y i hi).rM kU hP.to⟩
 ·
  show VG 27 W base l.aU l.nU fun k=>.slice (if k=cl then a' else l.uA k) (ly l.uL cl (l.uL cl-1) k) (if k=cl then c' else l.uC k)
  rw [eU]
  refine .inr ⟨gu,0,rfl,hb,_,hP.blk,by rw [js hf];omega,fun k hk=>?_⟩
  rw [Nat.zero_add]
  dsimp only
  by_cases e:k=cl
  ·
   subst e
   rw [if_pos rfl,if_pos rfl,jg]
   exact jh hf 0 (by simp)
  rw [if_neg e,if_neg e,iP e,xt hf (by simp;omega)]
  exact hc k hk
 show VG 2 W base (if k=cl then a' else l.uA k) (ly l.uL cl (l.uL cl-1) k) fun j=>.int .i64 (qF l.uz cl (fun j=>l.uz cl (j+1)) k j)
 by_cases e:k=cl
 ·
  subst e
  rw [if_pos rfl,jg,lp]
  exact ho.vgI.rM kU hP.to
 rw [if_neg e,iP e,nr e]
 exact (h.z k hk).rM kU hP.to
theorem DF {n:Nat} {K K':Nat→Pkt} (h:∀ i,i<n→K i=K' i):oG n K=oG n K':=by
 induction n with
 | zero=>rfl
 | succ n ih=>rw [kJ,kJ,ih (fun i hi=>h i (by omega)),h n (by omega)]
theorem zZ (K:Nat→Pkt) (j:Nat):∀ m,oG j K++oG m (fun q=>K (j+1+q))=oG (j+m) (rmK K j)
 | 0=>by
  show oG j K++[]=oG j (rmK K j)
  rw [List.append_nil]
  exact DF (fun i hi=>(oC hi).symm)
 | m+1=>by
  rw [kJ,←List.append_assoc,zZ K j m,show j+(m+1)=j+m+1 by omega,kJ,po (show j≤j+m by omega),show j+1+m=j+m+1 by omega]
theorem yA (gk n c k:Nat) (w:World) (hk:k≤n) (hc:n≤c) :
  (Instr.slice 31 (.slice (some ⟨gk,0,none⟩) n c) (some (.int .i64 (k:Int))) none none).run Tryz.prog w=.ok (.slice (some ⟨gk,if c=k then 0 else k*8,none⟩) (n-k) (c-k)) w:=by
 have h1:(k:Int)≤(n:Int):=by omega
 have h3:(0:Int)≤(k:Int):=by omega
 have h4:(n:Int)≤(c:Int):=by omega
 by_cases h5:c=k
 ·
  have h2:c-k=0:=by omega
  simp [go_sem,h1,h2,h3,h4,h5]
 have h2:¬ c-k=0:=by omega
 simp [go_sem,h1,h2,h3,h4,h5]
theorem AG:(Tryz.prog.info? 50).map (fun i=>(i.zero,i.size,i.bytes))=some (some (.agg zPk.cells),8,72):=by kernel_rfl
theorem mI.tail {w:World} {gk n j m:Nat} {K:Nat→Pkt} (h:mI w (some ⟨gk,0,none⟩) n K) (hm:j+1+m≤n):mI w (some ⟨gk,(j+1)*8,none⟩) m (fun q=>K (j+1+q)):=fun i hi =>
 ⟨gk,(j+1)*8,rfl,fun q hq=>by
  have:=h.cell (i:=j+1+i) (by omega) q hq
  rw [show 0+(j+1+i)*8+q=(j+1)*8+i*8+q by omega] at this
  exact this⟩
theorem E4 {D:World} {gk n c j:Nat} {K:Nat→Pkt} (h:mI D (some ⟨gk,0,none⟩) n K) (hj:j<n) (hc:n≤c) (hn:n≤1048576) :
  ∃ a1 c1 W1,(Builtin.append_ #[31,31] 31 #[.slice (some ⟨D.heap.size,0,none⟩) 0 0,.slice (some ⟨gk,0,none⟩) j c]).run Tryz.prog (D.alloc (.cells #[] 50))=.ok (.slice a1 j c1) W1∧Below D.heap.size D W1 ∧
  ∃ a2 c2 W2,(Builtin.append_ #[31,31] 31 #[.slice a1 j c1,.slice (some ⟨gk,if c=j+1 then 0 else (j+1)*8,none⟩) (n-(j+1)) (c-(j+1))]).run Tryz.prog W1=.ok (.slice a2 (n-1) c2) W2∧OG 50 8 W2 D.heap.size a2 (n-1) c2 (oG (n-1) (rmK K j))∧Below D.heap.size D W2:=by
 have hlo:mI D (some ⟨gk,0,none⟩) j K:=fun i hi=>h i (by omega)
 obtain ⟨a1,c1,W1,r1,o1,b1⟩:=mi (V:=D) (c:=c) 31 50 _ 8 72 AG Tryz.underlying31 rfl (by decide) (by decide) (by omega) (l9 j K) hlo.cs (qM j K)
 refine ⟨a1,c1,W1,r1,b1,?_⟩
 have hrd:Bm W1 (some ⟨gk,if c=j+1 then 0 else (j+1)*8,none⟩) (oG (n-(j+1)) (fun q=>K (j+1+q))):=by
  by_cases e:n=j+1
  ·
   rw [show n-(j+1)=0 by omega]
   intro q u hq
   simp [oG] at hq
  rw [if_neg (by omega)]
  exact ((h.up b1).tail (by omega)).cs
 obtain ⟨a2,c2,W2,r2,o2,t2,_⟩:=zo (c:=c-(j+1)) 31 50 _ 8 72 AG Tryz.underlying31 rfl (by decide) (by decide) o1 b1.size (by omega) (l9 _ _) hrd (qM _ _)
 rw [zZ] at o2
 rw [show j+(n-(j+1))=n-1 by omega] at r2 o2
 exact ⟨a2,c2,W2,r2,o2,b1.trans (t2.below b1.size (fun x hx=>(o1.blk x hx).1))⟩
theorem Cx (ts:List Pkt) (x:Pkt):(tV (ts.length+1) fun k=>(fsF (ts++[x]) k).frame)=(tV ts.length fun k=>(fsF ts k).frame)++x.frame.toList:=by
 rw [rh]
 congr 1
 ·
  exact Ev (fun q hq=>by unfold fsF;rw [List.getElem?_append_left hq])
 unfold fsF;simp
theorem Dr {w:World} {S Y:Swg} {b g6 n c:Nat} {Z1 Z2:World} {a:Option Addr} {xs:List Value} {cs:Array Value} (h:SpS w S Y b g6 Z1) (hh:jU Z1 b Y Y.nL) (ho:OG 43 5 Z1 b a n c xs) (hP:Put Z1 Z2 (w.heap.size+1) cs 34):jU Z2 w.heap.size Y Y.nL∧OG 43 5 Z2 w.heap.size a n c xs∧Below w.heap.size w Z2:=by
 have hlo:=h.lo
 exact ⟨(hh.box h.z hP.to ⟨by decide,by decide,by decide,by decide⟩ (hh.k.pY h.z (by decide)) (hh.l.pY h.z (by decide))).mono (by omega),(ho.gX hP.to (fun x hx hy=>ho.lF (by decide) h.z (by simp at hy;rw [←hy];exact hx))).mono (by omega),h.bel.trans (hP.to.below h.bel.size (fun x hx=>by simp at hx;omega))⟩
structure SpY (S S' Y:Swg) (id:Int) (ts fs:List Pkt):Prop where
 n:Y.nK≤1048576
 cap:Y.nK≤Y.cK
 k:jS Y.nx Y.C.p Y.nK Y.K
 refs:∀ j,j<Y.nK→1≤(Y.K j).refs∧(Y.K j).refs≤12000
 cn:Cnt.Ok Y.C Y.N
 rel:∀ j,j<Y.nK→Cnt.Ok Y.C (kW Y.N (Y.K j).inn (Y.K j).p (-(Y.K j).cl))
 c:Y.C=S.C
 ax:(id=0∧hG S' Y∧fs=ts)∨(id≠0∧∃ j,j<Y.nK∧(Y.K j).id=id∧fs=ts++[Y.K j]∧(((Y.K j).refs≠1∧hG S' { Y with K:=j9 Y.K j })∨((Y.K j).refs=1∧hG S' { Y with nK:=Y.nK-1,K:=rmK Y.K j,N:=kW Y.N (Y.K j).inn (Y.K j).p (-(Y.K j).cl) })))
theorem spY {S S' X X':Swg} {l' l2:Lng} {i:Nat} {id:Int} {ts gs fs:List Pkt} (hok:X.Ok) (hs:X.Small) (hcap:X.nK≤X.cK) (hC:X.C=S.C) (hal:iC l' l2) (efs:fs=ts++gs) (hA:hG S' X')
  (hc:(id=0∧X'=X.lane i l'∧gs=[])∨(id≠0∧∃ j,j<X.nK∧(X.K j).id=id∧gs=[X.K j]∧(((X.K j).refs≠1∧X'={ X.lane i l' with K:=j9 X.K j })∨((X.K j).refs=1∧X'={ X.lane i l' with nK:=X.nK-1,K:=rmK X.K j,N:=kW X.N (X.K j).inn (X.K j).p (-(X.K j).cl) })))):SpY S S' (X.lane i l2) id ts fs:=by
 have HLA:=tj (hG.refl X) i hal
 refine ⟨hs.k,hcap,hok.k,fun j hj=>?_,hok.n,fun j hj=>(hok.rel hj).2,hC,?_⟩
 ·
  have h1:=hok.yC hj
  have h2:(X.nL:Int)≤4:=by rw [hok.nl];exact hok.n.c.num.p.2
  exact ⟨h1.1,by have:=h1.2;show (X.K j).refs≤12000;omega⟩
 rcases hc with ⟨q1,q2,q3⟩ | ⟨q1,j,q2,q3,q4,⟨q5,q6⟩ | ⟨q5,q6⟩⟩
 ·
  exact .inl ⟨q1,by rw [q2] at hA;exact hA.trans HLA,by rw [efs,q3,List.append_nil]⟩
 ·
  refine .inr ⟨q1,j,q2,q3,by rw [efs,q4];rfl,.inl ⟨q5,?_⟩⟩
  rw [q6] at hA
  exact hA.trans ⟨HLA.c,HLA.now,HLA.nx,HLA.nE,HLA.e,HLA.n,HLA.nK,rfl,HLA.nL,HLA.l,HLA.dr,HLA.lst⟩
 refine .inr ⟨q1,j,q2,q3,by rw [efs,q4];rfl,.inr ⟨q5,?_⟩⟩
 rw [q6] at hA
 exact hA.trans ⟨HLA.c,HLA.now,HLA.nx,HLA.nE,HLA.e,iA.refl _,rfl,rfl,HLA.nL,HLA.l,HLA.dr,HLA.lst⟩
theorem jU.newRow {w:World} {base b2 i n c:Nat} {Y:Swg} {a:Option Addr} {K:Nat→Pkt} (h:jU w base Y i) (ho:OG 50 8 w b2 a n c (oG n K)) (hb:base≤b2):jU w base { Y with aK:=a,nK:=n,cK:=c,K:=K } i :=
 ⟨h.e,h.n,(ho.vt (fun i hi=>vH _ _ i hi)).mono hb,h.l,h.ls⟩
theorem jU.Fl {w:World} {base b2 i:Nat} {Y:Swg} {M:Cnt} (h:jU w base Y i) (hM:iG w b2 M) (hb:base≤b2):jU w base { Y with N:=M } i:=⟨h.e,hM.mono hb,h.k,h.l,h.ls⟩
theorem Ec (K:Nat→Pkt) (j:Nat):∀ q,j9 K j q=if q=j then { K j with refs:=(K j).refs-1 } else K q:=fun q=>by
 unfold j9
 by_cases e:q=j
 ·
  subst e;rw [if_pos rfl]
 rw [if_neg e,if_neg e]
theorem Ei {g gk n:Nat} (h:g≠gk):g∉iU (some ⟨gk,0,none⟩) n:=by
 unfold iU
 split
 ·
  simp
 simp;exact h
theorem iG.Fj {w w':World} {base g:Nat} {N:Cnt} {cs:Array Value} {t:TypeId} (h:iG w base N) (hg:w.heap[g]?=some (.cells cs t (0,0))) (h2:2≠t) (h4:4≠t) (ht:Touch [g] w w'):iG w' base N :=
 ⟨h.u.gX ht (fun x hx hy=>h.u.pY hg h2 ((List.mem_singleton.1 hy)▸hx)),h.p.gX ht (fun x hx hy=>h.p.pY hg h4 ((List.mem_singleton.1 hy)▸hx))⟩
end Go.Proofs.YthicmlolanifhaaGreat
