import Derived.Test.YtjippgbmmlcgoaaGreatDoorB23
import Derived.Shelf.LaysM
import Derived.Shelf.Strconv.Clone
namespace Go.Proofs.YtjippgbmmlcgoaaGreatDoor
open Go.RowKit
set_option linter.unusedVariables false
set_option linter.unusedSimpArgs false
variable {a:Act} {listed:Array Bool} {A B C cs:Array Value} {Q:Exit→Act→World→Prop} {S rs:List Nat} {xs:List Value} {base base' c fuel i j m n:Nat} {K:Nat→Pkt} {f:Nat→Value} {o oi:Oper} {E:Prop} {t t' tA tB:TypeId} {v:Value} {W W' w w':World}
theorem du {p:Prop} (h:p:=by
 obtain ⟨i,hi,hx⟩:=jF.1 hx
 exact OG.type (t:=2) (sz:=1) (h.z i hi) x hx):p:=h
theorem sk (z:Nat→Int) (x:Int):∀ n,occ (fun i=>z (i+1)) x n+(if z 0=x then 1 else 0)=occ z x (n+1)
 | 0=>rfl
 | n+1=>by
  have ih:=sk z x n
  show occ (fun i=>z (i+1)) x n+(if z (n+1)=x then 1 else 0)+(if z 0=x then 1 else 0)=occ z x (n+1)+(if z (n+1)=x then 1 else 0)
  omega
def Lng.ua (l:Lng) (x:Int):Nat:=occ l.t x l.nT+rC l x l.nU
theorem pD.tail {z:Nat→Int} {prio:Int} (h:pD n z prio m K):pD (n-1) (fun i=>z (i+1)) prio m K:=fun i hi=>by
 obtain ⟨h1,h2⟩:=h (i+1) (by omega)
 refine ⟨h1,fun h0=>?_⟩
 have:=h2 (by omega)
 rw [show i+1-1=i-1+1 by omega] at this
 exact this
theorem sX.jQ {l l':Lng} {id:Int} (hl:nN m K l) (h:sX l l' id) (hpos:∀ j,j<m→1≤(K j).id) :
  nN m K l'∧∀ x,x≠0→l'.ua x+(if id=x then 1 else 0)=l.ua x:=by
 have hu2:∀ (l:Lng) x,l.nU=2→rC l x l.nU=0+occ (l.uz 0) x (l.uL 0)+occ (l.uz 1) x (l.uL 1):=fun l x e=>by rw [e];rfl
 rcases h with ⟨h1,h2,rfl,rfl⟩ | ⟨_,M,y,s,hp,⟨rfl,rfl,rfl⟩ | ⟨c,rfl,rfl,rfl⟩⟩
 ·
  refine ⟨⟨hl.r,hl.n,hl.q0,hl.q1,hl.u,hl.z,hl.t.tail⟩,fun x hx=>?_⟩
  have:=sk l.t x (l.nT-1)
  rw [show l.nT-1+1=l.nT by omega] at this
  show occ (fun i=>l.t (i+1)) x (l.nT-1)+rC l.E7 x l.E7.nU+_=occ l.t x l.nT+rC l x l.nU
  rw [hu2 l.E7 x hl.u,hu2 l x hl.u]
  show occ (fun i=>l.t (i+1)) x (l.nT-1)+(0+occ (l.uz 0) x (l.uL 0)+occ (l.uz 1) x (l.uL 1))+_=_
  omega
 ·
  have hM:M=l.R:=by
   rcases hp with ⟨hno,_⟩ | ⟨_,_,e,_⟩ | ⟨_,_,_,_,_,e⟩
   ·
    exact absurd hl.r hno
   ·
    exact e
   omega
  subst hM
  exact ⟨hl,fun x hx=>by rw [if_neg (fun e=>hx e.symm)];rfl⟩
 rcases hp with ⟨hno,_⟩ | ⟨_,_,_,e,_⟩ | ⟨ho,_,k,c',hpk,e⟩
 ·
  exact absurd hl.r hno
 ·
  omega
 have e2:c'=c:=by omega
 subst e2
 obtain ⟨r1,r2,r3,r4,r5,r6⟩:=hpk.rows
 obtain ⟨o1,o2,o3,_⟩:=hpk.ok ho
 have hc2:c'<2:=by have:=hl.n;omega
 obtain ⟨z1,z2,z3⟩:=hl.z c' hc2
 have hL:0<l.uL c':=by rw [z2];exact Nat.pos_of_ne_zero r1
 refine ⟨⟨o1,by show M.nQ=2;rw [r6,hl.n],by show M.q 0=2;rw [r5,hl.q0],by show M.q 1=4;rw [r5,hl.q1],hl.u,fun d hd=>?_,hl.t⟩,fun x hx=>?_⟩
 ·
  show pD (oY l.uL c' (l.uL c'-1) d) (tJ l.uz c' (fun j=>l.uz c' (j+1)) d) (d:Int) m K∧oY l.uL c' (l.uL c'-1) d=M.L d∧∀ i,i<oY l.uL c' (l.uL c'-1) d→∀ j,j<m→(K j).id=tJ l.uz c' (fun j=>l.uz c' (j+1)) d i→M.z d i=(K j).cl
  rw [r3,r4]
  by_cases e:d=c'
  ·
   subst e
   rw [jE,mm,jE,mm]
   exact ⟨z1.tail,by rw [z2],fun i hi j hj e=>z3 (i+1) (by omega) j hj e⟩
  rw [jJ e,pv e,jJ e,pv e]
  exact hl.z d hd
 show occ l.t x l.nT+rC (l.F0 c' M) x (l.F0 c' M).nU+_=occ l.t x l.nT+rC l x l.nU
 rw [hu2 (l.F0 c' M) x hl.u,hu2 l x hl.u]
 show _+(0+occ (tJ l.uz c' (fun j=>l.uz c' (j+1)) 0) x (oY l.uL c' (l.uL c'-1) 0)+occ (tJ l.uz c' (fun j=>l.uz c' (j+1)) 1) x (oY l.uL c' (l.uL c'-1) 1))+_=_
 have hs:=sk (l.uz c') x (l.uL c'-1)
 rw [show l.uL c'-1+1=l.uL c' by omega] at hs
 have hc:c'=0∨c'=1:=by omega
 rcases hc with rfl | rfl
 ·
  rw [mm,jE,pv (by omega),jJ (by omega)]
  omega
 rw [mm,jE,pv (by omega),jJ (by omega)]
 omega
theorem sn (L:Nat→Lng) (i:Nat) (l':Lng) (x:Int) (d:Nat) (h:l'.ua x+d=(L i).ua x):∀ n,lS (fun k=>if k=i then l' else L k) x n+(if i<n then d else 0)=lS L x n
 | 0=>rfl
 | n+1=>by
  have ih:=sn L i l' x d h n
  show lS (fun k=>if k=i then l' else L k) x n+Lng.ua (if n=i then l' else L n) x+_=lS L x n+Lng.ua (L n) x
  by_cases e:n=i
  ·
   subst e
   rw [if_pos rfl,if_pos (by omega)]
   rw [if_neg (by omega)] at ih
   omega
  rw [if_neg e]
  by_cases e2:i<n
  ·
   rw [if_pos (by omega)]
   rw [if_pos e2] at ih
   omega
  rw [if_neg (by omega)]
  rw [if_neg e2] at ih
  omega
theorem nN.dec {l:Lng} (h:nN m K l):nN m (lf K j) l:=by
 have hid:∀ i,(lf K j i).id=(K i).id:=fun i=>by unfold lf;split <;> rfl
 have hp:∀ i,(lf K j i).p=(K i).p:=fun i=>by unfold lf;split <;> rfl
 have hcl:∀ i,(lf K j i).cl=(K i).cl:=fun i=>by unfold lf;split <;> rfl
 have ids:∀ {n z prio},pD n z prio m K→pD n z prio m (lf K j):=fun k i hi=>by
  obtain ⟨⟨a,a1,a2,a3⟩,b⟩:=k i hi
  exact ⟨⟨a,a1,by rw [hid];exact a2,by rw [hp];exact a3⟩,b⟩
 exact ⟨h.r,h.n,h.q0,h.q1,h.u,fun c hc=>⟨ids (h.z c hc).1,(h.z c hc).2.1,fun i hi a ha e=>by rw [hid] at e;rw [hcl];exact (h.z c hc).2.2 i hi a ha e⟩,ids h.t⟩
theorem yL (K:Nat→Pkt) (j:Nat) (q:Int):∀ n,jI (lf K j) q n=jI K q n
 | 0=>rfl
 | n+1=>by
  show jI (lf K j) q n+(if (lf K j n).p=2∧(lf K j n).inn=q then (lf K j n).cl else 0)=jI K q n+_
  rw [yL K j q n]
  have:(lf K j n).p=(K n).p∧(lf K j n).inn=(K n).inn∧(lf K j n).cl=(K n).cl:=by unfold lf;split <;> exact ⟨rfl,rfl,rfl⟩
  rw [this.1,this.2.1,this.2.2]
theorem wv (K:Nat→Pkt) (j:Nat):∀ n,iM (lf K j) n=iM K n
 | 0=>rfl
 | n+1=>by
  show iM (lf K j) n+(if (lf K j n).p=2 then 0 else (lf K j n).cl)=iM K n+_
  rw [wv K j n]
  have:(lf K j n).p=(K n).p∧(lf K j n).cl=(K n).cl:=by unfold lf;split <;> exact ⟨rfl,rfl⟩
  rw [this.1,this.2]
theorem Bh (L:Nat→Lng) (x:Int) (i:Nat):∀ n,i<n→(L i).ua x≤lS L x n
 | n+1,hn=>by
  show _≤lS L x n+Lng.ua (L n) x
  by_cases e:i=n
  ·
   subst e;omega
  have:=Bh L x i n (by omega);omega
theorem nN.rm {l:Lng} (h:nN m K l) (hj:j<m) (hno:l.ua (K j).id=0):nN (m-1) (rmK K j) l:=by
 have key:∀ {z:Nat→Int} {n i:Nat} {prio:Int},(∃ a,a<m∧(K a).id=z i∧(K a).p=prio)→i<n→occ z (K j).id n=0→∃ a,a<m-1∧(rmK K j a).id=z i∧(rmK K j a).p=prio:=by
  rintro z n i prio ⟨a,a1,a2,a3⟩ hi h0
  have hne:a≠j:=fun e=>by
   subst e
   have:=sl.2 ⟨i,hi,a2.symm⟩
   omega
  by_cases c:a<j
  ·
   exact ⟨a,by omega,by rw [pf c];exact ⟨a2,a3⟩⟩
  refine ⟨a-1,by omega,?_⟩
  rw [pQ (by omega),show a-1+1=a by omega]
  exact ⟨a2,a3⟩
 unfold Lng.ua at hno
 have hu:rC l (K j).id l.nU=0+occ (l.uz 0) (K j).id (l.uL 0)+occ (l.uz 1) (K j).id (l.uL 1):=by rw [h.u];rfl
 rw [hu] at hno
 refine ⟨h.r,h.n,h.q0,h.q1,h.u,fun c hc=>⟨fun i hi=>⟨key ((h.z c hc).1 i hi).1 hi ?_,((h.z c hc).1 i hi).2⟩,(h.z c hc).2.1,fun i hi a ha e=>?_⟩,fun i hi=>⟨key (h.t i hi).1 hi (by omega),(h.t i hi).2⟩⟩
 ·
  have:c=0∨c=1:=by omega
  rcases this with rfl | rfl <;> omega
 by_cases c2:a<j
 ·
  rw [pf c2] at e ⊢
  exact (h.z c hc).2.2 i hi a (by omega) e
 rw [pQ (by omega)] at e ⊢
 exact (h.z c hc).2.2 i hi (a+1) (by omega) e
theorem rF.ok {S S':Swg} (h:S.Ok) (hi:i<S.nL) {fs:List Pkt} (hm:rF S S' i fs):S'.Ok:=by
 obtain ⟨l',id,ht,hm⟩:=hm
 have hpos:∀ j,j<S.nK→1≤(S.K j).id:=fun j hj=>(h.k.one j hj).1.1
 obtain ⟨k1,k2⟩:=ht.jQ (h.l i hi) hpos
 have hlane:∀ k,k<S.nL→nN S.nK S.K (if k=i then l' else S.L k):=fun k hk=>by
  split
  ·
   exact k1
  exact h.l k hk
 have hocc:∀ x,x≠0→lS (fun k=>if k=i then l' else S.L k) x S.nL+(if id=x then 1 else 0)=lS S.L x S.nL:=fun x hx=>by
  have:=sn S.L i l' x _ (k2 x hx) S.nL
  rw [if_pos hi] at this
  exact this
 rcases hm with ⟨rfl,rfl,_⟩ | ⟨h0,j,hj,hid,_,⟨hr,rfl⟩ | ⟨hr,rfl⟩⟩
 ·
  refine ⟨yq i h.n,⟨h.nums.now,h.nums.nx,h.nums.dr,h.nums.lst⟩,h.seen,h.k,h.nl,hlane,fun j hj=>?_,h.held⟩
  obtain ⟨r1,r2⟩:=h.refs j hj
  have hp:=hpos j hj
  have:=hocc (S.K j).id (by omega)
  rw [if_neg (by omega)] at this
  exact ⟨r1,by show (S.K j).refs=(lS (fun k=>if k=i then l' else S.L k) (S.K j).id S.nL:Nat);omega⟩
 ·
  refine ⟨yq i h.n,⟨h.nums.now,h.nums.nx,h.nums.dr,h.nums.lst⟩,h.seen,?_,h.nl,fun k hk=>(hlane k hk).dec,fun a ha=>?_,⟨?_,fun q hq=>?_⟩⟩
  ·
   refine ⟨h.k.le,fun a ha=>?_,fun a ha h1=>?_⟩
   ·
    have:=h.k.one a ha
    show (1≤(lf S.K j a).id∧(lf S.K j a).id≤S.nx-1)∧(0≤(lf S.K j a).inn∧(lf S.K j a).inn≤S.C.p-1)∧(lf S.K j a).nR
    by_cases e:a=j
    ·
     have e1:lf S.K j a={ S.K a with refs:=(S.K a).refs-1 }:=by unfold lf;rw [if_pos e]
     rw [e1];exact this
    have e1:lf S.K j a=S.K a:=by unfold lf;rw [if_neg e]
    rw [e1];exact this
   have:=h.k.up a ha h1
   show (lf S.K j (a-1)).id<(lf S.K j a).id
   have e1:∀ b,(lf S.K j b).id=(S.K b).id:=fun b=>by unfold lf;split <;> rfl
   rw [e1,e1]
   exact this
  ·
   show 1≤(lf S.K j a).refs∧(lf S.K j a).refs=(lS (fun k=>if k=i then l' else S.L k) (lf S.K j a).id S.nL:Nat)
   obtain ⟨r1,r2⟩:=h.refs a ha
   have hp:=hpos a ha
   have ho:=hocc (S.K a).id (by omega)
   by_cases e:a=j
   ·
    subst e
    rw [if_pos hid.symm] at ho
    have e1:lf S.K a a={ S.K a with refs:=(S.K a).refs-1 }:=by unfold lf;rw [if_pos rfl]
    rw [e1]
    show 1≤(S.K a).refs-1∧(S.K a).refs-1=(lS (fun k=>if k=i then l' else S.L k) (S.K a).id S.nL:Nat)
    omega
   have hne:=h.k.only hj a ha e
   rw [if_neg (by rw [←hid];exact fun q=>hne q.symm)] at ho
   have e1:lf S.K j a=S.K a:=by unfold lf;rw [if_neg e]
   rw [e1]
   omega
  ·
   show S.N.lo=iM (lf S.K j) S.nK
   rw [wv];exact h.held.1
  show S.N.u q=jI (lf S.K j) q S.nK
  rw [yL];exact h.held.2 q hq
 have hp:=hpos j hj
 have h1:=hocc (S.K j).id (by omega)
 rw [if_pos hid.symm] at h1
 have r0:=(h.refs j hj).2
 have hz:lS (fun k=>if k=i then l' else S.L k) (S.K j).id S.nL=0:=by omega
 have hrel:=h.rel hj
 have hcn:Cnt.Ok S.C (lq (nC S.C S.N i) (S.K j).inn (S.K j).p (-(S.K j).cl)):=by
  have hc:=hrel.2
  unfold lq at hc ⊢
  split
  ·
   rename_i e;rw [if_pos e] at hc;exact ⟨hc.c,hc.nU,hc.nP,hc.lo,hc.u⟩
  rename_i e;rw [if_neg e] at hc;exact ⟨hc.c,hc.nU,hc.nP,hc.lo,hc.u⟩
 refine ⟨hcn,⟨h.nums.now,h.nums.nx,h.nums.dr,h.nums.lst⟩,h.seen,h.k.rm hj,h.nl,fun k hk=>(hlane k hk).rm hj ?_,fun a ha=>?_,?_⟩
 ·
  have:=Bh (fun k=>if k=i then l' else S.L k) (S.K j).id k S.nL hk
  omega
 ·
  show 1≤(rmK S.K j a).refs∧(rmK S.K j a).refs=(lS (fun k=>if k=i then l' else S.L k) (rmK S.K j a).id S.nL:Nat)
  have key:∀ b,b<S.nK→b≠j→1≤(S.K b).refs∧(S.K b).refs=(lS (fun k=>if k=i then l' else S.L k) (S.K b).id S.nL:Nat):=fun b hb e=>by
   obtain ⟨r1,r2⟩:=h.refs b hb
   have hp:=hpos b hb
   have ho:=hocc (S.K b).id (by omega)
   have hne:=h.k.only hj b hb e
   rw [if_neg (by rw [←hid];exact fun q=>hne q.symm)] at ho
   omega
  have ha':a<S.nK-1:=ha
  by_cases c:a<j
  ·
   rw [pf c];exact key a (by omega) (by omega)
  rw [pQ (by omega)];exact key (a+1) (by omega) (by omega)
 have hs:=uF (K:=S.K) (S.nK-1) j (by omega)
 rw [show S.nK-1+1=S.nK by omega] at hs
 have hh:=h.held
 have hu:=fun q=>xO (K:=S.K) (q:=q) (S.nK-1) j (by omega)
 rw [show S.nK-1+1=S.nK by omega] at hu
 by_cases e:(S.K j).p=2
 ·
  obtain ⟨p,ep⟩:∃ p:Nat,(S.K j).inn=(p:Int):=⟨(S.K j).inn.toNat,by have:=(h.k.one j hj).2.1.1;omega⟩
  rw [if_pos e] at hs
  have e3:lq (nC S.C S.N i) (S.K j).inn (S.K j).p (-(S.K j).cl)=(nC S.C S.N i).qt p (-(S.K j).cl):=by rw [ep,e,mx]
  refine ⟨?_,fun q hq=>?_⟩
  ·
   show (lq (nC S.C S.N i) (S.K j).inn (S.K j).p (-(S.K j).cl)).lo=iM (rmK S.K j) (S.nK-1)
   rw [e3]
   show S.N.lo=_
   rw [hh.1];omega
  have hq':q<(lq (nC S.C S.N i) (S.K j).inn (S.K j).p (-(S.K j).cl)).nU:=hq
  rw [e3] at hq'
  have hq2:q<S.N.nU:=hq'
  show (lq (nC S.C S.N i) (S.K j).inn (S.K j).p (-(S.K j).cl)).u q=jI (rmK S.K j) q (S.nK-1)
  rw [e3]
  have h2:=hu (q:Int)
  have h3:=hh.2 q hq2
  show (if q=p then S.N.u q+-(S.K j).cl else S.N.u q)=_
  by_cases c:q=p
  ·
   subst c
   rw [if_pos ⟨e,ep⟩] at h2
   rw [if_pos rfl];omega
  rw [if_neg (fun k=>c (by have:=k.2;omega))] at h2
  rw [if_neg c];omega
 rw [if_neg e] at hs
 have e3:lq (nC S.C S.N i) (S.K j).inn (S.K j).p (-(S.K j).cl)=(nC S.C S.N i).DT (-(S.K j).cl):=lC e
 refine ⟨?_,fun q hq=>?_⟩
 ·
  show (lq (nC S.C S.N i) (S.K j).inn (S.K j).p (-(S.K j).cl)).lo=iM (rmK S.K j) (S.nK-1)
  rw [e3]
  show S.N.lo+-(S.K j).cl=_
  rw [hh.1];omega
 have hq':q<(lq (nC S.C S.N i) (S.K j).inn (S.K j).p (-(S.K j).cl)).nU:=hq
 rw [e3] at hq'
 have hq2:q<S.N.nU:=hq'
 show (lq (nC S.C S.N i) (S.K j).inn (S.K j).p (-(S.K j).cl)).u q=jI (rmK S.K j) q (S.nK-1)
 rw [e3]
 have h2:=hu (q:Int)
 have h3:=hh.2 q hq2
 show S.N.u q=_
 rw [if_neg (fun k=>e k.1)] at h2
 omega
section
variable {P : Program} {ops : Array Oper} {Q : Exit → Act → World → Prop} {md : Region.Mode} {T : World → Prop} {d : Nat}
def lX (P:Program) (md:Region.Mode) (ops:Array Oper) (Q:Exit→Act→World→Prop) (T:World→Prop) (d:Nat):Nat→Array Bool→Act→World→Prop
 | 0,listed,a,w=>Region.ready md ops listed=[]∧Q .normal a w
 | fuel+1,listed,a,w =>
  (Region.ready md ops listed=[]→Q .normal a w) ∧
  ∀ i∈Region.ready md ops listed,wpOp P ops Q i (fun a' w'=>(i=d∨T w')∧lX P md ops Q T d fuel (listed.setIfInBounds i true) a' w') a w
theorem tI:∀ (fuel:Nat) (listed:Array Bool) (a:Act) (w:World),lX P md ops Q T d fuel listed a w→wpAny P md ops Q fuel listed a w
 | 0,_,_,_,h=>h
 | fuel+1,_,_,_,h=>⟨h.1,fun i hi=>wpOp_mono (fun a' w' h'=>tI fuel _ a' w' h'.2) (h.2 i hi)⟩
def lg (md:Region.Mode) (ops:Array Oper) (d i:Nat):Bool:=match ops[d]? with
 | some o=>o.after.any fun e=>Region.binds md e && e.on == i
 | none=>false
theorem uw (h:lg md ops d i=true):∃ o,ops[d]?=some o∧∃ e∈o.after,Region.binds md e=true∧e.on=i:=by
 unfold lg at h
 cases ho:ops[d]? with
 | none=>rw [ho] at h;cases h
 | some o =>
  rw [ho] at h
  obtain ⟨e,he,h2⟩:=Array.any_eq_true'.1 h
  simp only [Bool.and_eq_true,beq_iff_eq] at h2
  exact ⟨o,rfl,e,he,h2.1,h2.2⟩
theorem so (h:lg md ops d i=true) (hr:i∈Region.ready md ops listed):d∉Region.ready md ops listed:=by
 intro hd
 obtain ⟨o,ho,e,he,hb,hon⟩:=uw h
 obtain ⟨hjun,oj,hoj,hall⟩:=mem_ready.1 hd
 rw [ho] at hoj
 cases hoj
 have h1:=hall e he hb
 have h0:=(mem_ready.1 hr).1
 rw [hon] at h1
 rcases Nat.lt_or_ge i listed.size with h' | h'
 ·
  simp [h'] at h0 h1;rw [h0] at h1;cases h1
 simp [Array.getElem?_eq_none h'] at h1
theorem vT (hi:ops[i]?=some oi) (hsel:∀ (j:Nat) (o:Oper) cs b,ops[j]?=some o→o.op≠.select cs b)
  (hQ:∀ c a w,Q (.panic c) (a.put oi.dst v) w→Q (.panic c) a w) (hd:lg md ops d i=true) :
  ∀ (fuel:Nat) (listed:Array Bool) (a:Act) (w:World),
   (∀ j oj,ops[j]?=some oj→j≠i→listed.getD j true=false→(∀ e∈oj.after,Region.binds md e=true→e.on≠i)→oi.apart ops oj=true) →
   i∈Region.ready md ops listed→YieldsIf P ops T oi v a→T w →
   lX P md ops Q T d fuel (listed.setIfInBounds i true) (a.put oi.dst v) w→lX P md ops Q T d (fuel+1) listed a w:=by
 intro fuel
 induction fuel with
 | zero =>
  intro listed a w _ hr hy hS H
  refine ⟨fun h=>(by rw [h] at hr;cases hr),fun j hj=>?_⟩
  by_cases hji:j=i
  ·
   subst hji;exact hy.wpOp hi hS ⟨.inr hS,H⟩
  have:=ready_mono hj hji
  rw [H.1] at this
  cases this
 | succ fuel ih =>
  intro listed a w hfree hr hy hS H
  refine ⟨fun h=>(by rw [h] at hr;cases hr),fun j hj=>?_⟩
  by_cases hji:j=i
  ·
   subst hji;exact hy.wpOp hi hS ⟨.inr hS,H⟩
  have h1:=H.2 j (ready_mono hj hji)
  have hjd:j≠d:=fun e=>so hd hr (e▸hj)
  obtain ⟨hjun,oj,hoj,hall⟩:=mem_ready.1 hj
  have hnot:∀ e∈oj.after,Region.binds md e=true→e.on≠i:=fun e he hb heq=>by
   have h1:=hall e he hb
   have h0:=(mem_ready.1 hr).1
   rw [heq] at h1
   rcases Nat.lt_or_ge i listed.size with h' | h'
   ·
    simp [h'] at h0 h1;rw [h0] at h1;cases h1
   simp [Array.getElem?_eq_none h'] at h1
  have h2:=wpOp_putIf hoj (hfree j oj hoj hji hjun hnot) (fun cs b=>hsel i oi cs b hi) (fun cs b=>hsel j oj cs b hoj) hQ hy h1
  have hfree':∀ k ok,ops[k]?=some ok→k≠i→(listed.setIfInBounds j true).getD k true=false →
    (∀ e∈ok.after,Region.binds md e=true→e.on≠i)→oi.apart ops ok=true:=fun k ok hk hki hun hno=>by
   refine hfree k ok hk hki ?_ hno
   by_cases hjk:j=k
   ·
    subst hjk;exact hjun
   rw [getD_set_ne true hjk] at hun;exact hun
  refine wpOp_mono (fun a' w' h3=>?_) h2
  have hT:T w':=h3.2.1.resolve_left hjd
  refine ⟨.inr hT,ih (listed.setIfInBounds j true) a' w' hfree' (ready_mono hr (Ne.symm hji)) h3.1 hT ?_⟩
  rw [Array.setIfInBounds_comm _ _ hji]
  exact h3.2.2
theorem kE (dd:Option Tmp) (hy:∀ w,T w→(execOp a.eval oi).run P w=.ok (.value v) w) (hS:T w)
  (h:lX P md ops Q T d fuel (listed.setIfInBounds i true) (a.put dd v) w) (hi:ops[i]?=some oi:=by rfl) (hd:oi.dst=dd:=by rfl) (hwt:lg md ops d i=true:=by kernel_rfl)
  (hs:Region.noSelect ops=true:=by kernel_rfl) (hf:Region.free md ops listed i=true:=by kernel_rfl) (hr:(Region.ready md ops listed).contains i=true:=by kernel_rfl)
  (hQ:∀ c a w,Q (.panic c) (a.put dd v) w→Q (.panic c) a w:=by exact fun _ _ _ h=>h) (hw:Region.wanted oi (yielded ops a.tmps)=true:=by kernel_rfl):lX P md ops Q T d (fuel+1) listed a w:=by
 subst hd
 exact vT hi (Region.noSelect_spec hs) hQ hwt fuel listed a w (Region.free_spec hi hf) (by simpa using hr) (Or.inl ⟨hw,hy⟩) hS h
theorem tE (i k:Nat) {a':Act} (hS:T w)
  (h:lX P md ops Q T d fuel (listed.setIfInBounds i true) a' w) (hi:ops[i]?=some oi:=by rfl) (hd:oi.dst=some k:=by rfl)
  (hy:∀ w,T w→(execOp a.eval oi).run P w=.ok (.value v) w:=by intro wx hSw;go_simp;try with_reducible rfl)
  (ha:a.put (some k) v=a':=by (try simp only [Act.put,PZ]);try exact rfl) (hwt:lg md ops d i=true:=by kernel_rfl)
  (hs:Region.noSelect ops=true:=by kernel_rfl) (hf:Region.free md ops listed i=true:=by kernel_rfl) (hr:(Region.ready md ops listed).contains i=true:=by kernel_rfl)
  (hQ:∀ c a w,Q (.panic c) (a.put (some k) v) w→Q (.panic c) a w:=by exact fun _ _ _ h=>h) (hw:Region.wanted oi (yielded ops a.tmps)=true:=by kernel_rfl):lX P md ops Q T d (fuel+1) listed a w :=
 kE (some k) hy hS (by rw [ha];exact h) hi hd hwt hs hf hr hQ hw
def ij (P:Program) (md:Region.Mode) (ops:Array Oper) (Q:Exit→Act→World→Prop) (T:World→Prop) (d fuel:Nat) (listed:Array Bool) (a:Act) (w:World) (rs:List Nat):Prop :=
 ∀ i∈rs,wpOp P ops Q i (fun a' w'=>(i=d∨T w')∧lX P md ops Q T d fuel (listed.setIfInBounds i true) a' w') a w
theorem ij.nil:ij P md ops Q T d fuel listed a w []:=fun _ h=>by cases h
theorem ij.cons (ho:ops[i]?=some o)
  (h:∀ K':Act→World→Prop,Shut (∀ a w,T w→lX P md ops Q T d fuel (listed.setIfInBounds i true) a w→K' a w)→if Region.wanted o (yielded ops a.tmps)=true then Oper.wp P o a w K' Q else K' (a.put o.dst undef) w)
  (hs:ij P md ops Q T d fuel listed a w rs):ij P md ops Q T d fuel listed a w (i :: rs):=fun j hj=>by
 rcases List.mem_cons.1 hj with rfl | hj
 ·
  exact wpOp_step ho (fun K' hK=>h K' (fun a w hS hW=>hK a w ⟨.inr hS,hW⟩))
 exact hs j hj
theorem ij.last (ho:ops[d]?=some o)
  (h:∀ K':Act→World→Prop,Shut (∀ a w,lX P md ops Q T d fuel (listed.setIfInBounds d true) a w→K' a w)→if Region.wanted o (yielded ops a.tmps)=true then Oper.wp P o a w K' Q else K' (a.put o.dst undef) w):ij P md ops Q T d fuel listed a w [d]:=fun j hj=>by
 obtain rfl:=List.mem_singleton.1 hj
 exact wpOp_step ho (fun K' hK=>h K' (fun a w hW=>hK a w ⟨.inl rfl,hW⟩))
theorem il (hr:Region.ready md ops listed=rs) (hne:rs≠[])
  (h:ij P md ops Q T d fuel listed a w rs):lX P md ops Q T d (fuel+1) listed a w :=
 ⟨fun h0=>absurd (hr▸h0) hne,hr▸h⟩
theorem iQ (hr:Region.ready md ops listed=[]) (h:Q .normal a w) :
  ∀ fuel,lX P md ops Q T d fuel listed a w
 | 0=>⟨hr,h⟩
 | _+1=>⟨fun _=>h,by rw [hr];simp⟩
theorem jc {id:Nat} (T:World→Prop) (d:Nat) (hm:P.follows .mixedOrders=true)
  (h:lX P .any ops Q T d ops.size (Array.replicate ops.size false) a w.drew):(Code.region id ops true).wp P Q a w :=
 wp_region_any hm (tI _ _ _ _ h)
end
theorem jn {K:Act→World→Prop} {c:Prop} [Decidable c] (hc:c) (dd:Option Tmp) (hd:o.dst=dd) (ty:TypeId) (x y:Operand) (ho:o.op=.store ty x y) (g off:Nat) (hx:a.eval x=.pointer (some ⟨g,off,none⟩))
  (v:Value) (hy:a.eval y=v) (n:Nat) (hn:v.cells.size=n) (t:TypeId) (cur:Array Value) (hg:w.heap[g]?=some (.cells cur t (0,0))) (hi:(Tryz.prog.info? ty).map (·.size)=some n) (hf:off+n≤cur.size) (h1:v.cells.all (·.oneCell')=true)
  (h:∀ W,Put w W g (lay cur off v.cells) t→K (a.put dd undef) W):if c then o.wp Tryz.prog a w K Q else E:=by
 subst hd
 subst hn
 rw [if_pos hc]
 unfold Oper.wp execOp
 simp only [ho,hx,hy,Instr.storeAt,Instr.sureAddr,Sem.run_bind,Sem.run_pure,Result.andThen_ok,nZ w g off t ty cur v hg hi hf h1]
 exact h _ (tW hg _)
theorem kg {K:Act→World→Prop} {c:Prop} [Decidable c] (hc:c) (dd:Option Tmp) (hd:o.dst=dd) (s x:Operand) (t:TypeId) (vs vx v:Value)
  (ho:o.op=.call { callee:=.builtin .append,args:=#[s,x],argTypes:=#[t,t] }) (hty:o.type=t) (hs:a.eval s=vs) (hx:a.eval x=vx)
  (hr:(Builtin.append_ #[t,t] t #[vs,vx]).run Tryz.prog W=.ok v W') (h:K (a.put dd v) W'):if c then o.wp Tryz.prog a W K Q else E:=by
 subst hd
 exact uv hc s x t vs vx v ho hty hs hx hr h
theorem ll {fn:Func} {i:Tmp} {ty:TypeId} (h:fn.results=#[.cell i ty]) (n:Nat) (d:TypeDesc) (hu:Tryz.prog.underlying ty=some d) (hd:d.isRow=true) (hn:(Tryz.prog.info? ty).map (·.size)=some n) (tmps:Array Value) (w:World) (g:Nat) (cs:Array Value) (hi:tmps[i]?.getD undef=.pointer (some ⟨g,0,none⟩)) (t:TypeId) (hk:w.heap[g]?=some (.cells cs t (0,0))) (hs:cs.size=n) :
  (results fn tmps).run Tryz.prog w=.ok (.agg cs) w:=by
 have:=run_loadVar_mid (P:=Tryz.prog) w g 0 ty cs.toList d (fun j v hv=>by
  rw [Nat.zero_add,ie hk,←Array.getElem?_toList];exact hv) hu hd (by rw [hn,Array.length_toList,hs])
 rw [Array.toArray_toList] at this
 simp [results,h,hi,asAddr,this]
structure nJ (w:World) (A B C:Array Value) (tA tB:TypeId) (W:World):Prop where
 a:W.heap[w.heap.size]?=some (.cells A tA (0,0))
 b:W.heap[w.heap.size+1]?=some (.cells B tB (0,0))
 c:W.heap[w.heap.size+1+1]?=some (.cells C tB (0,0))
 bel:Below w.heap.size w W
 sz:w.heap.size+1+1+1≤W.heap.size
theorem nJ.start (w:World) (A B C:Array Value) (tA tB:TypeId):nJ w A B C tA tB (((w.alloc (.cells A tA)).alloc (.cells B tB)).alloc (.cells C tB)):=by
 obtain ⟨h1,h2,h3,h4,h5⟩:=sa (w:=w) (A:=.cells A tA) (B:=.cells B tB) (C:=.cells C tB) (Below.refl _ _)
 exact ⟨h1,h2,h3,h4,h5⟩
theorem nJ.up (h:nJ w A B C tA tB W) (hb:Below W.heap.size W W'):nJ w A B C tA tB W' :=
 ⟨(hb.block _ (ig h.a)).trans h.a,(hb.block _ (ig h.b)).trans h.b,(hb.block _ (ig h.c)).trans h.c,h.bel.trans (hb.mono h.bel.size),Nat.le_trans h.sz hb.size⟩
theorem nJ.put {C':Array Value} (h:nJ w A B C tA tB W) (hp:Put W W' (w.heap.size+1+1) C' tB):nJ w A B C' tA tB W' :=
 ⟨(hp.to.block _ (ig h.a) (by simp;omega)).trans h.a,(hp.to.block _ (ig h.b) (by simp)).trans h.b,hp.blk,h.bel.trans (hp.to.below h.bel.size (fun x hx=>by simp at hx;omega)),by rw [hp.size];exact h.sz⟩
theorem nJ.out {B':Array Value} (h:nJ w A B C tA tB W) (hp:Put W W' (w.heap.size+1) B' tB):nJ w A B' C tA tB W' :=
 ⟨(hp.to.block _ (ig h.a) (by simp)).trans h.a,hp.blk,(hp.to.block _ (ig h.c) (by simp)).trans h.c,h.bel.trans (hp.to.below h.bel.size (fun x hx=>by simp at hx;omega)),by rw [hp.size];exact h.sz⟩
theorem sM:(Tryz.prog.info? 51).map (·.size)=some 8:=by kernel_rfl
theorem jT:(Tryz.prog.info? 47).map (·.size)=some 8:=by kernel_rfl
theorem jC:(Tryz.prog.info? 36).map (·.size)=some 5:=by kernel_rfl
theorem po:(Tryz.prog.info? 2).map (·.size)=some 1:=by kernel_rfl
theorem Pkt.lF (x:Pkt):x.cells.all (·.oneCell')=true:=by simp [Pkt.cells,Value.oneCell']
theorem Lng.lF (l:Lng):l.cells.all (·.oneCell')=true:=by simp [Lng.cells,Value.oneCell']
theorem BM:(Tryz.prog.info? 43).map (·.size)=some 1:=by kernel_rfl
def OG (t:TypeId) (sz:Nat) (w:World) (base:Nat) (a:Option Addr) (n c:Nat) (xs:List Value):Prop:=w.ownsRow base t sz (.slice a n c) n xs
section
variable {t : TypeId} {sz : Nat} {w w' : World} {base base' : Nat} {a : Option Addr} {n c : Nat} {xs : List Value} {S : List Nat}
theorem OG.cap (h:OG t sz w base a n c xs):n≤c:=by
 rcases h.2 with ⟨e,h0⟩ | ⟨g,cap,cur,e,_,_,h9,_⟩
 ·
  omega
 cases e
 exact h9
theorem OG.up (h:OG t sz w base a n c xs) (hb:Below w.heap.size w w'):OG t sz w' base a n c xs:=by
 refine ⟨h.1,h.2.imp id ?_⟩
 rintro ⟨g,cap,cur,e,hg,hbk,hr⟩
 exact ⟨g,cap,cur,e,hg,(hb.block g (ig hbk)).trans hbk,hr⟩
theorem OG.mono (h:OG t sz w base a n c xs) (hb:base'≤base):OG t sz w base' a n c xs:=by
 refine ⟨h.1,h.2.imp id ?_⟩
 rintro ⟨g,cap,cur,e,hg,hr⟩
 exact ⟨g,cap,cur,e,by omega,hr⟩
theorem OG.blk (h:OG t sz w base a n c xs):∀ x∈iI a,base≤x∧x<w.heap.size:=by
 intro x hx
 rcases h.2 with ⟨e,_⟩ | ⟨g,cap,cur,e,hg,hbk,_⟩
 ·
  cases e
  simp [iI] at hx
 cases e
 simp [iI] at hx
 subst hx
 exact ⟨hg,ig hbk⟩
theorem OG.type (h:OG t sz w base a n c xs):∀ x∈iI a,∃ cs,w.heap[x]?=some (.cells cs t (0,0)):=by
 intro x hx
 rcases h.2 with ⟨e,_⟩ | ⟨g,cap,cur,e,hg,hbk,_⟩
 ·
  cases e
  simp [iI] at hx
 cases e
 simp [iI] at hx
 subst hx
 exact ⟨cur,hbk⟩
theorem OG.iu (h:OG t sz w base a n c xs) (ht:Touch S w w') (hp:∀ x∈iI a,x∉S):OG t sz w' base a n c xs:=by
 refine ⟨h.1,?_⟩
 rcases h.2 with h2 | ⟨g,cap,cur,e,hg,hbk,hr⟩
 ·
  exact .inl h2
 cases e
 exact .inr ⟨g,c,cur,rfl,hg,(ht.block g (ig hbk) (hp g (by simp [iI]))).trans hbk,hr⟩
theorem OG.low (h:OG t sz w base a n c xs) (ht:Touch S w w') (hS:∀ x∈S,x<base):OG t sz w' base a n c xs :=
 h.iu ht (fun x hx hy=>by have:=(h.blk x hx).1;have:=hS x hy;omega)
theorem OG.lM (h:OG t sz w base a n c xs) {g:Nat} (hne:t≠t') (hg:w.heap[g]?=some (.cells cs t' (0,0))):g∉iI a:=by
 intro hx
 obtain ⟨cs',h1⟩:=h.type g hx
 rw [hg] at h1
 simp at h1
 exact hne h1.2.symm
theorem OG.vg (h:OG t sz w base a n c xs) (hf:∀ i,i<n*sz→xs[i]?=some (f i)):VG t w base a (n*sz) f:=by
 rcases h.2 with ⟨e,h0⟩ | ⟨g,cap,cur,e,hg,hbk,hn,hm,hs,ht⟩
 ·
  exact .inl (by rw [h0];simp)
 cases e
 refine .inr ⟨g,0,rfl,hg,cur,hbk,?_,fun i hi=>?_⟩
 ·
  rw [hs,Nat.zero_add]
  exact Nat.mul_le_mul_right _ hn
 rw [Nat.zero_add,←Array.getElem?_toList,←List.getElem?_take_of_lt hi,ht]
 exact hf i hi
theorem OG.vt (h:OG t sz w base a n c xs) (hf:∀ i,i<n*sz→xs[i]?=some (f i)):VT t w base a (n*sz) f:=by
 rcases h.2 with ⟨e,h0⟩ | ⟨g,cap,cur,e,hg,hbk,hn,hm,hs,ht⟩
 ·
  exact .inl (by rw [h0];simp)
 cases e
 refine .inr ⟨g,rfl,hg,cur,hbk,?_,fun i hi=>?_⟩
 ·
  rw [hs]
  exact Nat.mul_le_mul_right _ hn
 rw [←Array.getElem?_toList,←List.getElem?_take_of_lt hi,ht]
 exact hf i hi
end
theorem OG.apart {sz sz':Nat} {a a':Option Addr} {n' c':Nat} {xs':List Value} (h:OG t sz w base a n c xs) (k:OG t' sz' w base' a' n' c' xs') (hne:t≠t'):∀ x∈iI a,x∉iI a':=by
 intro x hx hy
 obtain ⟨cs,h1⟩:=h.type x hx
 obtain ⟨cs',h2⟩:=k.type x hy
 rw [h1] at h2
 simp at h2
 exact hne h2.2
theorem OG.nil (t:TypeId) (sz:Nat) (w:World) (base:Nat):OG t sz w base none 0 0 []:=World.ownsRow_nil _ _ _ _
theorem yh (n:Nat) (f:Nat→Int) (i:Nat) (h:i<n):(kW n f)[i]?=some (.int .i64 (f i)):=by
 unfold kW
 rw [List.getElem?_map,List.getElem?_range h]
 rfl
theorem OI.vgI {a:Option Addr} {f:Nat→Int} (h:OI w base a n c f):VG 2 w base a n fun i=>.int .i64 (f i):=by
 have h2:OG 2 1 w base a n c (kW n f):=h
 have:=h2.vg (f:=fun i=>.int .i64 (f i)) (fun i hi=>yh n f i (by omega))
 rwa [Nat.mul_one] at this
theorem OI.iu {a:Option Addr} {f:Nat→Int} (h:OI w base a n c f) (ht:Touch S w w') (hp:∀ x∈iI a,x∉S):OI w' base a n c f:=OG.iu (t:=2) (sz:=1) h ht hp
theorem Touch.sj {v:Value} {a:Option Addr} (h:w.grownBy w' (Value.slice a n c).ownBlock):Touch (iI a) w w' :=
 ⟨h.os,h.tape,h.output,h.size,fun k hk hn=>h.block k hk (fun e=>hn (by
  cases a with
  | none=>simp [Value.ownBlock] at e
  | some x=>simp [Value.ownBlock] at e;simp [iI,e]))⟩
theorem lH {a:Option Addr} (t e:TypeId) (z:Value) (sz bytes:Nat) (hinfo:(Tryz.prog.info? e).map (fun i=>(i.zero,i.size,i.bytes))=some (some z,sz,bytes)) (hu:Tryz.prog.underlying t=some (.slice e)) (hz:z.cells.size=sz) (hsz:0<sz) (hby:bytes≤1000)
  (h:OG e sz w base a n c xs) (hl:n≤1048576) (hb:base≤w.heap.size) (cs:Array Value) (hcs:cs.size=sz) (h1:cs.all (·.oneCell')=true) :
  ∃ g c' W,(Builtin.append_ #[t,t] t #[.slice a n c,.slice (some ⟨w.heap.size,0,none⟩) 1 1]).run Tryz.prog (w.alloc (.cells cs e))=.ok (.slice (some ⟨g,0,none⟩) (n+1) c') W∧OG e sz W base (some ⟨g,0,none⟩) (n+1) c' (xs++cs.toList)∧Touch (iI a) w W∧(g∈iI a∨w.heap.size≤g):=by
 obtain ⟨i0,hi,hz0,hz1,hz2⟩:=info_parts hinfo
 have hA:Below w.heap.size w (w.alloc (.cells cs e)):=(Below.refl _ _).alloc (Nat.le_refl _) _
 have hnew:=ie (im w (.cells cs e))
 have hbb:(n+1)*bytes≤140737488355328:=by
  have:=Nat.mul_le_mul (show n+1≤1048577 by omega) hby
  omega
 obtain ⟨v',W,hr,h2,h3,h4,h5⟩:=run_append_own_at (P:=Tryz.prog) (w.alloc (.cells cs e)) base t t e i0 z sz bytes hu hi hz0 hz1 hz2 hz hsz (.slice a n c) n xs (h.up hA) ⟨w.heap.size,0,none⟩ 1 1 cs.toList (by rw [Array.length_toList,hcs,Nat.one_mul]) (fun j u hj=>by
  have e0:(⟨w.heap.size,0,none⟩:Addr).add j=⟨w.heap.size,j,none⟩:=by unfold Addr.add;split <;> simp_all
  rw [e0,hnew j,←Array.getElem?_toList]
  exact hj) (fun u hu=>(Array.all_eq_true_iff_forall_mem.1 h1) u (by simpa using hu)) (by unfold maxLen;omega) hbb (by simp;omega)
 rcases h2.2 with ⟨_,h0⟩ | ⟨g,cap,cur,rfl,_⟩
 ·
  omega
 refine ⟨g,cap,W,hr,h2,Touch.sj (v:=.slice a n c) ((World.grownBy_alloc w _ _).trans h3),?_⟩
 rcases h5 with h5 | h5
 ·
  left
  cases a with
  | none=>simp [Value.ownBlock] at h5
  | some x=>simp [Value.ownBlock] at h5;simp [iI,h5]
 right
 simp only [Value.ownBlock,Option.some.injEq] at h5
 rw [h5];simp
def rB (n:Nat) (A:Nat→Option Addr) (L C:Nat→Nat):List Value:=(List.range n).map fun i=>.slice (A i) (L i) (C i)
theorem A4 (n:Nat) (A:Nat→Option Addr) (L C:Nat→Nat):rB (n+1) A L C=rB n A L C++[.slice (A n) (L n) (C n)]:=by simp [rB,List.range_succ]
theorem CW {A A':Nat→Option Addr} {L L' C C':Nat→Nat} (h:∀ i,i<n→A i=A' i∧L i=L' i∧C i=C' i):rB n A L C=rB n A' L' C':=by
 unfold rB
 refine List.map_congr_left fun i hi=>?_
 obtain ⟨h1,h2,h3⟩:=h i (List.mem_range.1 hi)
 rw [h1,h2,h3]
theorem oL (n:Nat) (A:Nat→Option Addr) (L C:Nat→Nat) (i:Nat) (h:i<n):(rB n A L C)[i]?=some (.slice (A i) (L i) (C i)):=by
 unfold rB
 rw [List.getElem?_map,List.getElem?_range h]
 rfl
theorem lB (a:Option Addr):(iI a).Nodup:=by cases a <;> simp [iI]
theorem qP (a:Option Addr) (n:Nat):(jR a n).Nodup:=by
 unfold jR
 split
 ·
  exact List.nodup_nil
 cases a <;> simp
theorem rS (a:Option Addr) (n:Nat):List.Sublist (ku a n) (iI a):=by
 unfold ku
 split
 ·
  exact List.nil_sublist _
 exact List.Sublist.refl _
theorem mW {f:Nat→List Nat}:∀ n,(∀ i,i<n→(f i).Nodup)→(∀ i j,i<n→j<n→i≠j→∀ x∈f i,x∉f j)→((List.range n).flatMap f).Nodup:=by
 intro n
 induction n with
 | zero=>intro _ _;simp
 | succ n ih =>
  intro h1 h2
  rw [List.range_succ,List.flatMap_append]
  simp only [List.flatMap_cons,List.flatMap_nil,List.append_nil]
  refine List.nodup_append.2 ⟨ih (fun i hi=>h1 i (by omega)) (fun i j hi hj=>h2 i j (by omega) (by omega)),h1 n (by omega),fun x hx y hy e=>?_⟩
  subst e
  simp only [List.mem_flatMap,List.mem_range] at hx
  obtain ⟨i,hi,hx⟩:=hx
  exact h2 i n (by omega) (by omega) (by omega) x hx hy
def flO (n:Nat) (A:Nat→Option Addr):List Nat:=(List.range n).flatMap fun i=>iI (A i)
theorem jF {A:Nat→Option Addr} {x:Nat}:x∈flO n A↔∃ i,i<n∧x∈iI (A i):=by
 unfold flO
 simp
def Rnd.jN (R:Rnd):List Nat:=jR R.aQ R.nQ++(jR R.aD R.nD++flO R.nS R.A)
theorem jD.nd {R:Rnd} (h:jD w base R):R.jN.Nodup:=by
 refine List.nodup_append.2 ⟨qP _ _,List.nodup_append.2 ⟨qP _ _,mW _ (fun i _=>lB _) h.zz,fun x hx y hy e=>?_⟩,fun x hx y hy e=>?_⟩
 ·
  subst e
  obtain ⟨i,hi,hy⟩:=jF.1 hy
  exact h.dz i hi x hx hy
 subst e
 rcases List.mem_append.1 hy with hy | hy
 ·
  exact h.own.qd x hx hy
 obtain ⟨i,hi,hy⟩:=jF.1 hy
 exact h.qz i hi x hx hy
theorem jD.blk {R:Rnd} (h:jD w base R):∀ x∈R.jN,base≤x∧x<w.heap.size:=by
 intro x hx
 rcases List.mem_append.1 hx with hx | hx
 ·
  exact h.own.q.blk x hx
 rcases List.mem_append.1 hx with hx | hx
 ·
  exact h.own.d.blk x hx
 obtain ⟨i,hi,hx⟩:=jF.1 hx
 exact (h.z i hi).blk x hx
def Lng.jN (l:Lng):List Nat:=(iI l.aT++l.R.jN)++flO l.nU l.uA
structure iK (w:World) (base:Nat) (l:Lng):Prop where
 t:OI w base l.aT l.nT l.cT l.t
 u:OG 27 1 w base l.aU l.nU l.cU (rB l.nU l.uA l.uL l.uC)
 z:∀ i,i<l.nU→OI w base (l.uA i) (l.uL i) (l.uC i) (l.uz i)
 r:jD w base l.R
 nd:l.jN.Nodup
 su:∀ x∈jR l.R.aS l.R.nS,x∉iI l.aU
theorem iK.g {l:Lng} (h:iK w base l):AD w base l:=by
 refine ⟨h.t.vgI,?_,fun i hi=>(h.z i hi).vgI,h.r.own.q.g,h.r.own.d.g,h.r.own.s.g,fun i hi=>(h.r.z i hi).vgI,?_⟩
 ·
  have:=h.u.vg (f:=fun i=>.slice (l.uA i) (l.uL i) (l.uC i)) (fun i hi=>oL _ _ _ _ i (by omega))
  rwa [Nat.mul_one] at this
 have hp:l.Fq.Perm ((ku l.aT l.nT++(ku l.R.aQ l.R.nQ++(ku l.R.aD l.R.nD++vP l.R.nS l.R.A l.R.L)))++vP l.nU l.uA l.uL):=by
  unfold Lng.Fq
  rw [List.append_assoc]
  exact List.Perm.append_left _ List.perm_append_comm
 refine hp.nodup_iff.2 (List.Sublist.nodup ?_ h.nd)
 have hs:∀ (n:Nat) (A:Nat→Option Addr) (L:Nat→Nat),List.Sublist (vP n A L) (flO n A):=by
  intro n A L
  unfold vP flO
  induction n with
  | zero=>exact List.Sublist.refl _
  | succ n ih =>
   rw [List.range_succ,List.flatMap_append,List.flatMap_append]
   refine ih.append ?_
   simp only [List.flatMap_cons,List.flatMap_nil,List.append_nil]
   exact rS _ _
 exact ((rS _ _).append ((List.Sublist.refl _).append ((List.Sublist.refl _).append (hs _ _ _)))).append (hs _ _ _)
theorem iK.blk {l:Lng} (h:iK w base l):∀ x∈l.jN,base≤x∧x<w.heap.size:=by
 intro x hx
 unfold Lng.jN at hx
 simp only [List.mem_append] at hx
 rcases hx with (hx | hx) | hx
 ·
  exact h.t.blk x hx
 ·
  exact h.r.blk x hx
 obtain ⟨i,hi,hx⟩:=jF.1 hx
 exact (h.z i hi).blk x hx
theorem jD.upZ {R:Rnd} (h:jD w base R) (hb:Below w.heap.size w w'):jD w' base R :=
 ⟨⟨h.own.q.up hb,h.own.d.up hb,h.own.s.up hb,fun i hi=>(h.own.z i hi).up hb,h.own.qd,h.own.qz,h.own.dz,h.own.zz⟩,fun i hi=>(h.z i hi).up hb,h.qz,h.dz,h.zz⟩
theorem jD.uY {R:Rnd} (h:jD w base R) (hb:base'≤base):jD w base' R :=
 ⟨⟨h.own.q.mono hb,h.own.d.mono hb,h.own.s.mono hb,fun i hi=>(h.own.z i hi).mono hb,h.own.qd,h.own.qz,h.own.dz,h.own.zz⟩,fun i hi=>(h.z i hi).mono hb,h.qz,h.dz,h.zz⟩
theorem VS.iu {a:Option Addr} (h:VS w base a n f) (ht:Touch S w w') (hp:∀ x∈jR a n,x∉S):VS w' base a n f:=by
 rcases h with h | ⟨g,rfl,hg,hr⟩
 ·
  exact .inl h
 by_cases h0:n=0
 ·
  exact .inl h0
 exact .inr ⟨g,rfl,hg,hr.jQ (ht.block g hr.lt (hp g (oO h0)))⟩
theorem VS.vP {a:Option Addr} (h:VS w base a n f):∀ x∈jR a n,(base≤x∧x<w.heap.size)∧∃ cs,w.heap[x]?=some (.cells cs 27 (0,0)):=by
 intro x hx
 unfold jR at hx
 split at hx
 ·
  simp at hx
 rcases h with h | ⟨g,rfl,hg,hr⟩
 ·
  contradiction
 simp at hx
 subst hx
 obtain ⟨cs,hc,_⟩:=hr
 exact ⟨⟨hg,ig hc⟩,cs,hc⟩
theorem jD.vZ {R:Rnd} (h:jD w base R) (ht:Touch S w w') (h1:∀ x∈R.jN,x∉S) (h2:∀ x∈jR R.aS R.nS,x∉S):jD w' base R:=by
 have hq:∀ x∈jR R.aQ R.nQ,x∉S:=fun x hx=>h1 x (List.mem_append_left _ hx)
 have hd:∀ x∈jR R.aD R.nD,x∉S:=fun x hx=>h1 x (List.mem_append_right _ (List.mem_append_left _ hx))
 have hz:∀ i,i<R.nS→∀ x∈iI (R.A i),x∉S:=fun i hi x hx=>h1 x (List.mem_append_right _ (List.mem_append_right _ (jF.2 ⟨i,hi,hx⟩)))
 exact ⟨⟨h.own.q.iu ht hq,h.own.d.iu ht hd,h.own.s.iu ht h2,fun i hi=>(h.own.z i hi).iu ht (fun x hx=>hz i hi x (jX hx)),h.own.qd,h.own.qz,h.own.dz,h.own.zz⟩,fun i hi=>(h.z i hi).iu ht (hz i hi),h.qz,h.dz,h.zz⟩
theorem iK.up {l:Lng} (h:iK w base l) (hb:Below w.heap.size w w'):iK w' base l:=⟨h.t.up hb,h.u.up hb,fun i hi=>(h.z i hi).up hb,h.r.upZ hb,h.nd,h.su⟩
theorem iK.mono {l:Lng} (h:iK w base l) (hb:base'≤base):iK w base' l:=⟨h.t.mono hb,h.u.mono hb,fun i hi=>(h.z i hi).mono hb,h.r.uY hb,h.nd,h.su⟩
theorem iK.kk {l:Lng} (h:iK w base l) (ht:Touch S w w') (h1:∀ x∈l.jN,x∉S) (h2:∀ x∈iI l.aU,x∉S) (h3:∀ x∈jR l.R.aS l.R.nS,x∉S):iK w' base l:=by
 have k1:∀ x∈iI l.aT,x∉S:=fun x hx=>h1 x (List.mem_append_left _ (List.mem_append_left _ hx))
 have k2:∀ x∈l.R.jN,x∉S:=fun x hx=>h1 x (List.mem_append_left _ (List.mem_append_right _ hx))
 have k3:∀ i,i<l.nU→∀ x∈iI (l.uA i),x∉S:=fun i hi x hx=>h1 x (List.mem_append_right _ (jF.2 ⟨i,hi,hx⟩))
 exact ⟨h.t.iu ht k1,h.u.iu ht h2,fun i hi=>(h.z i hi).iu ht (k3 i hi),h.r.vZ ht k2 h3,h.nd,h.su⟩
theorem jD.type2 {R:Rnd} (h:jD w base R):∀ x∈R.jN,∃ cs,w.heap[x]?=some (.cells cs 2 (0,0)):=by
 intro x hx
 rcases List.mem_append.1 hx with hx | hx
 ·
  exact h.own.q.g.type x hx
 rcases List.mem_append.1 hx with hx | hx
 ·
  exact h.own.d.g.type x hx
 exact du
theorem iK.type2 {l:Lng} (h:iK w base l):∀ x∈l.jN,∃ cs,w.heap[x]?=some (.cells cs 2 (0,0)):=by
 intro x hx
 unfold Lng.jN at hx
 simp only [List.mem_append] at hx
 rcases hx with (hx | hx) | hx
 ·
  exact OG.type (t:=2) (sz:=1) h.t x hx
 ·
  exact h.r.type2 x hx
 exact du
theorem iK.box {g:Nat} {l:Lng} (h:iK w base l) (hg:w.heap[g]?=some (.cells cs t (0,0))) (ht2:t≠2) (hts:t≠27) (ht:Touch [g] w w'):iK w' base l:=by
 refine h.kk ht (fun x hx hy=>?_) (fun x hx hy=>?_) (fun x hx hy=>?_)
 ·
  obtain ⟨cs',h1⟩:=h.type2 x hx
  rw [List.mem_singleton.1 hy,hg] at h1
  simp at h1
  exact ht2 h1.2
 ·
  obtain ⟨cs',h1⟩:=h.u.type x hx
  rw [List.mem_singleton.1 hy,hg] at h1
  simp at h1
  exact hts h1.2
 obtain ⟨_,cs',h1⟩:=h.r.own.s.vP x hx
 rw [List.mem_singleton.1 hy,hg] at h1
 simp at h1
 exact hts h1.2
theorem js {f g:Nat→List Nat}:∀ {k:Nat},(∀ i,i<k→f i=g i)→(List.range k).flatMap f=(List.range k).flatMap g:=by
 intro k h
 induction k with
 | zero=>rfl
 | succ k ih =>
  rw [List.range_succ,List.flatMap_append,List.flatMap_append,ih (fun i hi=>h i (by omega))]
  simp only [List.flatMap_cons,List.flatMap_nil,List.append_nil]
  rw [h k (by omega)]
def Lng.more (l:Lng) (k:Nat) (aU:Option Addr) (cU:Nat) (a:Option Addr) (c:Nat):Lng:={ l with aU:=aU,nU:=k+1,cU:=cU,uA:=fun i=>if i=k then a else l.uA i,uC:=fun i=>if i=k then c else l.uC i }
theorem iK.more {V V1:World} {k g c2:Nat} {l:Lng} {a:Option Addr} (h:iK V base l) (hk:l.nU=k) (hb:Below V.heap.size V V1) (hbase:base≤V.heap.size) (ho:OI V1 V.heap.size a (l.uL k) c (l.uz k))
  (hu:OG 27 1 W base (some ⟨g,0,none⟩) (k+1) c2 (rB k l.uA l.uL l.uC++[.slice a (l.uL k) c])) (ht:Touch (iI l.aU) V1 W) (hg:g∈iI l.aU∨V1.heap.size≤g):iK W base (l.more k (some ⟨g,0,none⟩) c2 a c):=by
 subst hk
 have h1:=h.up hb
 have q1:∀ x∈l.jN,x∉iI l.aU:=fun x hx hy=>by
  obtain ⟨cs,e1⟩:=h.type2 x hx
  obtain ⟨cs',e2⟩:=h.u.type x hy
  rw [e1] at e2
  simp at e2
 have k1:∀ x∈iI l.aT,x∉iI l.aU:=fun x hx=>q1 x (List.mem_append_left _ (List.mem_append_left _ hx))
 have k2:∀ x∈l.R.jN,x∉iI l.aU:=fun x hx=>q1 x (List.mem_append_left _ (List.mem_append_right _ hx))
 have k3:∀ i,i<l.nU→∀ x∈iI (l.uA i),x∉iI l.aU:=fun i hi x hx=>q1 x (List.mem_append_right _ (jF.2 ⟨i,hi,hx⟩))
 refine ⟨h1.t.iu ht k1,?_,fun i hi=>?_,h1.r.vZ ht k2 h.su,?_,fun x hx hy=>?_⟩
 ·
  have e:rB (l.nU+1) (fun i=>if i=l.nU then a else l.uA i) l.uL (fun i=>if i=l.nU then c else l.uC i)=rB l.nU l.uA l.uL l.uC++[.slice a (l.uL l.nU) c]:=by
   rw [A4,CW (n:=l.nU) (A:=fun i=>if i=l.nU then a else l.uA i) (L:=l.uL) (C:=fun i=>if i=l.nU then c else l.uC i) (A':=l.uA) (L':=l.uL) (C':=l.uC) (fun i hi=>⟨if_neg (by omega),rfl,if_neg (by omega)⟩),if_pos rfl,if_pos rfl]
  rw [←e] at hu
  exact hu
 ·
  show OI W base (if i=l.nU then a else l.uA i) (l.uL i) (if i=l.nU then c else l.uC i) (l.uz i)
  by_cases e:i=l.nU
  ·
   rw [if_pos e,if_pos e,e]
   refine OI.mono (ho.iu ht (fun x hx hy=>?_)) hbase
   have:=(ho.blk x hx).1
   have:=(h.u.blk x hy).2
   omega
  rw [if_neg e,if_neg e]
  have hi':i<l.nU:=by have:i<l.nU+1:=hi;omega
  exact (h1.z i hi').iu ht (k3 i hi')
 ·
  show ((iI l.aT++l.R.jN)++(List.range (l.nU+1)).flatMap fun i=>iI (if i=l.nU then a else l.uA i)).Nodup
  rw [List.range_succ,List.flatMap_append]
  simp only [List.flatMap_cons,List.flatMap_nil,List.append_nil,if_true]
  rw [js (f:=fun i=>iI (if i=l.nU then a else l.uA i)) (g:=fun i=>iI (l.uA i)) (fun i hi=>by rw [if_neg (by omega)]),←List.append_assoc]
  refine sr h.nd (lB _) V.heap.size (fun x hx=>(h.blk x hx).2) (fun x hx=>(ho.blk x hx).1)
 have hx1:=(h.r.own.s.vP x hx).1.2
 have hy':x=g:=by simpa [Lng.more,iI] using hy
 rcases hg with hg | hg
 ·
  exact h.su x hx (hy'▸hg)
 have:=hb.size
 omega
open Go.Shelf
def wP:Go.Shelf.Ren:=⟨fun | 316=>114 | n=>n,fun | 9=>9 | 3=>3 | 4=>4 | 37=>22 | 0=>0 | 127=>200 | 5=>5 | n=>n,fun | n=>n⟩
theorem Dq:Go.Proofs.LaysM.n316 Tryz.prog wP:={
 mixed:=by kernel_rfl
 f316:=Tryz.func114.trans (congrArg some (by kernel_rfl))
 t0:=Tryz.underlying0
 a0:=Tryz.isAgg0
 z0:=Tryz.sizeOf0
 v0:=Tryz.zeroValue0
 t3:=Tryz.underlying3
 a3:=Tryz.isAgg3
 z3:=Tryz.sizeOf3
 v3:=Tryz.zeroValue3
 t4:=Tryz.underlying4
 a4:=Tryz.isAgg4
 z4:=Tryz.sizeOf4
 v4:=Tryz.zeroValue4
 t9:=Tryz.underlying9
 a9:=Tryz.isAgg9
 z9:=Tryz.sizeOf9
 v9:=Tryz.zeroValue9
 t37:=Tryz.underlying22
 a37:=Tryz.isAgg22
 z37:=Tryz.sizeOf22
 v37:=Tryz.zeroValue22
 t127:=Tryz.underlying200
 a127:=Tryz.isAgg200
 z127:=Tryz.sizeOf200
 v127:=Tryz.zeroValue200
 t5:=Tryz.underlying5
 a5:=Tryz.isAgg5
 z5:=Tryz.sizeOf5
 v5:=Tryz.zeroValue5
 i0:=by kernel_rfl
 i3:=by kernel_rfl
 i4:=by kernel_rfl
 i5:=by kernel_rfl
 i9:=by kernel_rfl
 i37:=by kernel_rfl
 i127:=by kernel_rfl }
open Go.RowKit in
theorem Fb (s:ByteArray) (w:World) (hlim:s.size≤281474976710656) :
  Calls Tryz.prog 114 #[.string s] w fun e w'=>e=.returned (.string s)∧Below w.heap.size w w':=Go.Proofs.Any.stringslite_Clone Dq s w hlim
theorem Au (s:ByteArray) (w:World) (hlim:s.size≤1048576) :
  Calls Tryz.prog 83 #[.string s] w fun e w'=>e=.returned (.string s)∧Below w.heap.size w w':=by
 go_enter Tryz.func83,Tryz.ntmps83
 go_wp2_with fail
 refine (Fb s _ (by omega)).mono ?_
 rintro e w1 ⟨rfl,hb⟩
 go_wp2_with fail
 go_ret
 exact ⟨rfl,hb⟩
theorem qn (k d s p:Int) (b:ByteArray) (w:World) (hlim:b.size≤1048576) :
  Calls Tryz.prog 48 #[.agg #[.int .i64 k,.int .i64 d,.int .i64 s,.int .i64 p,.string b]] w fun e w'=>e=.returned (.agg #[.int .i64 k,.int .i64 d,.int .i64 s,.int .i64 p,.string b])∧Below w.heap.size w w':=by
 go_enter Tryz.func48,Tryz.ntmps48
 go_wp2_with fail
 refine (Au b _ hlim).mono ?_
 rintro e w1 ⟨rfl,hb⟩
 have HX:Hid (nJ w #[.int .i64 k,.int .i64 d,.int .i64 s,.int .i64 p,.string b] #[.int .i64 0,.int .i64 0,.int .i64 0,.int .i64 0,.string ⟨#[]⟩] #[.int .i64 k,.int .i64 d,.int .i64 s,.int .i64 p,.string b] 36 36 w1):=(nJ.start w #[.int .i64 k,.int .i64 d,.int .i64 s,.int .i64 p,.string b] #[.int .i64 0,.int .i64 0,.int .i64 0,.int .i64 0,.string ⟨#[]⟩] #[.int .i64 k,.int .i64 d,.int .i64 s,.int .i64 p,.string b] 36 36).up hb
 clear hb
 have HC:=aa HX.c
 go_wp2_with (refine iq rfl 9 (.tmp 8) (.tmp 7) rfl (w.heap.size+1+1) 4 rfl (.string b) rfl 1 rfl 36 _ HC (by kernel_rfl) (Nat.le_of_ble_eq_true rfl) (by simp [Value.cells,Value.oneCell']) ?_)
 intro w2 hP
 replace hP:Put w1 w2 (w.heap.size+1+1) #[.int .i64 k,.int .i64 d,.int .i64 s,.int .i64 p,.string b] 36:=hP.cast rfl
 replace HX:=aa (HX.put hP)
 clear hP HC
 have HL:Hid (∀ j,j<5→w2.cell? ⟨w.heap.size+1+1,0+j,none⟩=(#[.int .i64 k,.int .i64 d,.int .i64 s,.int .i64 p,.string b]:Array Value)[j]?):=fun j _=>by rw [Nat.zero_add];exact ie HX.c j
 have HD:=aa HX.b
 go_wp2_with (first | refine ir rfl 36 5 _ Tryz.underlying36 rfl jC (.tmp 3) rfl (w.heap.size+1+1) 0 rfl #[.int .i64 k,.int .i64 d,.int .i64 s,.int .i64 p,.string b] rfl HL.out ?_ | refine iq rfl 36 (.tmp 2) (.tmp 9) rfl (w.heap.size+1) 0 rfl (.agg #[.int .i64 k,.int .i64 d,.int .i64 s,.int .i64 p,.string b]) rfl 5 rfl 36 _ HD jC (Nat.le_of_ble_eq_true rfl) (by simp [Value.cells,Value.oneCell']) ?_)
 intro w3 hP
 replace hP:Put w2 w3 (w.heap.size+1) #[.int .i64 k,.int .i64 d,.int .i64 s,.int .i64 p,.string b] 36:=hP.cast rfl
 have HK:=aa hP.blk
 have HB:=aa ((HX.out.out hP).bel)
 clear hP HL HD
 go_wp2_with fail
 exact bodyPost_ret (ll Tryz.results48 5 _ Tryz.underlying36 rfl jC _ _ (w.heap.size+1) #[.int .i64 k,.int .i64 d,.int .i64 s,.int .i64 p,.string b] rfl 36 HK.out rfl) rfl ⟨rfl,HB⟩
theorem vp:(Tryz.prog.info? 51).map (fun i=>(i.zero,i.size,i.bytes))=some (some (.agg #[.int .i64 0,.int .i64 0,.int .i64 0,.int .i64 0,.int .i64 0,.int .i64 0,.int .i64 0,.string ⟨#[]⟩]),8,72):=by kernel_rfl
theorem BK:(Tryz.prog.info? 47).map (fun i=>(i.zero,i.size,i.bytes))=some (some (.agg af),8,144):=by kernel_rfl
theorem iA:(Tryz.prog.info? 34).map (·.size)=some 17:=by kernel_rfl
theorem Eh:(Tryz.prog.info? 30).map (·.size)=some 3:=by kernel_rfl
theorem uh:(Tryz.prog.info? 26).map (·.size)=some 1:=by kernel_rfl
theorem Eg:(Tryz.prog.info? 31).map (·.size)=some 1:=by kernel_rfl
theorem yX:(Tryz.prog.info? 32).map (·.size)=some 1:=by kernel_rfl
theorem Swg.lF (S:Swg):S.cells.all (·.oneCell')=true:=by simp [Swg.cells,Value.oneCell']
