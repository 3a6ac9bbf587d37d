import Derived.Test.YtjippgbmmlcgoaaGreatDoorB15
namespace Go.Proofs.YtjippgbmmlcgoaaGreatDoor
open Go.RowKit
set_option linter.unusedVariables false
set_option linter.unusedSimpArgs false
variable {x:Int} {gC gU k n:Nat} {z:Nat→Int} {L:Nat→Lng} {S:Swg} {w wr:World}
def za (z:Nat→Int) (x:Int) (n:Nat):Nat:=if 0<occ z x n then 1 else 0
def Cc (l:Lng) (x:Int):Nat→Nat
 | 0=>0
 | c+1=>Cc l x c+za (l.uz c) x (l.uL c)
def AL (L:Nat→Lng) (x:Int):Nat→Nat
 | 0=>0
 | i+1=>AL L x i+(za (L i).t x (L i).nT+Cc (L i) x (L i).nU)
theorem yk (z:Nat→Int) (x:Int) (n:Nat):za z x n≤1:=by unfold za;split <;> omega
theorem yZ (h:∀ i,i<n→0<i→z (i-1)<z i):za z x n=occ z x n:=by
 have:=Dh (x:=x) h n (Nat.le_refl _)
 unfold za
 split <;> omega
theorem Cb (l:Lng) (x:Int):∀ c,Cc l x c≤c:=by
 intro c
 induction c with
 | zero=>exact Nat.le_refl _
 | succ c ih=>have:=yk (l.uz c) x (l.uL c);show Cc l x c+_≤_;omega
theorem zb {m:Nat} {K:Nat→Pkt} (h:∀ i,i<n→nN m K (L i)) (x:Int):∀ i,i≤n→AL L x i=lS L x i:=by
 intro i
 induction i with
 | zero=>intro _;rfl
 | succ i ih =>
  intro hi
  have hl:=h i (by omega)
  have hu:∀ c,c≤2→Cc (L i) x c=rC (L i) x c:=by
   intro c
   induction c with
   | zero=>intro _;rfl
   | succ c ihc =>
    intro hc
    show Cc (L i) x c+za _ _ _=rC (L i) x c+occ _ _ _
    rw [ihc (by omega),yZ (fun j hj h0=>((hl.z c (by omega)).1 j hj).2 h0)]
  show AL L x i+(za _ _ _+Cc _ _ _)=lS L x i+(occ _ _ _+rC _ _ _)
  rw [ih (by omega),yZ (fun j hj h0=>(hl.t j hj).2 h0),hl.u,hu 2 (Nat.le_refl _)]
theorem E4 (h:∀ i,i<n→(L i).nU≤1048576) (x:Int):∀ i,i≤n→AL L x i≤1048577*i:=by
 intro i
 induction i with
 | zero=>intro _;exact Nat.le_refl _
 | succ i ih =>
  intro hi
  have h1:=ih (by omega)
  have h2:=yk (L i).t x (L i).nT
  have h3:=Cb (L i) x (L i).nU
  have h4:=h i (by omega)
  show AL L x i+(za _ _ _+Cc _ _ _)≤_
  omega
theorem Ei {hb:Bool} (h:hb=true↔0<occ z x n):za z x n=if hb=true then 1 else 0:=by
 unfold za
 cases hb
 ·
  rw [if_neg (fun e=>by have:=h.2 e;simp at this),if_neg (by simp)]
 rw [if_pos (h.1 rfl),if_pos rfl]
def pkP (S:Swg) (k:Nat):Prop:=(S.K k).ok S.nx S.C.p∧(0<k→(S.K (k-1)).id<(S.K k).id)
def rfP (S:Swg) (k:Nat):Prop:=(S.K k).refs=(AL S.L (S.K k).id S.nL:Int)∧AL S.L (S.K k).id S.nL≠0
theorem Gi (h0:Cnt.Ok S.C S.N) (h1:S.Fl) (h2:S.seen) (h3:S.nK≤1000) (h4:(S.nL:Int)=S.C.p) :
  S.Ok↔(∀ k,k<S.nK→pkP S k∧rfP S k)∧(∀ i,i<S.nL→jI S.K i S.nK=S.N.u i∧nN S.nK S.K (S.L i))∧iM S.K S.nK=S.N.lo:=by
 have hn:S.N.nU=S.nL:=by have:=h0.nU;omega
 constructor
 ·
  intro h
  refine ⟨fun k hk=>⟨⟨h.k.one k hk,h.k.up k hk⟩,?_⟩,fun i hi=>⟨(h.held.2 i (by omega)).symm,h.l i hi⟩,h.held.1.symm⟩
  obtain ⟨a,b⟩:=h.refs k hk
  unfold rfP
  rw [zb h.l _ _ (Nat.le_refl _)]
  exact ⟨b,by omega⟩
 rintro ⟨hp,hl,hlo⟩
 refine ⟨h0,h1,h2,⟨h3,fun i hi=>(hp i hi).1.1,fun i hi=>(hp i hi).1.2⟩,h4,fun i hi=>(hl i hi).2,fun j hj=>?_,hlo.symm,fun i hi=>((hl i (by omega)).1).symm⟩
 obtain ⟨a,b⟩:=(hp j hj).2
 rw [zb (fun i hi=>(hl i hi).2) _ _ (Nat.le_refl _)] at a b
 exact ⟨by omega,a⟩
structure nO (S:Swg) (w:World) (gU gC k:Nat) (wr:World):Prop where
 c:wr.heap[gC]?=some (.cells #[.slice (some ⟨gU,0,none⟩) S.N.nU S.N.nU,.int .i64 (iM S.K k),.slice none 0 0] 30 (0,0))
 r:ja gU 2 S.N.nU (fun i=>.int .i64 (jI S.K i k)) S.N.nU wr
 b:Below (w.heap.size+1) (w.alloc (.cells S.cells 34)) wr
 u:w.heap.size<gU
 n:gU<gC
theorem nO.up {W:World} (h:nO S w gU gC k wr) (hb:Below wr.heap.size wr W):nO S w gU gC k W :=
 ⟨(hb.block _ (ig h.c)).trans h.c,h.r.jQ (hb.block _ h.r.lt),next h.b hb,h.u,h.n⟩
theorem nO.drew (h:nO S w gU gC k wr):nO S w gU gC k wr.drew:=h.up ((Below.refl _ _).drew)
theorem nO.port {ii:Nat} (h:nO S w gU gC k wr) (hp:(S.K k).p=2) (hi:(S.K k).inn=(ii:Int)) (hii:ii<S.N.nU):nO S w gU gC (k+1) (wr.setCell ⟨gU,ii,none⟩ (.int .i64 (jI S.K ii k+(S.K k).cl))):=by
 have ht:Touch [gU] wr (wr.setCell ⟨gU,ii,none⟩ (.int .i64 (jI S.K ii k+(S.K k).cl))):=(Touch.refl _ _).set (by simp) _ _
 have hun:=h.u
 have hnn:=h.n
 refine ⟨?_,(h.r.wz ii _ hii).AM (fun i _=>?_),h.b.trans (ht.below (by have:=upper h.b;omega) (fun x hx=>by simp at hx;omega)),h.u,h.n⟩
 ·
  refine ((ht.block _ (ig h.c) (by simp;omega)).trans h.c).trans ?_
  have e:iM S.K (k+1)=iM S.K k:=by show iM S.K k+(if (S.K k).p=2 then 0 else _)=_;rw [if_pos hp];omega
  rw [e]
 have e:jI S.K i (k+1)=if i=ii then jI S.K ii k+(S.K k).cl else jI S.K i k:=by
  show jI S.K i k+(if (S.K k).p=2∧(S.K k).inn=(i:Int) then _ else 0)=_
  by_cases e:i=ii
  ·
   subst e;rw [if_pos ⟨hp,hi⟩,if_pos rfl]
  rw [if_neg (fun h=>e (by have:=h.2;omega)),if_neg e];omega
 rw [e]
 split <;> rfl
theorem nO.Dm (h:nO S w gU gC k wr) (hp:(S.K k).p≠2):nO S w gU gC (k+1) (wr.setCell ⟨gC,1,none⟩ (.int .i64 (iM S.K k+(S.K k).cl))):=by
 have ht:Touch [gC] wr (wr.setCell ⟨gC,1,none⟩ (.int .i64 (iM S.K k+(S.K k).cl))):=(Touch.refl _ _).set (by simp) _ _
 have hun:=h.u
 have hnn:=h.n
 refine ⟨?_,(h.r.jQ (ht.block _ h.r.lt (by simp;omega))).AM (fun i _=>?_),h.b.trans (ht.below (by have:=upper h.b;omega) (fun x hx=>by simp at hx;omega)),h.u,h.n⟩
 ·
  have e:iM S.K (k+1)=iM S.K k+(S.K k).cl:=by show iM S.K k+(if (S.K k).p=2 then 0 else _)=_;rw [if_neg hp]
  rw [e];exact iL (i:=1) h.c _
 have e:jI S.K i (k+1)=jI S.K i k:=by
  show jI S.K i k+(if (S.K k).p=2∧(S.K k).inn=(i:Int) then _ else 0)=_
  rw [if_neg (fun h=>hp h.1)];omega
 rw [e]
theorem C7 {a:Option Addr} {g o i:Nat} (h:Fj w a n L) (ha:a=some ⟨g,o,none⟩) (hi:i<n):∀ j,j<8→w.cell? ⟨g,o+i*8+j,none⟩=(L i).cells[j]?:=by
 obtain ⟨g',o',e,hc⟩:=h i hi
 rw [ha] at e
 cases e
 exact hc
theorem A6 {b off:Nat} {X:Lng} (hc:∀ j,j<8→w.cell? ⟨b,off+j,none⟩=X.cells[j]?):(loadVar 47 ⟨b,off,none⟩).run Tryz.prog w=.ok (.agg X.cells) w :=
 run_loadVar_mid w b off 47 X.cells.toList _ (fun j v hv=>by
  have hj:j<8:=by
   have:=(List.getElem?_eq_some_iff.1 hv).1
   simpa [Lng.cells] using this
  rw [hc j hj,←Array.getElem?_toList]
  exact hv) Tryz.underlying47 rfl wV
theorem zx {oi:Oper} {ev:Operand→Value} (ty:TypeId) (x:Operand) (ho:oi.op=.load ty x) (b off:Nat) (hx:ev x=.pointer (some ⟨b,off,none⟩)) (v:Value)
  (hl:(loadVar ty ⟨b,off,none⟩).run Tryz.prog w=.ok v w):(execOp ev oi).run Tryz.prog w=.ok (.value v) w:=by
 unfold execOp
 simp only [ho,hx,Instr.loadAt,Instr.sureAddr,Sem.run_bind,Sem.run_pure,Result.andThen_ok,hl]
