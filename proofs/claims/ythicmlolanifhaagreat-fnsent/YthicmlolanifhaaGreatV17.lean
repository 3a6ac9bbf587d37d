import Derived.Test.YthicmlolanifhaaGreatV15
namespace Go.Proofs.YthicmlolanifhaaGreat
open Go.RowKit
set_option linter.unusedVariables false
set_option linter.unusedSimpArgs false
variable {x:Int} {gC gU k n:Nat} {z:Nat→Int} {L:Nat→Lng} {S:Swg} {w wr:World}
def zC (z:Nat→Int) (x:Int) (n:Nat):Nat:=if 0<occ z x n then 1 else 0
def Cs (l:Lng) (x:Int):Nat→Nat
 | 0=>0
 | c+1=>Cs l x c+zC (l.uz c) x (l.uL c)
def A0 (L:Nat→Lng) (x:Int):Nat→Nat
 | 0=>0
 | i+1=>A0 L x i+(zC (L i).t x (L i).nT+Cs (L i) x (L i).nU)
theorem yT (z:Nat→Int) (x:Int) (n:Nat):zC z x n≤1:=by unfold zC;split <;> omega
theorem zA (h:∀ i,i<n→0<i→z (i-1)<z i):zC z x n=occ z x n:=by
 have:=DH (x:=x) h n (Nat.le_refl _)
 unfold zC
 split <;> omega
theorem Cr (l:Lng) (x:Int):∀ c,Cs l x c≤c:=by
 intro c
 induction c with
 | zero=>exact Nat.le_refl _
 | succ c ih=>have:=yT (l.uz c) x (l.uL c);show Cs l x c+_≤_;omega
theorem zD {m:Nat} {K:Nat→Pkt} (h:∀ i,i<n→ni m K (L i)) (x:Int):∀ i,i≤n→A0 L x i=mh L x i:=by
 intro i
 induction i with
 | zero=>intro _;rfl
 | succ i ih =>
  intro hi
  have hl:=h i (by omega)
  have hu:∀ c,c≤2→Cs (L i) x c=sl (L i) x c:=by
   intro c
   induction c with
   | zero=>intro _;rfl
   | succ c ihc =>
    intro hc
    show Cs (L i) x c+zC _ _ _=sl (L i) x c+occ _ _ _
    rw [ihc (by omega),zA (fun j hj h0=>((hl.z c (by omega)).1 j hj).2 h0)]
  show A0 L x i+(zC _ _ _+Cs _ _ _)=mh L x i+(occ _ _ _+sl _ _ _)
  rw [ih (by omega),zA (fun j hj h0=>(hl.t j hj).2 h0),hl.u,hu 2 (Nat.le_refl _)]
theorem Fu (h:∀ i,i<n→(L i).nU≤1048576) (x:Int):∀ i,i≤n→A0 L x i≤1048577*i:=by
 intro i
 induction i with
 | zero=>intro _;exact Nat.le_refl _
 | succ i ih =>
  intro hi
  have h1:=ih (by omega)
  have h2:=yT (L i).t x (L i).nT
  have h3:=Cr (L i) x (L i).nU
  have h4:=h i (by omega)
  show A0 L x i+(zC _ _ _+Cs _ _ _)≤_
  omega
theorem Es {hb:Bool} (h:hb=true↔0<occ z x n):zC z x n=if hb=true then 1 else 0:=by
 unfold zC
 cases hb
 ·
  rw [if_neg (fun e=>by have:=h.2 e;simp at this),if_neg (by simp)]
 rw [if_pos (h.1 rfl),if_pos rfl]
def pkP (S:Swg) (k:Nat):Prop:=(S.K k).ok S.nx S.C.p∧(0<k→(S.K (k-1)).id<(S.K k).id)
def rfP (S:Swg) (k:Nat):Prop:=(S.K k).refs=(A0 S.L (S.K k).id S.nL:Int)∧A0 S.L (S.K k).id S.nL≠0
theorem GB (h0:Cnt.Ok S.C S.N) (h1:S.FP) (h2:S.seen) (h3:S.nK≤1000) (h4:(S.nL:Int)=S.C.p) :
  S.Ok↔(∀ k,k<S.nK→pkP S k∧rfP S k)∧(∀ i,i<S.nL→jX S.K i S.nK=S.N.u i∧ni S.nK S.K (S.L i))∧iZ S.K S.nK=S.N.lo:=by
 have hn:S.N.nU=S.nL:=by have:=h0.nU;omega
 constructor
 ·
  intro h
  refine ⟨fun k hk=>⟨⟨h.k.one k hk,h.k.up k hk⟩,?_⟩,fun i hi=>⟨(h.held.2 i (by omega)).symm,h.l i hi⟩,h.held.1.symm⟩
  obtain ⟨a,b⟩:=h.refs k hk
  unfold rfP
  rw [zD h.l _ _ (Nat.le_refl _)]
  exact ⟨b,by omega⟩
 rintro ⟨hp,hl,hlo⟩
 refine ⟨h0,h1,h2,⟨h3,fun i hi=>(hp i hi).1.1,fun i hi=>(hp i hi).1.2⟩,h4,fun i hi=>(hl i hi).2,fun j hj=>?_,hlo.symm,fun i hi=>((hl i (by omega)).1).symm⟩
 obtain ⟨a,b⟩:=(hp j hj).2
 rw [zD (fun i hi=>(hl i hi).2) _ _ (Nat.le_refl _)] at a b
 exact ⟨by omega,a⟩
structure oY (S:Swg) (w:World) (gU gC k:Nat) (wr:World):Prop where
 c:wr.heap[gC]?=some (.cells #[.slice (some ⟨gU,0,none⟩) S.N.nU S.N.nU,.int .i64 (iZ S.K k),.slice none 0 0] 30 (0,0))
 r:ja gU 2 S.N.nU (fun i=>.int .i64 (jX S.K i k)) S.N.nU wr
 b:Below (w.heap.size+1) (w.alloc (.cells S.cells 34)) wr
 u:w.heap.size<gU
 n:gU<gC
theorem oY.up {W:World} (h:oY S w gU gC k wr) (hb:Below wr.heap.size wr W):oY S w gU gC k W :=
 ⟨(hb.block _ (iw h.c)).trans h.c,h.r.jR (hb.block _ h.r.lt),next h.b hb,h.u,h.n⟩
theorem oY.drew (h:oY S w gU gC k wr):oY S w gU gC k wr.drew:=h.up ((Below.refl _ _).drew)
theorem oY.port {ii:Nat} (h:oY S w gU gC k wr) (hp:(S.K k).p=2) (hi:(S.K k).inn=(ii:Int)) (hii:ii<S.N.nU):oY S w gU gC (k+1) (wr.setCell ⟨gU,ii,none⟩ (.int .i64 (jX S.K ii k+(S.K k).cl))):=by
 have ht:Touch [gU] wr (wr.setCell ⟨gU,ii,none⟩ (.int .i64 (jX S.K ii k+(S.K k).cl))):=(Touch.refl _ _).set (by simp) _ _
 have hun:=h.u
 have hnn:=h.n
 refine ⟨?_,(h.r.wW ii _ hii).A3 (fun i _=>?_),h.b.trans (ht.below (by have:=upper h.b;omega) (fun x hx=>by simp at hx;omega)),h.u,h.n⟩
 ·
  refine ((ht.block _ (iw h.c) (by simp;omega)).trans h.c).trans ?_
  have e:iZ S.K (k+1)=iZ S.K k:=by show iZ S.K k+(if (S.K k).p=2 then 0 else _)=_;rw [if_pos hp];omega
  rw [e]
 have e:jX S.K i (k+1)=if i=ii then jX S.K ii k+(S.K k).cl else jX S.K i k:=by
  show jX S.K i k+(if (S.K k).p=2∧(S.K k).inn=(i:Int) then _ else 0)=_
  by_cases e:i=ii
  ·
   subst e;rw [if_pos ⟨hp,hi⟩,if_pos rfl]
  rw [if_neg (fun h=>e (by have:=h.2;omega)),if_neg e];omega
 rw [e]
 split <;> rfl
theorem oY.DL (h:oY S w gU gC k wr) (hp:(S.K k).p≠2):oY S w gU gC (k+1) (wr.setCell ⟨gC,1,none⟩ (.int .i64 (iZ S.K k+(S.K k).cl))):=by
 have ht:Touch [gC] wr (wr.setCell ⟨gC,1,none⟩ (.int .i64 (iZ S.K k+(S.K k).cl))):=(Touch.refl _ _).set (by simp) _ _
 have hun:=h.u
 have hnn:=h.n
 refine ⟨?_,(h.r.jR (ht.block _ h.r.lt (by simp;omega))).A3 (fun i _=>?_),h.b.trans (ht.below (by have:=upper h.b;omega) (fun x hx=>by simp at hx;omega)),h.u,h.n⟩
 ·
  have e:iZ S.K (k+1)=iZ S.K k+(S.K k).cl:=by show iZ S.K k+(if (S.K k).p=2 then 0 else _)=_;rw [if_neg hp]
  rw [e];exact iO (i:=1) h.c _
 have e:jX S.K i (k+1)=jX S.K i k:=by
  show jX S.K i k+(if (S.K k).p=2∧(S.K k).inn=(i:Int) then _ else 0)=_
  rw [if_neg (fun h=>hp h.1)];omega
 rw [e]
theorem Dw {a:Option Addr} {g o i:Nat} (h:Ec w a n L) (ha:a=some ⟨g,o,none⟩) (hi:i<n):∀ j,j<8→w.cell? ⟨g,o+i*8+j,none⟩=(L i).cells[j]?:=by
 obtain ⟨g',o',e,hc⟩:=h i hi
 rw [ha] at e
 cases e
 exact hc
theorem Bk {b off:Nat} {X:Lng} (hc:∀ j,j<8→w.cell? ⟨b,off+j,none⟩=X.cells[j]?):(loadVar 48 ⟨b,off,none⟩).run Tryz.prog w=.ok (.agg X.cells) w :=
 run_loadVar_mid w b off 48 X.cells.toList _ (fun j v hv=>by
  have hj:j<8:=by
   have:=(List.getElem?_eq_some_iff.1 hv).1
   simpa [Lng.cells] using this
  rw [hc j hj,←Array.getElem?_toList]
  exact hv) Tryz.underlying48 rfl xI
theorem zZ {oi:Oper} {ev:Operand→Value} (ty:TypeId) (x:Operand) (ho:oi.op=.load ty x) (b off:Nat) (hx:ev x=.pointer (some ⟨b,off,none⟩)) (v:Value)
  (hl:(loadVar ty ⟨b,off,none⟩).run Tryz.prog w=.ok v w):(execOp ev oi).run Tryz.prog w=.ok (.value v) w:=by
 unfold execOp
 simp only [ho,hx,Instr.loadAt,Instr.sureAddr,Sem.run_bind,Sem.run_pure,Result.andThen_ok,hl]
