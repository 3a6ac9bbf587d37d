import Derived.Test.YtfcfpkibceepgaaGreatS14
namespace Go.Proofs.YtfcfpkibceepgaaGreat
open Go.RowKit
set_option linter.unusedVariables false
set_option linter.unusedSimpArgs false
theorem bN {p:Prop} (h:p:=by
 iterate 16 refine sN ?_
 refine tN ?_
 exact bO):p:=h
theorem bO {p:Prop} (h:p:=by
 refine dnq ?_
 go_wp2_with fail
 go_ret
 exact ⟨fQ HF.out.symm,hB.drew⟩):p:=h
def so (z:Nat→Int) (x:Int) (n:Nat):Nat:=if 0<occ z x n then 1 else 0
def zO (l:Lng) (x:Int):Nat→Nat
 | 0=>0
 | c+1=>zO l x c+so (l.uz c) x (l.uL c)
def yj (L:Nat→Lng) (x:Int):Nat→Nat
 | 0=>0
 | i+1=>yj L x i+(so (L i).t x (L i).nT+zO (L i) x (L i).nU)
theorem vR (z:Nat→Int) (x:Int) (n:Nat):so z x n≤1:=by unfold so;split <;> omega
theorem wT {z:Nat→Int} {x:Int} {n:Nat} (h:∀ i,i<n→0<i→z (i-1)<z i):so z x n=occ z x n:=by
 have:=AS (x:=x) h n (Nat.le_refl _)
 unfold so
 split <;> omega
theorem zN (l:Lng) (x:Int):∀ c,zO l x c≤c:=by
 intro c
 induction c with
 | zero=>exact Nat.le_refl _
 | succ c ih=>have:=vR (l.uz c) x (l.uL c);show zO l x c+_≤_;omega
theorem wU {m:Nat} {K:Nat→Pkt} {L:Nat→Lng} {n:Nat} (h:∀ i,i<n→lY m K (L i)) (x:Int):∀ i,i≤n→yj L x i=nA L x i:=by
 intro i
 induction i with
 | zero=>intro _;rfl
 | succ i ih =>
  intro hi
  have hl:=h i (by omega)
  have hu:∀ c,c≤2→zO (L i) x c=sn (L i) x c:=by
   intro c
   induction c with
   | zero=>intro _;rfl
   | succ c ihc =>
    intro hc
    show zO (L i) x c+so _ _ _=sn (L i) x c+occ _ _ _
    rw [ihc (by omega),wT (fun j hj h0=>((hl.z c (by omega)).1 j hj).2 h0)]
  show yj L x i+(so _ _ _+zO _ _ _)=nA L x i+(occ _ _ _+sn _ _ _)
  rw [ih (by omega),wT (fun j hj h0=>(hl.t j hj).2 h0),hl.u,hu 2 (Nat.le_refl _)]
theorem Cl {L:Nat→Lng} {n:Nat} (h:∀ i,i<n→(L i).nU≤1048576) (x:Int):∀ i,i≤n→yj L x i≤1048577*i:=by
 intro i
 induction i with
 | zero=>intro _;exact Nat.le_refl _
 | succ i ih =>
  intro hi
  have h1:=ih (by omega)
  have h2:=vR (L i).t x (L i).nT
  have h3:=zN (L i) x (L i).nU
  have h4:=h i (by omega)
  show yj L x i+(so _ _ _+zO _ _ _)≤_
  omega
theorem Bw {z:Nat→Int} {x:Int} {n:Nat} {hb:Bool} (h:hb=true↔0<occ z x n):so z x n=if hb=true then 1 else 0:=by
 unfold so
 cases hb
 ·
  rw [if_neg (fun e=>by have:=h.2 e;simp at this),if_neg (by simp)]
 rw [if_pos (h.1 rfl),if_pos rfl]
def pkP (S:Swg) (k:Nat):Prop:=(S.K k).ok S.nx S.C.p∧(0<k→(S.K (k-1)).id<(S.K k).id)
def rfP (S:Swg) (k:Nat):Prop:=(S.K k).refs=(yj S.L (S.K k).id S.nL:Int)∧yj S.L (S.K k).id S.nL≠0
theorem Dg {S:Swg} (h0:Cnt.Ok S.C S.N) (h1:S.BE) (h2:S.seen) (h3:S.nK≤1000) (h4:(S.nL:Int)=S.C.p) :
  S.Ok↔(∀ k,k<S.nK→pkP S k∧rfP S k)∧(∀ i,i<S.nL→jn S.K i S.nK=S.N.u i∧lY S.nK S.K (S.L i))∧g3 S.K S.nK=S.N.lo:=by
 have hn:S.N.nU=S.nL:=by have:=h0.nU;omega
 constructor
 ·
  intro h
  refine ⟨fun k hk=>⟨⟨h.k.one k hk,h.k.up k hk⟩,?_⟩,fun i hi=>⟨(h.held.2 i (by omega)).symm,h.l i hi⟩,h.held.1.symm⟩
  obtain ⟨a,b⟩:=h.refs k hk
  unfold rfP
  rw [wU h.l _ _ (Nat.le_refl _)]
  exact ⟨b,by omega⟩
 rintro ⟨hp,hl,hlo⟩
 refine ⟨h0,h1,h2,⟨h3,fun i hi=>(hp i hi).1.1,fun i hi=>(hp i hi).1.2⟩,h4,fun i hi=>(hl i hi).2,fun j hj=>?_,hlo.symm,fun i hi=>((hl i (by omega)).1).symm⟩
 obtain ⟨a,b⟩:=(hp j hj).2
 rw [wU (fun i hi=>(hl i hi).2) _ _ (Nat.le_refl _)] at a b
 exact ⟨by omega,a⟩
structure iM (S:Swg) (w:World) (gU gC k:Nat) (wr:World):Prop where
 c:wr.heap[gC]?=some (.cells #[.slice (some ⟨gU,0,none⟩) S.N.nU S.N.nU,.int .i64 (g3 S.K k),.slice none 0 0] 36 (0,0))
 r:fV gU 2 S.N.nU (fun i=>.int .i64 (jn S.K i k)) S.N.nU wr
 b:Below (w.heap.size+1) (w.alloc (.cells S.cells 40)) wr
 u:w.heap.size<gU
 n:gU<gC
theorem iM.up {S:Swg} {w:World} {gU gC k:Nat} {wr W:World} (h:iM S w gU gC k wr) (hb:Below wr.heap.size wr W):iM S w gU gC k W :=
 ⟨(hb.block _ (fH h.c)).trans h.c,h.r.ir (hb.block _ h.r.lt),next h.b hb,h.u,h.n⟩
theorem iM.drew {S:Swg} {w:World} {gU gC k:Nat} {wr:World} (h:iM S w gU gC k wr):iM S w gU gC k wr.drew:=h.up ((Below.refl _ _).drew)
theorem iM.port {S:Swg} {w:World} {gU gC k ii:Nat} {wr:World} (h:iM S w gU gC k wr) (hp:(S.K k).p=2) (hi:(S.K k).inn=(ii:Int)) (hii:ii<S.N.nU):iM S w gU gC (k+1) (wr.setCell ⟨gU,ii,none⟩ (.int .i64 (jn S.K ii k+(S.K k).cl))):=by
 have ht:Touch [gU] wr (wr.setCell ⟨gU,ii,none⟩ (.int .i64 (jn S.K ii k+(S.K k).cl))):=(Touch.refl _ _).set (by simp) _ _
 have hun:=h.u
 have hnn:=h.n
 refine ⟨?_,(h.r.sP ii _ hii).yk (fun i _=>?_),h.b.trans (ht.below (by have:=upper h.b;omega) (fun x hx=>by simp at hx;omega)),h.u,h.n⟩
 ·
  refine ((ht.block _ (fH h.c) (by simp;omega)).trans h.c).trans ?_
  have e:g3 S.K (k+1)=g3 S.K k:=by show g3 S.K k+(if (S.K k).p=2 then 0 else _)=_;rw [if_pos hp];omega
  rw [e]
 have e:jn S.K i (k+1)=if i=ii then jn S.K ii k+(S.K k).cl else jn S.K i k:=by
  show jn S.K i k+(if (S.K k).p=2∧(S.K k).inn=(i:Int) then _ else 0)=_
  by_cases e:i=ii
  ·
   subst e;rw [if_pos ⟨hp,hi⟩,if_pos rfl]
  rw [if_neg (fun h=>e (by have:=h.2;omega)),if_neg e];omega
 rw [e]
 split <;> rfl
theorem iM.A3 {S:Swg} {w:World} {gU gC k:Nat} {wr:World} (h:iM S w gU gC k wr) (hp:(S.K k).p≠2):iM S w gU gC (k+1) (wr.setCell ⟨gC,1,none⟩ (.int .i64 (g3 S.K k+(S.K k).cl))):=by
 have ht:Touch [gC] wr (wr.setCell ⟨gC,1,none⟩ (.int .i64 (g3 S.K k+(S.K k).cl))):=(Touch.refl _ _).set (by simp) _ _
 have hun:=h.u
 have hnn:=h.n
 refine ⟨?_,(h.r.ir (ht.block _ h.r.lt (by simp;omega))).yk (fun i _=>?_),h.b.trans (ht.below (by have:=upper h.b;omega) (fun x hx=>by simp at hx;omega)),h.u,h.n⟩
 ·
  have e:g3 S.K (k+1)=g3 S.K k+(S.K k).cl:=by show g3 S.K k+(if (S.K k).p=2 then 0 else _)=_;rw [if_neg hp]
  rw [e];exact gj (i:=1) h.c _
 have e:jn S.K i (k+1)=jn S.K i k:=by
  show jn S.K i k+(if (S.K k).p=2∧(S.K k).inn=(i:Int) then _ else 0)=_
  rw [if_neg (fun h=>hp h.1)];omega
 rw [e]
theorem AM {w:World} {a:Option Addr} {n g o i:Nat} {L:Nat→Lng} (h:qh w a n L) (ha:a=some ⟨g,o,none⟩) (hi:i<n):∀ j,j<8→w.cell? ⟨g,o+i*8+j,none⟩=(L i).cells[j]?:=by
 obtain ⟨g',o',e,hc⟩:=h i hi
 rw [ha] at e
 cases e
 exact hc
theorem yF {w:World} {b off:Nat} {X:Lng} (hc:∀ j,j<8→w.cell? ⟨b,off+j,none⟩=X.cells[j]?):(loadVar 102 ⟨b,off,none⟩).run Tryz.prog w=.ok (.agg X.cells) w :=
 run_loadVar_mid w b off 102 X.cells.toList _ (fun j v hv=>by
  have hj:j<8:=by
   have:=(List.getElem?_eq_some_iff.1 hv).1
   simpa [Lng.cells] using this
  rw [hc j hj,←Array.getElem?_toList]
  exact hv) Tryz.underlying102 rfl tZ
theorem xj {oi:Oper} {ev:Operand→Value} {w:World} (ty:TypeId) (x:Operand) (ho:oi.op=.load ty x) (b off:Nat) (hx:ev x=.pointer (some ⟨b,off,none⟩)) (v:Value)
  (hl:(loadVar ty ⟨b,off,none⟩).run Tryz.prog w=.ok v w):(execOp ev oi).run Tryz.prog w=.ok (.value v) w:=by
 unfold execOp
 simp only [ho,hx,Instr.loadAt,Instr.sureAddr,Sem.run_bind,Sem.run_pure,Result.andThen_ok,hl]
set_option maxHeartbeats 3000000 in
theorem sS (a:Option Addr) (n cap:Nat) (f:Nat→Ent) (w:World) (hn:n≤maxLen) (h:iZ w a n f) (ok:Bool) (hok:ok=true↔oJ n f) :
  Calls Tryz.prog 50 #[.slice a n cap] w fun e w'=>e=.returned (.bool ok)∧Below w.heap.size w w':=by
 have HO:Hid (ok=true↔oJ n f):=hok
 have HR:Hid (iZ w a n f):=h
 clear hok h
 have hm:(n:Int)≤9223372036854775807:=by unfold maxLen at hn;omega
 go_enter Tryz.func50,Tryz.ntmps50
 go_wp2_with fail
 go_loopw [3] (fun i wr=>∃ k:Nat,k≤n∧i=.int .i64 k∧jK k f∧Same w wr) (fun i _=>n-(intOf i).toNat)
 case atStart=>exact ⟨0,Nat.zero_le _,rfl,fun i hi=>by omega,Same.refl _⟩
 obtain ⟨k,hk,rfl,hall,hS⟩:=hrel
 have HA:Hid (jK k f):=hall
 clear hall
 have hB:Below w.heap.size w wr:=hS.below _
 by_cases hlt:k<n
 ·
  have hlt':(k:Int)<n:=by omega
  obtain ⟨g,o,rfl,c1,c2,c3⟩:=(HR.out.up hB) k hlt
  have HN:Hid (¬ (n6 (f k)∧(0<k→(f (k-1)).m<(f k).m))→ok=false):=fun hh=>by
   rw [Bool.eq_false_iff]
   intro e
   exact hh ((HO.out.1 e).2 k hlt)
  generalize hx:f k=x at *
  obtain ⟨m,p,t⟩:=x
  dsimp only at c1 c2 c3
  by_cases hm0:1≤m∧m≤20
  ·
   have HM:Hid (1≤m∧m≤20):=hm0
   have hm:decide (1≤m∧m≤20)=true:=decide_eq_true hm0
   clear hm0
   by_cases hp0:0≤p∧p≤3
   ·
    have HP:Hid (0≤p∧p≤3):=hp0
    have hp:decide (0≤p∧p≤3)=true:=decide_eq_true hp0
    clear hp0
    by_cases ht0:0≤t∧t≤1000000000
    ·
     have HT:Hid (0≤t∧t≤1000000000):=ht0
     have ht:decide (0≤t∧t≤1000000000)=true:=decide_eq_true ht0
     clear ht0
     have HE:Hid (n6 ⟨m,p,t⟩):=⟨HM.out,HP.out,HT.out⟩
     by_cases h0:k=0
     ·
      subst h0
      have HS:Hid (jK (0+1) f):=HA.out.step (by rw [hx];exact HE.out) (fun h=>by omega)
      simp only [Nat.zero_mul,Nat.add_zero] at c1 c2 c3
      have hlt0:(0:Int)<n:=by omega
      clear hlt'
      go_wp2_with fail
      refine wp_region_held_drew (S:=fun w'=>w'.cell? ⟨g,o,none⟩=some (.int .i64 m)∧w'.cell? ⟨g,o+1,none⟩=some (.int .i64 p)∧w'.cell? ⟨g,o+2,none⟩=some (.int .i64 t)) (by kernel_rfl) ⟨c1,c2,c3⟩ (fun hHeld=>?_)
      refine t0 ?_
      iterate 4 refine tN ?_
      refine rq1 5 (fun K hK=>?_)
      go_simp
      refine (j1 _ _).mono ?_
      rintro e w1 ⟨rfl,rfl⟩
      rw [hm]
      go_wp2_with fail
      refine hK.out _ _ ⟨c1,c2,c3⟩ (fun hHeld=>?_)
      clear hK K
      try simp only [Act.put,PZ]
      iterate 7 refine tN ?_
      refine rq1 13 (fun K hK=>?_)
      go_simp
      refine (fW _ _ _ _).mono ?_
      rintro e w1 ⟨rfl,rfl⟩
      rw [hp]
      go_wp2_with fail
      refine hK.out _ _ ⟨c1,c2,c3⟩ (fun hHeld=>?_)
      clear hK K
      try simp only [Act.put,PZ]
      iterate 8 refine tN ?_
      refine rq1 22 (fun K hK=>?_)
      go_simp
      refine (fW _ _ _ _).mono ?_
      rintro e w1 ⟨rfl,rfl⟩
      rw [ht]
      go_wp2_with fail
      refine hK.out _ _ ⟨c1,c2,c3⟩ (fun hHeld=>?_)
      clear hK K
      try simp only [Act.put,PZ]
      iterate 6 refine tN ?_
      iterate 12 refine sN ?_
      iterate 2 refine tN ?_
      refine dnq ?_
      go_wp2_with fail
      go_roundw
      case rel=>exact ⟨1,by omega,by go_num,HS.out,hS.drewN 1⟩
      case measure=>simp [intOf];omega
     obtain ⟨j,rfl⟩:∃ j,k=j+1:=⟨k-1,by omega⟩
     have hj':(j:Int)<n:=by omega
     have hjj:(0:Int)<(j:Int)+1:=by omega
     have hj0:(0:Int)≤(j:Int)+1:=by omega
     have hj1:(j:Int)+1<n:=by omega
     have hwj:IntKind.i64.wrap (j:Int)=(j:Int):=mM _ (by omega) (by omega)
     obtain ⟨g',o',eg,cP,_,_⟩:=(HR.out.up hB) j (by omega)
     cases eg
     by_cases hq:(f j).m<m
     ·
      have HS:Hid (jK (j+1+1) f):=HA.out.step (by rw [hx];exact HE.out) (fun h=>by rw [hx];exact hq)
      generalize (f j).m=q at *
      have hq':¬ m≤q:=by omega
      go_wp2_with fail
      refine wp_region_held_drew (S:=fun w'=>w'.cell? ⟨g,o+(j+1)*3,none⟩=some (.int .i64 m)∧w'.cell? ⟨g,o+(j+1)*3+1,none⟩=some (.int .i64 p)∧w'.cell? ⟨g,o+(j+1)*3+2,none⟩=some (.int .i64 t)∧w'.cell? ⟨g,o+j*3,none⟩=some (.int .i64 q)) (by kernel_rfl) ⟨c1,c2,c3,cP⟩ (fun hHeld=>?_)
      refine t0 ?_
      iterate 4 refine tN ?_
      refine rq1 5 (fun K hK=>?_)
      go_simp
      refine (j1 _ _).mono ?_
      rintro e w1 ⟨rfl,rfl⟩
      rw [hm]
      go_wp2_with fail
      refine hK.out _ _ ⟨c1,c2,c3,cP⟩ (fun hHeld=>?_)
      clear hK K
      try simp only [Act.put,PZ]
      iterate 7 refine tN ?_
      refine rq1 13 (fun K hK=>?_)
      go_simp
      refine (fW _ _ _ _).mono ?_
      rintro e w1 ⟨rfl,rfl⟩
      rw [hp]
      go_wp2_with fail
      refine hK.out _ _ ⟨c1,c2,c3,cP⟩ (fun hHeld=>?_)
      clear hK K
      try simp only [Act.put,PZ]
      iterate 8 refine tN ?_
      refine rq1 22 (fun K hK=>?_)
      go_simp
      refine (fW _ _ _ _).mono ?_
      rintro e w1 ⟨rfl,rfl⟩
      rw [ht]
      go_wp2_with fail
      refine hK.out _ _ ⟨c1,c2,c3,cP⟩ (fun hHeld=>?_)
      clear hK K
      try simp only [Act.put,PZ]
      iterate 20 refine tN ?_
      refine dnq ?_
      go_wp2_with fail
      go_roundw
      case rel=>exact ⟨j+1+1,by omega,by go_num,HS.out,hS.drewN 1⟩
      case measure=>simp [intOf];omega
     have HF:Hid (ok=false):=HN.out (fun h=>hq (h.2 (by omega)))
     generalize (f j).m=q at *
     have hq':m≤q:=by omega
     go_wp2_with fail
     refine wp_region_held_drew (S:=fun w'=>w'.cell? ⟨g,o+(j+1)*3,none⟩=some (.int .i64 m)∧w'.cell? ⟨g,o+(j+1)*3+1,none⟩=some (.int .i64 p)∧w'.cell? ⟨g,o+(j+1)*3+2,none⟩=some (.int .i64 t)∧w'.cell? ⟨g,o+j*3,none⟩=some (.int .i64 q)) (by kernel_rfl) ⟨c1,c2,c3,cP⟩ (fun hHeld=>?_)
     refine t0 ?_
     iterate 4 refine tN ?_
     refine rq1 5 (fun K hK=>?_)
     go_simp
     refine (j1 _ _).mono ?_
     rintro e w1 ⟨rfl,rfl⟩
     rw [hm]
     go_wp2_with fail
     refine hK.out _ _ ⟨c1,c2,c3,cP⟩ (fun hHeld=>?_)
     clear hK K
     try simp only [Act.put,PZ]
     iterate 7 refine tN ?_
     refine rq1 13 (fun K hK=>?_)
     go_simp
     refine (fW _ _ _ _).mono ?_
     rintro e w1 ⟨rfl,rfl⟩
     rw [hp]
     go_wp2_with fail
     refine hK.out _ _ ⟨c1,c2,c3,cP⟩ (fun hHeld=>?_)
     clear hK K
     try simp only [Act.put,PZ]
     iterate 8 refine tN ?_
     refine rq1 22 (fun K hK=>?_)
     go_simp
     refine (fW _ _ _ _).mono ?_
     rintro e w1 ⟨rfl,rfl⟩
     rw [ht]
     go_wp2_with fail
     refine hK.out _ _ ⟨c1,c2,c3,cP⟩ (fun hHeld=>?_)
     clear hK K
     try simp only [Act.put,PZ]
     iterate 20 refine tN ?_
     exact bO
    have HF:Hid (ok=false):=HN.out (fun h=>ht0 h.1.2.2)
    have ht:decide (0≤t∧t≤1000000000)=false:=decide_eq_false ht0
    clear ht0
    go_wp2_with fail
    refine wp_region_held_drew (S:=fun w'=>w'.cell? ⟨g,o+k*3,none⟩=some (.int .i64 m)∧w'.cell? ⟨g,o+k*3+1,none⟩=some (.int .i64 p)∧w'.cell? ⟨g,o+k*3+2,none⟩=some (.int .i64 t)) (by kernel_rfl) ⟨c1,c2,c3⟩ (fun hHeld=>?_)
    refine t0 ?_
    iterate 4 refine tN ?_
    refine rq1 5 (fun K hK=>?_)
    go_simp
    refine (j1 _ _).mono ?_
    rintro e w1 ⟨rfl,rfl⟩
    rw [hm]
    go_wp2_with fail
    refine hK.out _ _ ⟨c1,c2,c3⟩ (fun hHeld=>?_)
    clear hK K
    try simp only [Act.put,PZ]
    iterate 7 refine tN ?_
    refine rq1 13 (fun K hK=>?_)
    go_simp
    refine (fW _ _ _ _).mono ?_
    rintro e w1 ⟨rfl,rfl⟩
    rw [hp]
    go_wp2_with fail
    refine hK.out _ _ ⟨c1,c2,c3⟩ (fun hHeld=>?_)
    clear hK K
    try simp only [Act.put,PZ]
    iterate 8 refine tN ?_
    refine rq1 22 (fun K hK=>?_)
    go_simp
    refine (fW _ _ _ _).mono ?_
    rintro e w1 ⟨rfl,rfl⟩
    rw [ht]
    go_wp2_with fail
    refine hK.out _ _ ⟨c1,c2,c3⟩ (fun hHeld=>?_)
    clear hK K
    try simp only [Act.put,PZ]
    iterate 3 refine tN ?_
    exact bN
   have HF:Hid (ok=false):=HN.out (fun h=>hp0 h.1.2.1)
   have hp:decide (0≤p∧p≤3)=false:=decide_eq_false hp0
   clear hp0
   go_wp2_with fail
   refine wp_region_held_drew (S:=fun w'=>w'.cell? ⟨g,o+k*3,none⟩=some (.int .i64 m)∧w'.cell? ⟨g,o+k*3+1,none⟩=some (.int .i64 p)∧w'.cell? ⟨g,o+k*3+2,none⟩=some (.int .i64 t)) (by kernel_rfl) ⟨c1,c2,c3⟩ (fun hHeld=>?_)
   refine t0 ?_
   iterate 4 refine tN ?_
   refine rq1 5 (fun K hK=>?_)
   go_simp
   refine (j1 _ _).mono ?_
   rintro e w1 ⟨rfl,rfl⟩
   rw [hm]
   go_wp2_with fail
   refine hK.out _ _ ⟨c1,c2,c3⟩ (fun hHeld=>?_)
   clear hK K
   try simp only [Act.put,PZ]
   iterate 7 refine tN ?_
   refine rq1 13 (fun K hK=>?_)
   go_simp
   refine (fW _ _ _ _).mono ?_
   rintro e w1 ⟨rfl,rfl⟩
   rw [hp]
   go_wp2_with fail
   refine hK.out _ _ ⟨c1,c2,c3⟩ (fun hHeld=>?_)
   clear hK K
   try simp only [Act.put,PZ]
   iterate 3 refine tN ?_
   iterate 7 refine sN ?_
   iterate 2 refine tN ?_
   exact bN
  have HF:Hid (ok=false):=HN.out (fun h=>hm0 h.1.1)
  have hm:decide (1≤m∧m≤20)=false:=decide_eq_false hm0
  clear hm0
  go_wp2_with fail
  refine wp_region_held_drew (S:=fun w'=>w'.cell? ⟨g,o+k*3,none⟩=some (.int .i64 m)∧w'.cell? ⟨g,o+k*3+1,none⟩=some (.int .i64 p)∧w'.cell? ⟨g,o+k*3+2,none⟩=some (.int .i64 t)) (by kernel_rfl) ⟨c1,c2,c3⟩ (fun hHeld=>?_)
  refine t0 ?_
  iterate 4 refine tN ?_
  refine rq1 5 (fun K hK=>?_)
  go_simp
  refine (j1 _ _).mono ?_
  rintro e w1 ⟨rfl,rfl⟩
  rw [hm]
  go_wp2_with fail
  refine hK.out _ _ ⟨c1,c2,c3⟩ (fun hHeld=>?_)
  clear hK K
  try simp only [Act.put,PZ]
  iterate 2 refine tN ?_
  iterate 7 refine sN ?_
  iterate 2 refine tN ?_
  iterate 7 refine sN ?_
  iterate 2 refine tN ?_
  exact bN
 obtain rfl:k=n:=by omega
 by_cases h8:k≤8
 ·
  have h8':(k:Int)≤8:=by omega
  have HT:Hid (ok=true):=HO.out.2 ⟨h8,HA.out⟩
  go_wp2_with fail
  go_ret
  exact ⟨fQ HT.out.symm,hB⟩
 have h8':¬ (k:Int)≤8:=by omega
 have HF:Hid (ok=false):=by
  show ok=false
  rw [Bool.eq_false_iff]
  intro e
  exact h8 (HO.out.1 e).1
 go_wp2_with fail
 go_ret
 exact ⟨fQ HF.out.symm,hB⟩
end Go.Proofs.YtfcfpkibceepgaaGreat
