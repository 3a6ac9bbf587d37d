import Derived.Test.YtjippgbmmlcgoaaGreatDoorB05
import Derived.Test.YtjippgbmmlcgoaaGreatDoorB06
import Derived.Deep.MidRow
import Derived.Laws.Rows
import Derived.Laws.Tables
import Derived.Lib.AppendZeros
import Derived.Room.AppendFits
namespace Go.Proofs.YtjippgbmmlcgoaaGreatDoor
open Go.RowKit
set_option linter.unusedVariables false
set_option linter.unusedSimpArgs false
variable {K:Act→World→Prop} {ops:Array Oper} {arr cs cur:Array Value} {rest:List Oper} {b2 base base' c c' cQ gD gE gS i j k n n' o q x:Nat} {f f':Nat→Int} {C:Nat→Nat} {F:Nat→Value} {Q:Option (Option Addr)} {a a' aD aQ:Option Addr} {B D E E1 E2 S:Option Nat} {p:Prop} {A:Swg} {t:TypeId} {v:Value} {W W' w w':World}
theorem ck (h:p:=by
 show (5-(iJ R).d c).toNat*(iJ R).nQ+An (iU (iJ R)) c<(5-R.d c).toNat*R.nQ+An R c
 rw [jU]
 by_cases e:R.now=c
 ·
  rw [if_pos e] at hf
  subst e
  have hd:=xe R
  unfold An at *
  rw [if_pos rfl]
  by_cases hfr:R.fresh=true
  ·
   rw [if_pos hfr] at hd ⊢
   obtain ⟨a,ha⟩:∃ a,(5-R.d R.now).toNat=(5-(iJ R).d R.now).toNat+1+a:=⟨(5-R.d R.now).toNat-((5-(iJ R).d R.now).toNat+1),by omega⟩
   rw [ha,Nat.add_mul,Nat.add_mul,Nat.one_mul]
   omega
  rw [if_neg hfr] at hd ⊢
  rw [hd]
  omega
 rw [if_neg e] at hf
 have hfe:An (iJ R) c=An R c:=by
  unfold An
  rw [jP,jU,if_neg e,if_neg e]
 rw [hfe] at hf
 rw [Cf (fun e2=>e e2.symm)]
 omega):p:=h
theorem cm (h:p:=by
 intro x hx hy
 have h1:=(h.blk x hx).2
 have h2:=(h'.blk x hy).1
 omega):p:=h
theorem ct (h:p:=by
 show (((R.now+1) % R.nQ:Nat):Int)<R.nQ
 have:=Nat.mod_lt (R.now+1) (show R.nQ > 0 by omega)
 omega):p:=h
theorem cw (h:p:=by
 show (5-R.d c).toNat*R.nQ+An (iU R) c<(5-R.d c).toNat*R.nQ+An R c
 omega):p:=h
theorem cx (h:p:=by
 rcases h with rfl | ⟨g,rfl,_,hr⟩
 ·
  exact iP.nil _ _ _
 exact hr.read):p:=h
theorem sa {w1:World} {A B C:Obj} (h:Below (((w.alloc A).alloc B).alloc C).heap.size (((w.alloc A).alloc B).alloc C) w1) :
  w1.heap[w.heap.size]?=some A∧w1.heap[w.heap.size+1]?=some B∧w1.heap[w.heap.size+1+1]?=some C∧Below w.heap.size w w1∧w.heap.size+3≤w1.heap.size:=by
 have e1:(w.alloc A).heap.size=w.heap.size+1:=by simp
 have e2:((w.alloc A).alloc B).heap.size=w.heap.size+1+1:=by simp
 have e3:(((w.alloc A).alloc B).alloc C).heap.size=w.heap.size+1+1+1:=by simp
 rw [e3] at h
 have b1:=im w A
 have b2:=im (w.alloc A) B
 rw [e1] at b2
 have b3:=im ((w.alloc A).alloc B) C
 rw [e2] at b3
 refine ⟨?_,?_,?_,?_,?_⟩
 ·
  rw [h.block _ (by omega),iH _ (by rw [e2];omega),iH _ (by rw [e1];omega)];exact b1
 ·
  rw [h.block _ (by omega),iH _ (by rw [e2];omega)];exact b2
 ·
  rw [h.block _ (by omega)];exact b3
 ·
  exact ((((Below.refl _ _).alloc (Nat.le_refl _) _).alloc (by rw [e1];omega) _).alloc (by rw [e2];omega) _).trans (h.mono (by omega))
 have:=h.size
 omega
theorem wy {R:Rnd} (h:R.Small):R.Fit:=⟨by have:=h.q;unfold maxLen;omega,by have:=h.d;unfold maxLen;omega,by have:=h.s;unfold maxLen;omega,fun i hi=>by have:=h.l i hi;unfold maxLen;omega⟩
def VI (w:World) (base:Nat) (a:Option Addr) (n:Nat) (f:Nat→Int):Prop:=n=0∨∃ g,a=some ⟨g,0,none⟩∧base≤g∧ja g 2 n (fun i=>.int .i64 (f i)) n w
def jR (a:Option Addr) (n:Nat):List Nat:=if n=0 then [] else (a.map (·.block)).toList
def ke (a:Option Addr) (n:Nat) (a':Option Addr) (n':Nat):Prop:=∀ x∈jR a n,x∉jR a' n'
theorem ke.symm (h:ke a n a' n'):ke a' n' a n:=fun x hx hy=>h x hy hx
theorem VI.read (h:VI w base a n f):iP w a n fun i=>.int .i64 (f i):=cx
theorem VI.up (h:VI w base a n f) (hb:Below w.heap.size w w'):VI w' base a n f :=
 h.imp id (by rintro ⟨g,ha,hg,hr⟩;exact ⟨g,ha,hg,hr.jQ (hb.block _ hr.lt)⟩)
theorem VI.mono (h:VI w base a n f) (hb:base'≤base):VI w base' a n f :=
 h.imp id (by rintro ⟨g,ha,hg,hr⟩;exact ⟨g,ha,by omega,hr⟩)
theorem oO {g:Nat} (h:n≠0):g∈jR (some ⟨g,0,none⟩) n:=by unfold jR;rw [if_neg h];simp
theorem VI.iu {S:List Nat} (h:VI w base a n f) (ht:Touch S w w') (hp:∀ x∈jR a n,x∉S):VI w' base a n f:=by
 rcases h with h | ⟨g,rfl,hg,hr⟩
 ·
  exact .inl h
 by_cases h0:n=0
 ·
  exact .inl h0
 exact .inr ⟨g,rfl,hg,hr.jQ (ht.block g hr.lt (hp g (oO h0)))⟩
theorem VI.blk (h:VI w base a n f):∀ x∈jR a n,base≤x∧x<w.heap.size:=by
 intro x hx
 unfold jR at hx
 split at hx
 ·
  simp at hx
 rcases h with h | ⟨g,rfl,hg,hr⟩
 ·
  contradiction
 simp at hx;subst hx;exact ⟨hg,hr.lt⟩
def kW (n:Nat) (f:Nat→Int):List Value:=(List.range n).map fun i=>.int .i64 (f i)
theorem qb (n:Nat) (f:Nat→Int):(kW n f).length=n:=by simp [kW]
theorem sH {u:Value} (h:(kW n f)[j]?=some u):j<n∧u=.int .i64 (f j):=by
 have hj:j<n:=by
  have:=(List.getElem?_eq_some_iff.1 h).1
  rwa [qb] at this
 refine ⟨hj,?_⟩
 simp [kW,hj] at h
 exact h.symm
theorem Du (h:j<n):(kW n f)[j]?=some (.int .i64 (f j)):=by simp [kW,h]
theorem wI (h:w.ownsRow base 2 1 v n (kW n f)):∃ a c,v=.slice a n c∧VI w base a n f:=by
 rcases h.2 with ⟨rfl,rfl⟩ | ⟨g,cap,cur,rfl,hb,hg,hnc,hcm,hcs,htake⟩
 ·
  exact ⟨none,0,rfl,.inl rfl⟩
 refine ⟨_,cap,rfl,.inr ⟨g,rfl,hb,cur,hg,by omega,fun i hi=>?_⟩⟩
 have e:(cur.toList.take (n*1))[i]?=some (.int .i64 (f i)):=by rw [htake];exact Du hi
 rw [List.getElem?_take_of_lt (by omega)] at e
 simpa using e
theorem Fh {g:Nat} (h:W.ownsRow base 2 1 v 0 []) (hb:base≤W.heap.size) (hn:n≤1048576) (hc:∀ i,i<n→W.cell? ⟨g,q+i,none⟩=some (.int .i64 (f i))) :
  ∃ a' c' W',(Builtin.append_ #[27,27] 27 #[v,.slice (some ⟨g,q,none⟩) n c]).run Tryz.prog W=.ok (.slice a' n c') W'∧VI W' base a' n f∧W.grownBy W' v.ownBlock∧(∀ x∈jR a' n,some x=v.ownBlock∨x=W.heap.size):=by
 obtain ⟨i0,hi,hz0,hz1,hz2⟩:=info_parts rD
 obtain ⟨v',w',hr,h2,h3,h4,h5⟩:=run_append_own_at (P:=Tryz.prog) W base 27 27 2 i0 (.int .i64 0) 1 8 Tryz.underlying27 hi hz0 hz1 hz2 rfl (by decide) v 0 [] h ⟨g,q,none⟩ n c (kW n f) (by rw [qb];omega) (fun j u hj=>by
  obtain ⟨hjn,rfl⟩:=sH hj
  have e:(⟨g,q,none⟩:Addr).add j=⟨g,q+j,none⟩:=by unfold Addr.add;split <;> simp_all
  rw [e];exact hc j hjn) (fun u hu=>by
  obtain ⟨j,_,rfl⟩:=List.mem_map.1 hu
  rfl) (by unfold maxLen;omega) (by omega) hb
 rw [Nat.zero_add,List.nil_append] at h2
 obtain ⟨a',c',rfl,hv⟩:=wI h2
 refine ⟨a',c',w',hr,hv,h3,fun x hx=>?_⟩
 unfold jR at hx
 split at hx
 ·
  simp at hx
 rename_i hn0
 rcases hv with h0 | ⟨g',rfl,_,_⟩
 ·
  exact absurd h0 hn0
 simp at hx
 subst hx
 rcases h5 with h5 | h5
 ·
  exact .inl h5
 right
 simpa [Value.ownBlock] using h5
def VS (w:World) (base:Nat) (a:Option Addr) (n:Nat) (F:Nat→Value):Prop:=n=0∨∃ g,a=some ⟨g,0,none⟩∧base≤g∧ja g 27 n F n w
theorem VS.up (h:VS w base a n F) (hb:Below w.heap.size w w'):VS w' base a n F :=
 h.imp id (by rintro ⟨g,ha,hg,hr⟩;exact ⟨g,ha,hg,hr.jQ (hb.block _ hr.lt)⟩)
theorem VS.mono (h:VS w base a n F) (hb:base'≤base):VS w base' a n F :=
 h.imp id (by rintro ⟨g,ha,hg,hr⟩;exact ⟨g,ha,by omega,hr⟩)
theorem VS.read (h:VS w base a n F):iP w a n F:=cx
def qT:Array Value:=#[.slice none 0 0,.slice none 0 0,.int .i64 0,.bool false,.slice none 0 0]
structure Mk (n:Nat) (f:Nat→Int) (w W:World) (E:Option Nat) (Q:Option (Option Addr)) (D S B:Option Nat):Prop where
 below:Below w.heap.size w W
 e:∀ g,E=some g→w.heap.size≤g∧W.heap[g]?=some (.cells #[] 2 (0,0))
 q:∀ a,Q=some a→VI W w.heap.size a n f
 d:∀ g,D=some g→VI W w.heap.size (some ⟨g,0,none⟩) n (fun _=>0)
 s:∀ g,S=some g→VS W w.heap.size (some ⟨g,0,none⟩) n (fun _=>.slice none 0 0)
 b:∀ g,B=some g→w.heap.size≤g∧W.heap[g]?=some (.cells qT 45 (0,0))
 qd:∀ a g,Q=some a→D=some g→ke a n (some ⟨g,0,none⟩) n
theorem Mk.start (h:Below w.heap.size w W):Mk n f w W none none none none none :=
 ⟨h,fun _ e=>by simp at e,fun _ e=>by simp at e,fun _ e=>by simp at e,fun _ e=>by simp at e,fun _ e=>by simp at e,fun _ _ e=>by simp at e⟩
theorem Mk.up (h:Mk n f w W E Q D S B) (hb:Below W.heap.size W W'):Mk n f w W' E Q D S B where
 below:=h.below.trans (hb.mono h.below.size)
 e:=fun g e=>⟨(h.e g e).1,(hb.block _ (ig (h.e g e).2)).trans (h.e g e).2⟩
 q:=fun a e=>(h.q a e).up hb
 d:=fun g e=>(h.d g e).up hb
 s:=fun g e=>(h.s g e).up hb
 b:=fun g e=>⟨(h.b g e).1,(hb.block _ (ig (h.b g e).2)).trans (h.b g e).2⟩
 qd:=h.qd
theorem CA {g:Nat} (h:VI W base a n f) (hg:W.heap.size≤g):ke a n (some ⟨g,0,none⟩) n:=by
 intro x hx hy
 have h1:=(h.blk x hx).2
 unfold jR at hy
 split at hy
 ·
  simp at hy
 simp at hy;omega
theorem Mk.mkE (h:Mk n f w W none Q D S B):Mk n f w (W.alloc (.cells #[] 2)) (some W.heap.size) Q D S B:=by
 have h':=h.up (W':=W.alloc (.cells #[] 2)) ((Below.refl _ _).alloc (Nat.le_refl _) _)
 exact ⟨h'.below,fun g e=>by cases e;exact ⟨h.below.size,im _ _⟩,h'.q,h'.d,h'.s,h'.b,h'.qd⟩
theorem Mk.mkB (h:Mk n f w W E Q D S none):Mk n f w (W.alloc (.cells qT 45)) E Q D S (some W.heap.size):=by
 have h':=h.up (W':=W.alloc (.cells qT 45)) ((Below.refl _ _).alloc (Nat.le_refl _) _)
 exact ⟨h'.below,h'.e,h'.q,h'.d,h'.s,fun g e=>by cases e;exact ⟨h.below.size,im _ _⟩,h'.qd⟩
theorem Mk.mkD (h:Mk n f w W E Q none S B):Mk n f w (W.alloc (.cells (jV n) 2)) E Q (some W.heap.size) S B:=by
 have h':=h.up (W':=W.alloc (.cells (jV n) 2)) ((Below.refl _ _).alloc (Nat.le_refl _) _)
 exact ⟨h'.below,h'.e,h'.q,fun g e=>by cases e;exact .inr ⟨_,rfl,h.below.size,pL (im _ _)⟩,h'.s,h'.b,fun a g e1 e2=>by cases e2;exact CA (h.q a e1) (Nat.le_refl _)⟩
theorem Mk.mkS (h:Mk n f w W E Q D none B):Mk n f w (W.alloc (.cells (sZ n) 27)) E Q D (some W.heap.size) B:=by
 have h':=h.up (W':=W.alloc (.cells (sZ n) 27)) ((Below.refl _ _).alloc (Nat.le_refl _) _)
 exact ⟨h'.below,h'.e,h'.q,h'.d,fun g e=>by cases e;exact .inr ⟨_,rfl,h.below.size,uq (im _ _)⟩,h'.b,h'.qd⟩
theorem Mk.mkEQ (h:Mk n f w W (some gE) none D S B) (hv:VI W' w.heap.size a n f) (hg:W.grownBy W' (some gE)) (hp:∀ x∈jR a n,some x=some gE∨x=W.heap.size):Mk n f w W' none (some a) D S B:=by
 have hE:=h.e gE rfl
 have hd:∀ g,D=some g→n≠0→g≠gE:=fun g e h0 e2=>by
  subst e2
  rcases h.d g e with h1 | ⟨g',e3,_,arr,h2,h3,_⟩
  ·
   exact h0 h1
  cases e3
  rw [hE.2] at h2
  cases h2
  simp at h3
  exact h0 h3
 have hs:∀ g,S=some g→n≠0→g≠gE:=fun g e h0 e2=>by
  subst e2
  rcases h.s g e with h1 | ⟨g',e3,_,arr,h2,h3,_⟩
  ·
   exact h0 h1
  cases e3
  rw [hE.2] at h2
  cases h2
 have hbk:∀ k,k<W.heap.size→k≠gE→W'.heap[k]?=W.heap[k]?:=fun k hk hne=>hg.block k hk (by simpa using hne)
 refine ⟨h.below.grown hg h.below.size (fun k e=>by cases e;exact hE.1),fun _ e=>by simp at e,fun a' e=>by cases e;exact hv,fun g e=>?_,fun g e=>?_,fun g e=>?_,fun a' g e1 e2=>?_⟩
 ·
  by_cases h0:n=0
  ·
   exact .inl h0
  rcases h.d g e with h1 | ⟨g',e3,hg2,hr⟩
  ·
   exact absurd h1 h0
  cases e3
  exact .inr ⟨g,rfl,hg2,hr.jQ (hbk g hr.lt (hd g e h0))⟩
 ·
  by_cases h0:n=0
  ·
   exact .inl h0
  rcases h.s g e with h1 | ⟨g',e3,hg2,hr⟩
  ·
   exact absurd h1 h0
  cases e3
  exact .inr ⟨g,rfl,hg2,hr.jQ (hbk g hr.lt (hs g e h0))⟩
 ·
  have hb:=h.b g e
  refine ⟨hb.1,(hbk g (ig hb.2) ?_).trans hb.2⟩
  rintro rfl
  rw [hE.2] at hb
  have:=hb.2
  simp at this
 cases e1
 intro x hx hy
 have h2:=((h.d g e2).blk x hy).2
 have h0:n≠0:=by
  intro h0
  subst h0
  simp [jR] at hx
 have h3:x=g:=by
  unfold jR at hy
  rw [if_neg h0] at hy
  simpa using hy
 rcases hp x hx with e | e
 ·
  have e':x=gE:=by simpa using e
  exact hd g e2 h0 (h3▸e')
 omega
theorem jz {o:Oper} {a:Act} {Q:Exit→Act→World→Prop} {c:Prop} [Decidable c] {E:Prop} (hc:c) (d:Option Tmp) (s x:Operand) (t:TypeId) (vs vx v:Value) (hd:o.dst=d)
  (ho:o.op=.call { callee:=.builtin .append,args:=#[s,x],argTypes:=#[t,t] }) (hty:o.type=t) (hs:a.eval s=vs) (hx:a.eval x=vx)
  (hr:(Builtin.append_ #[t,t] t #[vs,vx]).run Tryz.prog W=.ok v W') (h:K (a.put d v) W'):if c then o.wp Tryz.prog a W K Q else E:=by
 subst hd
 exact uv hc s x t vs vx v ho hty hs hx hr h
theorem jf {o:Oper} {a:Act} {Q:Exit→Act→World→Prop} {c:Prop} [Decidable c] {E:Prop} (hc:c) (d:Option Tmp) (l:Operand) (t:TypeId) (vl v:Value) (hd:o.dst=d)
  (ho:o.op=.makeSlice t l l) (hl:a.eval l=vl) (hr:(Instr.makeSlice t vl vl).run Tryz.prog W=.ok v W') (h:K (a.put d v) W'):if c then o.wp Tryz.prog a W K Q else E:=by
 subst hd
 rw [if_pos hc]
 unfold Oper.wp execOp
 simp only [ho,Sem.run_bind,Sem.run_pure,Result.andThen_ok,hl]
 simp only [hr,Result.andThen_ok]
 exact h
theorem Mk.xU (h:Mk n f w W E Q none S B) (hn:n≤1048576) :
  ∃ gD W',(Instr.makeSlice 27 (.int .i64 (n:Int)) (.int .i64 (n:Int))).run Tryz.prog W=.ok (.slice (some ⟨gD,0,none⟩) n n) W'∧Mk n f w W' E Q (some gD) S B:=⟨_,_,pT n hn W,h.mkD⟩
theorem Mk.AH (h:Mk n f w W E Q D none B) (hn:n≤1048576) :
  ∃ gS W',(Instr.makeSlice 43 (.int .i64 (n:Int)) (.int .i64 (n:Int))).run Tryz.prog W=.ok (.slice (some ⟨gS,0,none⟩) n n) W'∧Mk n f w W' E Q D (some gS) B:=⟨_,_,uZ n hn W,h.mkS⟩
theorem Mk.tS (h:Mk n f w W E Q D S none) :
  ∃ gB W',gB=W.heap.size∧W'=W.alloc (.cells ae 45)∧Mk n f w W' E Q D S (some gB):=⟨_,_,rfl,rfl,h.mkB⟩
theorem Mk.D6 (h:Mk n f w W none Q D S B) :
  ∃ gE W',gE=W.heap.size∧W'=W.alloc (.cells #[] 2)∧Mk n f w W' (some gE) Q D S B:=⟨_,_,rfl,rfl,h.mkE⟩
theorem om {g:Nat} (hb:base≤g) (h:W.heap[g]?=some (.cells #[] 2 (0,0))):W.ownsRow base 2 1 (.slice (some ⟨g,0,none⟩) 0 0) 0 [] :=
 ⟨rfl,.inr ⟨g,0,#[],rfl,hb,h,Nat.le_refl _,by unfold maxLen;omega,rfl,rfl⟩⟩
theorem Mk.wC {g:Nat} (c:Nat) (h:Mk n f w W (some gE) none D S B) (hn:n≤1048576) (hr:iP W (some ⟨g,q,none⟩) n fun i=>.int .i64 (f i)) :
  ∃ aQ cQ W',(Builtin.append_ #[27,27] 27 #[.slice (some ⟨gE,0,none⟩) 0 0,.slice (some ⟨g,q,none⟩) n c]).run Tryz.prog W=.ok (.slice aQ n cQ) W'∧Mk n f w W' none (some aQ) D S B:=by
 have hE:=h.e gE rfl
 obtain ⟨a',c',W',h1,h2,h3,h4⟩:=Fh (c:=c) (om hE.1 hE.2) h.below.size hn (fun i hi=>by
  obtain ⟨g',o',e,hc⟩:=hr i hi
  cases e
  exact hc)
 exact ⟨a',c',W',h1,h.mkEQ h2 h3 h4⟩
structure jy (w:World) (base:Nat) (R:Rnd):Prop where
 q:VI w base R.aQ R.nQ R.q
 d:VI w base R.aD R.nD R.d
 s:VS w base R.aS R.nS fun i=>.slice (R.A i) (R.L i) (R.C i)
 z:∀ i,i<R.nS→VI w base (R.A i) (R.L i) (R.z i)
 qd:ke R.aQ R.nQ R.aD R.nD
 qz:∀ i,i<R.nS→ke R.aQ R.nQ (R.A i) (R.L i)
 dz:∀ i,i<R.nS→ke R.aD R.nD (R.A i) (R.L i)
 zz:∀ i j,i<R.nS→j<R.nS→i≠j→ke (R.A i) (R.L i) (R.A j) (R.L j)
theorem jy.rd {R:Rnd} (h:jy w base R):mN w R:=⟨h.q.read,h.d.read,h.s.read,fun i hi=>(h.z i hi).read⟩
theorem jy.up {R:Rnd} (h:jy w base R) (hb:Below w.heap.size w w'):jy w' base R :=
 ⟨h.q.up hb,h.d.up hb,h.s.up hb,fun i hi=>(h.z i hi).up hb,h.qd,h.qz,h.dz,h.zz⟩
theorem jy.mono {R:Rnd} (h:jy w base R) (hb:base'≤base):jy w base' R :=
 ⟨h.q.mono hb,h.d.mono hb,h.s.mono hb,fun i hi=>(h.z i hi).mono hb,h.qd,h.qz,h.dz,h.zz⟩
theorem jy.kk {R:Rnd} {S:List Nat} (h:jy w base R) (ht:Touch S w w') (hS:∀ x∈S,x<base):jy w' base R :=
 have key:∀ {a:Option Addr} {n:Nat} {f:Nat→Int},VI w base a n f→VI w' base a n f:=fun hv=>hv.iu ht (fun x hx hx2=>by
  have h1:=(hv.blk x hx).1
  have h2:=hS x hx2
  omega)
 ⟨key h.q,key h.d,h.s.imp id (by
  rintro ⟨g,ha,hg,hr⟩
  exact ⟨g,ha,hg,hr.jQ (ht.block g hr.lt (fun hx=>by have:=hS g hx;omega))⟩),fun i hi=>key (h.z i hi),h.qd,h.qz,h.dz,h.zz⟩
def ub (n:Nat) (f:Nat→Int) (aQ:Option Addr) (cQ gD gS:Nat):Rnd :=
 ⟨aQ,n,cQ,f,some ⟨gD,0,none⟩,n,n,fun _=>0,0,true,some ⟨gS,0,none⟩,n,n,fun _=>none,fun _=>0,fun _=>0,fun _ _=>0⟩
def zR:Rnd:=⟨none,0,0,fun _=>0,none,0,0,fun _=>0,0,false,none,0,0,fun _=>none,fun _=>0,fun _=>0,fun _ _=>0⟩
theorem D0 (w:World) (base:Nat):jy w base zR :=
 ⟨.inl rfl,.inl rfl,.inl rfl,fun i hi=>.inl rfl,fun x hx=>by simp [jR,zR] at hx,fun i _ x hx=>by simp [jR,zR] at hx,fun i _ x hx=>by simp [jR,zR] at hx,fun i j _ _ _ x hx=>by simp [jR,zR] at hx⟩
theorem ET {aQ':Option Addr} {cQ' gD' gS':Nat}:(ub n f aQ cQ gD gS).Ok↔(ub n f aQ' cQ' gD' gS').Ok:=⟨fun h=>⟨h.n,h.d,h.s,h.t,h.c⟩,fun h=>⟨h.n,h.d,h.s,h.t,h.c⟩⟩
theorem Dj (hn:n≤1048576):(ub n f aQ cQ gD gS).Fit :=
 have h:n≤maxLen:=by unfold maxLen;omega
 ⟨h,h,h,fun i hi=>Nat.zero_le _⟩
structure Alike (R1 R2:Rnd):Prop where
 nQ:R2.nQ=R1.nQ
 q:R2.q=R1.q
 nD:R2.nD=R1.nD
 d:R2.d=R1.d
 t:R2.turn=R1.turn
 f:R2.fresh=R1.fresh
 nS:R2.nS=R1.nS
 l:R2.L=R1.L
 z:R2.z=R1.z
theorem Alike.refl (R:Rnd):Alike R R:=⟨rfl,rfl,rfl,rfl,rfl,rfl,rfl,rfl,rfl⟩
theorem Alike.symm {A B:Rnd} (h:Alike A B):Alike B A:=⟨h.nQ.symm,h.q.symm,h.nD.symm,h.d.symm,h.t.symm,h.f.symm,h.nS.symm,h.l.symm,h.z.symm⟩
theorem Alike.trans {A B C:Rnd} (h:Alike A B) (k:Alike B C):Alike A C:=⟨k.nQ.trans h.nQ,k.q.trans h.q,k.nD.trans h.nD,k.d.trans h.d,k.t.trans h.t,k.f.trans h.f,k.nS.trans h.nS,k.l.trans h.l,k.z.trans h.z⟩
def Gq (n:Nat) (f:Nat→Int) (ok:Bool):Rnd:=if ok then ub n f none 0 0 0 else zR
def sg (w:World) (g:Nat) (v0 v1 v2 v3 v4:Value):World:=((((w.setCell ⟨g,0,none⟩ v0).setCell ⟨g,1,none⟩ v1).setCell ⟨g,2,none⟩ v2).setCell ⟨g,3,none⟩ v3).setCell ⟨g,4,none⟩ v4
theorem jv (w:World) (g:Nat) (v0 v1 v2 v3 v4:Value):Touch [g] w (sg w g v0 v1 v2 v3 v4) :=
 (((((Touch.refl [g] w).set (by simp) 0 v0).set (by simp) 1 v1).set (by simp) 2 v2).set (by simp) 3 v3).set (by simp) 4 v4
theorem ln {g:Nat} {x0 x1 x2 x3 x4:Value} (h:w.heap[g]?=some (.cells #[x0,x1,x2,x3,x4] t (0,0))) (v0 v1 v2 v3 v4:Value):(sg w g v0 v1 v2 v3 v4).heap[g]?=some (.cells #[v0,v1,v2,v3,v4] t (0,0)) :=
 iL (i:=4) (iL (i:=3) (iL (i:=2) (iL (i:=1) (iL (i:=0) h v0) v1) v2) v3) v4
structure Made (n:Nat) (f:Nat→Int) (w W:World) (aQ:Option Addr) (cQ gD gS gB:Nat):Prop where
 below:Below w.heap.size w W
 own:jy W w.heap.size (ub n f aQ cQ gD gS)
 lo:w.heap.size≤gB
 b:W.heap[gB]?=some (.cells #[.slice aQ n cQ,.slice (some ⟨gD,0,none⟩) n n,.int .i64 0,.bool true,.slice (some ⟨gS,0,none⟩) n n] 45 (0,0))
theorem Mk.made {gB:Nat} (cQ:Nat) (h:Mk n f w W none (some aQ) (some gD) (some gS) (some gB)) :
  Made n f w (sg W gB (.slice aQ n cQ) (.slice (some ⟨gD,0,none⟩) n n) (.int .i64 0) (.bool true) (.slice (some ⟨gS,0,none⟩) n n)) aQ cQ gD gS gB:=by
 have hb:=h.b gB rfl
 have ht:=jv W gB (.slice aQ n cQ) (.slice (some ⟨gD,0,none⟩) n n) (.int .i64 0) (.bool true) (.slice (some ⟨gS,0,none⟩) n n)
 have key:∀ {a:Option Addr} {m:Nat} {z:Nat→Int},VI W w.heap.size a m z→∀ x∈jR a m,x∉[gB]:=by
  intro a m z hv x hx hx2
  simp at hx2
  subst hx2
  unfold jR at hx
  split at hx
  ·
   simp at hx
  rename_i h0
  rcases hv with h1 | ⟨g',rfl,_,arr,h2,_⟩
  ·
   exact h0 h1
  simp at hx
  subst hx
  rw [hb.2] at h2
  simp at h2
 refine ⟨h.below.trans (ht.below h.below.size (fun x hx=>by simp at hx;subst hx;exact hb.1)),⟨(h.q aQ rfl).iu ht (key (h.q aQ rfl)),(h.d gD rfl).iu ht (key (h.d gD rfl)),(h.s gS rfl).imp id ?_,fun i _=>.inl rfl,h.qd aQ gD rfl rfl,fun i _ x _ hx=>?_,fun i _ x _ hx=>?_,fun i j _ _ _ x hx=>?_⟩,hb.1,ln hb.2 _ _ _ _ _⟩
 ·
  rintro ⟨g,ha,hg,hr⟩
  refine ⟨g,ha,hg,hr.jQ (ht.block g hr.lt ?_)⟩
  intro hx
  simp at hx
  subst hx
  obtain ⟨arr,h2,_⟩:=hr
  rw [hb.2] at h2
  simp at h2
 ·
  simp [jR,ub] at hx
 ·
  simp [jR,ub] at hx
 simp [jR,ub] at hx
theorem yR (h:VI w base a n f) {g:Nat} (ht:t≠2) (hg:w.heap[g]?=some (.cells arr t (0,0))):g∉jR a n:=by
 intro hx
 unfold jR at hx
 split at hx
 ·
  simp at hx
 rename_i h0
 rcases h with h1 | ⟨g',rfl,_,arr',h2,_⟩
 ·
  exact h0 h1
 simp at hx
 subst hx
 rw [hg] at h2
 simp at h2
 exact ht h2.2
theorem VS.AU {S:List Nat} (h:VS w base a n F) (ht:Touch S w w') (hS:∀ g arr,w.heap[g]?=some (.cells arr 27 (0,0))→g∉S):VS w' base a n F :=
 h.imp id (by
  rintro ⟨g,ha,hg,hr⟩
  refine ⟨g,ha,hg,hr.jQ (ht.block g hr.lt ?_)⟩
  obtain ⟨arr,h2,_⟩:=hr
  exact hS g arr h2)
theorem ir {o:Oper} {a:Act} {Q:Exit→Act→World→Prop} (hg:o.guard=none) (ty:TypeId) (n:Nat) (d:TypeDesc) (hu:Tryz.prog.underlying ty=some d) (hd:d.isRow=true) (hi:(Tryz.prog.info? ty).map (·.size)=some n) (x:Operand) (ho:o.op=.load ty x) (b off:Nat) (hx:a.eval x=.pointer (some ⟨b,off,none⟩))
  (cs:Array Value) (hs:cs.size=n) (hc:∀ j,j<n→w.cell? ⟨b,off+j,none⟩=cs[j]?) (h:wpList Tryz.prog ops Q rest (a.put o.dst (.agg cs)) w):wpList Tryz.prog ops Q (o :: rest) a w :=
 wpList_load_mid hg ty x ho b off hx cs.toList d (fun j v hv=>by
  have hj:j<n:=by
   have:=(List.getElem?_eq_some_iff.1 hv).1
   rw [Array.length_toList] at this
   omega
  rw [hc j hj,←Array.getElem?_toList]
  exact hv) hu hd (by rw [hi,Array.length_toList,hs]) (by rw [Array.toArray_toList];exact h)
def lay (cur:Array Value) (o:Nat) (cs:Array Value):Array Value:=(cur.toList.take o++cs.toList++cur.toList.drop (o+cs.size)).toArray
theorem kp (h:o+cs.size≤cur.size):(lay cur o cs).size=cur.size:=by
 unfold lay
 simp
 omega
theorem lv (h:o+cs.size≤cur.size) (j:Nat) (hj:j<cs.size):(lay cur o cs)[o+j]?=cs[j]?:=by
 unfold lay
 simp only [List.getElem?_toArray]
 rw [List.append_assoc,List.getElem?_append_right (by simp;omega),List.getElem?_append_left (by simp;omega)]
 simp only [List.length_take,Array.length_toList,Array.getElem?_toList]
 congr 1
 omega
theorem ox (h:o+cs.size≤cur.size) (j:Nat) (hj:j<o):(lay cur o cs)[j]?=cur[j]?:=by
 unfold lay
 simp only [List.getElem?_toArray]
 rw [List.append_assoc,List.getElem?_append_left (by simp;omega),List.getElem?_take,if_pos hj,Array.getElem?_toList]
structure Put (w W:World) (g:Nat) (cs:Array Value) (t:TypeId):Prop where
 blk:W.heap[g]?=some (.cells cs t (0,0))
 to:Touch [g] w W
 size:W.heap.size=w.heap.size
theorem Put.cast {g:Nat} {cs':Array Value} (h:Put w W g cs t) (e:cs=cs'):Put w W g cs' t:=e▸h
theorem tW {g:Nat} (hg:w.heap[g]?=some (.cells cur t (0,0))) (cs:Array Value):Put w (w.setRow g cs) g cs t :=
 ⟨setRow_heap w g cur cs t (0,0) hg,⟨rfl,rfl,rfl,by simp,fun k _ hk=>setRow_other w g k cs (by simpa using hk)⟩,by simp⟩
theorem nZ (w:World) (g off:Nat) (t ty:TypeId) (cur:Array Value) (v:Value) (hg:w.heap[g]?=some (.cells cur t (0,0))) (hi:(Tryz.prog.info? ty).map (·.size)=some v.cells.size) (hf:off+v.cells.size≤cur.size) (h1:v.cells.all (·.oneCell')=true) :
  (storeVar ty ⟨g,off,none⟩ v).run Tryz.prog w=.ok () (w.setRow g (lay cur off v.cells)):=by
 have:=run_storeCells_at (P:=Tryz.prog) g off t v.cells.toList 0 cur w hg (by simpa using hf) (fun x hx=>(Array.all_eq_true_iff_forall_mem.1 h1) x (by simpa using hx))
 simp only [Nat.add_zero,Array.length_toList] at this
 cases hq:Tryz.prog.info? ty with
 | none=>simp [hq] at hi
 | some i =>
  have hs:v.cells.size=i.size:=by simp [hq] at hi;omega
  simp [storeVar,sizeOf,typeInfo,hq,hs,this,lay]
theorem iq {o:Oper} {a:Act} {Q:Exit→Act→World→Prop} (hgd:o.guard=none) (ty:TypeId) (x y:Operand) (ho:o.op=.store ty x y) (g off:Nat) (hx:a.eval x=.pointer (some ⟨g,off,none⟩))
  (v:Value) (hy:a.eval y=v) (n:Nat) (hn:v.cells.size=n) (t:TypeId) (cur:Array Value) (hg:w.heap[g]?=some (.cells cur t (0,0))) (hi:(Tryz.prog.info? ty).map (·.size)=some n) (hf:off+n≤cur.size) (h1:v.cells.all (·.oneCell')=true)
  (h:∀ W,Put w W g (lay cur off v.cells) t→wpList Tryz.prog ops Q rest (a.put o.dst undef) W):wpList Tryz.prog ops Q (o :: rest) a w:=by
 subst hn
 refine wpList_plain hgd fun _ hK=>?_
 unfold Oper.wp execOp
 simp only [ho,hx,hy,Instr.storeAt,Instr.sureAddr,Sem.run_bind,Sem.run_pure,Result.andThen_ok,nZ w g off t ty cur v hg hi hf h1]
 exact hK _ _ (h _ (tW hg _))
def DW (t:TypeId) (g o n:Nat) (f:Nat→Value) (w:World):Prop:=∃ arr:Array Value,w.heap[g]?=some (.cells arr t (0,0))∧o+n≤arr.size∧∀ i,i<n→arr[o+i]?=some (f i)
theorem DW.lt {g:Nat} {f:Nat→Value} (h:DW t g o n f w):g<w.heap.size:=by
 obtain ⟨arr,h1,_⟩:=h
 exact ig h1
theorem DW.jQ {g:Nat} {f:Nat→Value} (h:DW t g o n f w) (hb:w'.heap[g]?=w.heap[g]?):DW t g o n f w':=by
 obtain ⟨arr,h1,h2⟩:=h
 exact ⟨arr,hb.trans h1,h2⟩
theorem DW.read {g:Nat} {f:Nat→Value} (h:DW t g o n f w):iP w (some ⟨g,o,none⟩) n f:=fun i hi=>by
 obtain ⟨arr,h1,h2,h3⟩:=h
 exact ⟨g,o,rfl,(ie h1 _).trans (h3 i hi)⟩
theorem ja.g {g:Nat} {f:Nat→Value} (h:ja g t n f n w):DW t g 0 n f w:=by
 obtain ⟨arr,h1,h2,h3⟩:=h
 exact ⟨arr,h1,by omega,fun i hi=>by rw [Nat.zero_add];exact h3 i hi⟩
def VG (t:TypeId) (w:World) (base:Nat) (a:Option Addr) (n:Nat) (f:Nat→Value):Prop:=n=0∨∃ g o,a=some ⟨g,o,none⟩∧base≤g∧DW t g o n f w
section
variable {t : TypeId} {w w' : World} {base base' : Nat} {a : Option Addr} {n : Nat} {f : Nat → Value} {S : List Nat}
theorem VG.read (h:VG t w base a n f):iP w a n f:=by
 rcases h with rfl | ⟨g,o,rfl,_,hr⟩
 ·
  exact iP.nil _ _ _
 exact hr.read
theorem VG.up (h:VG t w base a n f) (hb:Below w.heap.size w w'):VG t w' base a n f :=
 h.imp id (by rintro ⟨g,o,ha,hg,hr⟩;exact ⟨g,o,ha,hg,hr.jQ (hb.block _ hr.lt)⟩)
theorem VG.mono (h:VG t w base a n f) (hb:base'≤base):VG t w base' a n f :=
 h.imp id (by rintro ⟨g,o,ha,hg,hr⟩;exact ⟨g,o,ha,by omega,hr⟩)
theorem DP {g:Nat} (h:n≠0):g∈ku (some ⟨g,o,none⟩) n:=by unfold ku;rw [if_neg h];simp
theorem VG.iu (h:VG t w base a n f) (ht:Touch S w w') (hp:∀ x∈ku a n,x∉S):VG t w' base a n f:=by
 rcases h with h | ⟨g,o,rfl,hg,hr⟩
 ·
  exact .inl h
 by_cases h0:n=0
 ·
  exact .inl h0
 exact .inr ⟨g,o,rfl,hg,hr.jQ (ht.block g hr.lt (hp g (DP h0)))⟩
theorem VG.blk (h:VG t w base a n f):∀ x∈ku a n,base≤x∧x<w.heap.size:=by
 intro x hx
 unfold ku at hx
 split at hx
 ·
  simp at hx
 rcases h with h | ⟨g,o,rfl,hg,hr⟩
 ·
  contradiction
 simp at hx;subst hx;exact ⟨hg,hr.lt⟩
theorem VG.type (h:VG t w base a n f):∀ x∈ku a n,∃ cs,w.heap[x]?=some (.cells cs t (0,0)):=by
 intro x hx
 unfold ku at hx
 split at hx
 ·
  simp at hx
 rcases h with h | ⟨g,o,rfl,hg,hr⟩
 ·
  contradiction
 simp at hx
 subst hx
 obtain ⟨cs,hc,_⟩:=hr
 exact ⟨cs,hc⟩
theorem VG.low (h:VG t w base a n f) (ht:Touch S w w') (hS:∀ x∈S,x<base):VG t w' base a n f :=
 h.iu ht (fun x hx hy=>by have:=(h.blk x hx).1;have:=hS x hy;omega)
end
theorem VT.g {f:Nat→Value} (h:VT t w base a n f):VG t w base a n f :=
 h.imp id (by rintro ⟨g,ha,hg,hr⟩;exact ⟨g,0,ha,hg,hr.g⟩)
theorem VI.g (h:VI w base a n f):VG 2 w base a n fun i=>.int .i64 (f i) :=
 h.imp id (by rintro ⟨g,ha,hg,hr⟩;exact ⟨g,0,ha,hg,hr.g⟩)
theorem VS.g {f:Nat→Value} (h:VS w base a n f):VG 27 w base a n f :=
 h.imp id (by rintro ⟨g,ha,hg,hr⟩;exact ⟨g,0,ha,hg,hr.g⟩)
def xg (K:Nat→Pkt) (j:Nat):Value:=((K (j / 8)).cells[j % 8]?).getD (.bool false)
theorem qj (K:Nat→Pkt) (i j:Nat) (h:j<8):some (xg K (i*8+j))=(K i).cells[j]?:=by
 unfold xg
 rw [show (i*8+j) / 8=i by omega,show (i*8+j) % 8=j by omega]
 rw [Array.getElem?_eq_getElem (by rw [Pkt.iY];exact h)]
 rfl
def xh (L:Nat→Lng) (j:Nat):Value:=((L (j / 8)).cells[j % 8]?).getD (.bool false)
theorem nF (L:Nat→Lng) (i j:Nat) (h:j<8):some (xh L (i*8+j))=(L i).cells[j]?:=by
 unfold xh
 rw [show (i*8+j) / 8=i by omega,show (i*8+j) % 8=j by omega]
 rw [Array.getElem?_eq_getElem (by rw [Lng.iY];exact h)]
 rfl
theorem VG.DB {f:Nat→Ent} (h:VG t w base a (n*3) (flat f)):lD w a n f:=by
 intro i hi
 obtain ⟨g,o,ha,h0⟩:=h.read (i*3) (by omega)
 obtain ⟨g1,o1,ha1,h1⟩:=h.read (i*3+1) (by omega)
 obtain ⟨g2,o2,ha2,h2⟩:=h.read (i*3+2) (by omega)
 rw [ha] at ha1 ha2
 cases ha1
 cases ha2
 rw [Am] at h0
 rw [DA] at h1
 rw [Al] at h2
 exact ⟨g,o,ha,h0,h1,h2⟩
theorem VG.pks {K:Nat→Pkt} (h:VG t w base a (n*8) (xg K)):pI w a n K:=by
 intro i hi
 obtain ⟨g,o,ha,h0⟩:=h.read (i*8) (by omega)
 refine ⟨g,o,ha,fun j hj=>?_⟩
 obtain ⟨g1,o1,ha1,h1⟩:=h.read (i*8+j) (by omega)
 rw [ha] at ha1
 cases ha1
 rw [qj K i j hj] at h1
 rw [Nat.add_assoc]
 exact h1
theorem VG.lns {L:Nat→Lng} (h:VG t w base a (n*8) (xh L)):Fj w a n L:=by
 intro i hi
 obtain ⟨g,o,ha,h0⟩:=h.read (i*8) (by omega)
 refine ⟨g,o,ha,fun j hj=>?_⟩
 obtain ⟨g1,o1,ha1,h1⟩:=h.read (i*8+j) (by omega)
 rw [ha] at ha1
 cases ha1
 rw [nF L i j hj] at h1
 rw [Nat.add_assoc]
 exact h1
def vP (n:Nat) (A:Nat→Option Addr) (L:Nat→Nat):List Nat:=(List.range n).flatMap fun i=>ku (A i) (L i)
theorem DO {A:Nat→Option Addr} {L:Nat→Nat} :x∈vP n A L↔∃ i,i<n∧x∈ku (A i) (L i):=by
 unfold vP
 simp
def Lng.Fq (l:Lng):List Nat:=ku l.aT l.nT++(vP l.nU l.uA l.uL++(ku l.R.aQ l.R.nQ++(ku l.R.aD l.R.nD++vP l.R.nS l.R.A l.R.L)))
structure AD (w:World) (base:Nat) (l:Lng):Prop where
 t:VG 2 w base l.aT l.nT fun i=>.int .i64 (l.t i)
 u:VG 27 w base l.aU l.nU fun i=>.slice (l.uA i) (l.uL i) (l.uC i)
 z:∀ i,i<l.nU→VG 2 w base (l.uA i) (l.uL i) fun j=>.int .i64 (l.uz i j)
 q:VG 2 w base l.R.aQ l.R.nQ fun i=>.int .i64 (l.R.q i)
 d:VG 2 w base l.R.aD l.R.nD fun i=>.int .i64 (l.R.d i)
 s:VG 27 w base l.R.aS l.R.nS fun i=>.slice (l.R.A i) (l.R.L i) (l.R.C i)
 y:∀ i,i<l.R.nS→VG 2 w base (l.R.A i) (l.R.L i) fun j=>.int .i64 (l.R.z i j)
 nd:l.Fq.Nodup
theorem AD.rd {l:Lng} (h:AD w base l):zo w l:=⟨h.t.read,h.u.read,fun i hi=>(h.z i hi).read,⟨h.q.read,h.d.read,h.s.read,fun i hi=>(h.y i hi).read⟩⟩
structure iO (a b:Lng):Prop where
 st:b.st=a.st
 nT:b.nT=a.nT
 t:b.t=a.t
 nU:b.nU=a.nU
 l:b.uL=a.uL
 z:b.uz=a.uz
 r:Alike a.R b.R
theorem iO.refl (a:Lng):iO a a:=⟨rfl,rfl,rfl,rfl,rfl,rfl,Alike.refl _⟩
theorem iO.symm {a b:Lng} (h:iO a b):iO b a:=⟨h.st.symm,h.nT.symm,h.t.symm,h.nU.symm,h.l.symm,h.z.symm,h.r.symm⟩
theorem iO.trans {a b c:Lng} (h:iO a b) (k:iO b c):iO a c:=⟨k.st.trans h.st,k.nT.trans h.nT,k.t.trans h.t,k.nU.trans h.nU,k.l.trans h.l,k.z.trans h.z,h.r.trans k.r⟩
structure iw (A B:Swg):Prop where
 c:B.C=A.C
 now:B.now=A.now
 nx:B.nx=A.nx
 nE:B.nE=A.nE
 e:B.e=A.e
 n:iR A.N B.N
 nK:B.nK=A.nK
 k:B.K=A.K
 nL:B.nL=A.nL
 l:∀ i,i<A.nL→iO (A.L i) (B.L i)
 dr:B.dr=A.dr
 lst:B.lst=A.lst
theorem iw.symm {B:Swg} (h:iw A B):iw B A:=⟨h.c.symm,h.now.symm,h.nx.symm,h.nE.symm,h.e.symm,h.n.symm,h.nK.symm,h.k.symm,h.nL.symm,fun i hi=>(h.l i (by rw [←h.nL];exact hi)).symm,h.dr.symm,h.lst.symm⟩
theorem iw.trans {B C:Swg} (h:iw A B) (k:iw B C):iw A C:=⟨k.c.trans h.c,k.now.trans h.now,k.nx.trans h.nx,k.nE.trans h.nE,k.e.trans h.e,h.n.trans k.n,k.nK.trans h.nK,k.k.trans h.k,k.nL.trans h.nL,fun i hi=>(h.l i hi).trans (k.l i (by rw [h.nL];exact hi)),k.dr.trans h.dr,k.lst.trans h.lst⟩
theorem iO.small {a b:Lng} (h:iO a b) (hs:a.Small):b.Small :=
 ⟨by rw [h.nT];exact hs.t,by rw [h.nU];exact hs.u,by rw [h.nU,h.l];exact hs.z,⟨by rw [h.r.nQ];exact hs.r.q,by rw [h.r.nD];exact hs.r.d,by rw [h.r.nS];exact hs.r.s,by rw [h.r.nS,h.r.l];exact hs.r.l⟩⟩
theorem iw.small {B:Swg} (h:iw A B) (hs:A.Small):B.Small :=
 ⟨by rw [h.nE];exact hs.e,h.n.small hs.n,by rw [h.nK];exact hs.k,by rw [h.nK,h.k];exact hs.b,by rw [h.nL];exact hs.l,fun i hi=>by rw [h.nL] at hi;exact (h.l i hi).small (hs.ls i hi)⟩
theorem Alike.ok1 {a b:Rnd} (h:Alike a b) (k:a.Ok):b.Ok:=by
 obtain ⟨aQ,nQ,cQ,q,aD,nD,cD,d,turn,fresh,aS,nS,cS,A,L,C,z⟩:=a
 obtain ⟨aQ',nQ',cQ',q',aD',nD',cD',d',turn',fresh',aS',nS',cS',A',L',C',z'⟩:=b
 obtain ⟨h1,h2,h3,h4,h5,h6,h7,h8,h9⟩:=h
 dsimp only at h1 h2 h3 h4 h5 h6 h7 h8 h9
 subst h1 h2 h3 h4 h5 h6 h7 h8 h9
 exact ⟨k.n,k.d,k.s,k.t,k.c⟩
theorem iO.ok1 {a b:Lng} {m:Nat} {K:Nat→Pkt} (h:iO a b) (k:nN m K a):nN m K b :=
 ⟨h.r.ok1 k.r,by rw [h.r.nQ];exact k.n,by rw [h.r.q];exact k.q0,by rw [h.r.q];exact k.q1,by rw [h.nU];exact k.u,fun c hc=>by
  rw [h.l,h.z,h.r.l,h.r.z];exact k.z c hc,by rw [h.nT,h.t];exact k.t⟩
theorem zM {a b:Lng} (h:iO a b) (x:Int):∀ c,rC b x c=rC a x c:=by
 intro c
 induction c with
 | zero=>rfl
 | succ c ih =>
  show rC b x c+occ (b.uz c) x (b.uL c)=rC a x c+occ (a.uz c) x (a.uL c)
  rw [ih,h.z,h.l]
theorem zN {A B:Nat→Lng} (h:∀ i,i<n→iO (A i) (B i)) (x:Int):∀ i,i≤n→lS B x i=lS A x i:=by
 intro i
 induction i with
 | zero=>intro _;rfl
 | succ i ih =>
  intro hi
  have hl:=h i (by omega)
  show lS B x i+(occ (B i).t x (B i).nT+rC (B i) x (B i).nU)=lS A x i+(occ (A i).t x (A i).nT+rC (A i) x (A i).nU)
  rw [ih (by omega),hl.t,hl.nT,hl.nU,zM hl]
theorem iw.ok1 {B:Swg} (h:iw A B) (k:A.Ok):B.Ok:=by
 refine ⟨by rw [h.c];exact h.n.ok.2 k.n,⟨by rw [h.now];exact k.nums.now,by rw [h.nx];exact k.nums.nx,by rw [h.dr];exact k.nums.dr,by rw [h.lst];exact k.nums.lst⟩,?_,by rw [h.nx,h.c,h.nK,h.k];exact k.k,by rw [h.nL,h.c];exact k.nl,fun i hi=>?_,fun j hj=>?_,?_⟩
 ·
  unfold Swg.seen
  rw [h.nE,h.e,h.c,h.now]
  exact k.seen
 ·
  rw [h.nL] at hi
  rw [h.nK,h.k]
  exact (h.l i hi).ok1 (k.l i hi)
 ·
  rw [h.nK] at hj
  rw [h.k,h.nL,zN h.l _ _ (Nat.le_refl _)]
  exact k.refs j hj
 unfold Swg.Dx
 rw [h.n.lo,h.k,h.nK,h.n.nU,h.n.u]
 exact k.held
theorem iw.ok {B:Swg} (h:iw A B):B.Ok↔A.Ok:=⟨h.symm.ok1,h.ok1⟩
theorem VT.low {f:Nat→Value} {S:List Nat} (h:VT t w base a n f) (ht:Touch S w w') (hS:∀ x∈S,x<base):VT t w' base a n f :=
 h.iu ht (fun x hx hy=>by have:=(h.blk x hx).1;have:=hS x hy;omega)
structure Fk (w:World) (base:Nat) (S:Swg):Prop where
 e:VT 71 w base S.aE (S.nE*3) (flat S.e)
 u:VT 2 w base S.N.aU S.N.nU fun i=>.int .i64 (S.N.u i)
 p:VT 4 w base S.N.aP S.N.nP fun i=>.bool (S.N.p i)
 k:VT 51 w base S.aK (S.nK*8) (xg S.K)
 l:VT 47 w base S.aL (S.nL*8) (xh S.L)
 ls:∀ i,i<S.nL→AD w base (S.L i)
 nd:(ku S.N.aU S.N.nU++(List.range S.nL).flatMap fun i=>(S.L i).Fq).Nodup
theorem Fk.rd {S:Swg} (h:Fk w base S):lr w S:=⟨h.e.g.DB,⟨h.u.read,h.p.read⟩,h.k.g.pks,h.l.g.lns,fun i hi=>(h.ls i hi).rd⟩
theorem sr {a b:List Nat} (ha:a.Nodup) (hb:b.Nodup) (m:Nat) (h1:∀ x∈a,x<m) (h2:∀ x∈b,m≤x):(a++b).Nodup :=
 List.nodup_append.2 ⟨ha,hb,fun x hx y hy e=>by have:=h1 x hx;have:=h2 y hy;omega⟩
theorem Av (a:Option Addr) (n:Nat):(ku a n).Nodup:=by
 unfold ku
 split
 ·
  exact List.nodup_nil
 cases a <;> simp
def qU (f:Nat→Int) (c:Nat) (x:Int) (i:Nat):Int:=if i=c then x else f i
def oY (f:Nat→Nat) (c:Nat) (x:Nat) (i:Nat):Nat:=if i=c then x else f i
def tJ (z:Nat→Nat→Int) (c:Nat) (y:Nat→Int) (i:Nat):Nat→Int:=if i=c then y else z i
theorem mS (f:Nat→Int) (c:Nat) (x:Int):qU f c x c=x:=if_pos rfl
theorem qy {x:Int} (h:i≠c):qU f c x i=f i:=if_neg h
theorem jE (f:Nat→Nat) (c:Nat) (x:Nat):oY f c x c=x:=if_pos rfl
theorem jJ {f:Nat→Nat} (h:i≠c):oY f c x i=f i:=if_neg h
theorem mm (z:Nat→Nat→Int) (c:Nat) (y:Nat→Int):tJ z c y c=y:=if_pos rfl
theorem pv {z:Nat→Nat→Int} {y:Nat→Int} (h:i≠c):tJ z c y i=z i:=if_neg h
def Rnd.now (R:Rnd):Nat:=R.turn.toNat
def iU (R:Rnd):Rnd:={ R with turn:=(((R.now+1) % R.nQ:Nat):Int),fresh:=true }
def iJ (R:Rnd):Rnd:=if R.fresh=true then { R with d:=qU R.d R.now (R.d R.now+R.q R.now),fresh:=false } else R
def CL (R:Rnd):Rnd:={ R with d:=qU R.d R.now (R.d R.now-R.z R.now 0),L:=oY R.L R.now (R.L R.now-1),z:=tJ R.z R.now (fun j=>R.z R.now (j+1)) }
def mT (R:Rnd):Rnd:=if R.L R.now=1 then iU { CL R with d:=qU R.d R.now 0 } else CL R
inductive lu:Nat→Rnd→Rnd→Nat→Int→Prop
 | skip {k:Nat} {R R':Rnd} {c:Nat} {s:Int}:R.L R.now=0→lu k (iU R) R' c s→lu (k+1) R R' c s
 | short {k:Nat} {R R':Rnd} {c:Nat} {s:Int}:R.L R.now≠0→(iJ R).d R.now<R.z R.now 0→lu k (iU (iJ R)) R' c s→lu (k+1) R R' c s
 | take {R:Rnd}:R.L R.now≠0→R.z R.now 0≤(iJ R).d R.now→lu 0 R (mT (iJ R)) R.now (R.z R.now 0)
theorem rM (R:Rnd):(iJ R).L=R.L:=by unfold iJ;split <;> rfl
theorem vz (R:Rnd):(iJ R).z=R.z:=by unfold iJ;split <;> rfl
theorem zc (R:Rnd):(iJ R).q=R.q:=by unfold iJ;split <;> rfl
theorem jU (R:Rnd):(iJ R).nQ=R.nQ:=by unfold iJ;split <;> rfl
theorem yl (R:Rnd):(iJ R).turn=R.turn:=by unfold iJ;split <;> rfl
theorem jP (R:Rnd):(iJ R).now=R.now:=by unfold Rnd.now;rw [yl]
theorem Cf {R:Rnd} (h:i≠R.now):(iJ R).d i=R.d i:=by
 unfold iJ
 split
 ·
  exact qy h
 rfl
theorem xf (R:Rnd):(iJ R).fresh=false:=by
 unfold iJ
 split
 ·
  rfl
 rename_i h;simpa using h
theorem xe (R:Rnd):(iJ R).d R.now=if R.fresh=true then R.d R.now+R.q R.now else R.d R.now:=by
 unfold iJ
 split
 ·
  exact mS _ _ _
 rfl
theorem Rnd.Ok.ph {R:Rnd} (h:R.Ok):R.now<R.nQ:=by
 unfold Rnd.now
 have:=h.t
 omega
theorem AR (R:Rnd):(iU R).now=(R.now+1) % R.nQ:=by
 show (((((R.now+1) % R.nQ:Nat):Int))).toNat=_
 exact Int.toNat_natCast _
theorem rT {R:Rnd} (h:R.Ok) (i:Nat):R.begun i=true↔i=R.now∧R.fresh=false:=by
 unfold Rnd.begun Rnd.now
 have:=h.t
 simp only [Bool.and_eq_true,decide_eq_true_eq,Bool.not_eq_true']
 constructor
 ·
  rintro ⟨a,b⟩;exact ⟨by omega,b⟩
 rintro ⟨a,b⟩;exact ⟨by omega,b⟩
theorem pH {R:Rnd} (h:R.fresh=true) (i:Nat):R.begun i=false:=by simp [Rnd.begun,h]
theorem qA {R:Rnd} (h:R.Ok) (hl:R.L R.now≠0→R.d R.now<5):(iU R).Ok:=by
 have hn:=h.n
 refine ⟨h.n,h.d,h.s,⟨by show (0:Int)≤(((R.now+1) % R.nQ:Nat):Int);exact Int.natCast_nonneg _,?_⟩,fun i hi=>?_⟩
 · exact ct
 obtain ⟨h1,h2,h3⟩:=h.c i hi
 refine ⟨h1,h2,?_⟩
 rw [pH (R:=iU R) rfl]
 show ry (R.q i) (R.d i) (R.L i) false
 unfold ry at h3 ⊢
 by_cases e:R.L i=0
 ·
  rw [if_pos e] at h3 ⊢;exact h3
 rw [if_neg e] at h3 ⊢
 by_cases e2:i=R.now
 ·
  subst e2
  have:=hl e
  simp
  exact ⟨h3.1,by omega⟩
 have:R.begun i=false:=by
  cases hb:R.begun i
  ·
   rfl
  exact absurd ((rT h i).1 hb).1 e2
 rw [this] at h3
 exact h3
theorem qh {R:Rnd} (h:R.Ok) (hl:R.L R.now≠0):(iJ R).Ok:=by
 have hn:=h.ph
 by_cases hf:R.fresh=true
 ·
  have e:iJ R={ R with d:=qU R.d R.now (R.d R.now+R.q R.now),fresh:=false }:=by unfold iJ;rw [if_pos hf]
  rw [e]
  refine ⟨h.n,h.d,h.s,h.t,fun i hi=>?_⟩
  obtain ⟨h1,h2,h3⟩:=h.c i hi
  refine ⟨h1,h2,?_⟩
  rw [pH hf] at h3
  show ry (R.q i) (qU R.d R.now (R.d R.now+R.q R.now) i) (R.L i) _
  unfold ry at h3 ⊢
  by_cases e0:R.L i=0
  ·
   rw [if_pos e0] at h3 ⊢
   have:i≠R.now:=fun e=>hl (by rw [←e];exact e0)
   rw [qy this];exact h3
  rw [if_neg e0] at h3 ⊢
  by_cases e2:i=R.now
  ·
   subst e2
   rw [mS]
   have hb:Rnd.begun { R with d:=qU R.d R.now (R.d R.now+R.q R.now),fresh:=false } R.now=true:=by
    unfold Rnd.begun Rnd.now
    have:=h.t
    simp
    omega
   rw [hb]
   simp at h3 ⊢
   omega
  rw [qy e2]
  have hb:Rnd.begun { R with d:=qU R.d R.now (R.d R.now+R.q R.now),fresh:=false } i=false:=by
   unfold Rnd.begun
   have h9:=h.t
   have:¬ ((i:Int)=R.turn):=by unfold Rnd.now at e2;omega
   simp [this]
  rw [hb]
  exact h3
 have e:iJ R=R:=by unfold iJ;rw [if_neg hf]
 rw [e];exact h
theorem Ew {R:Rnd} (h:R.Ok) (hf:R.fresh=false) (hl:R.L R.now≠0) (hd:R.z R.now 0≤R.d R.now):(mT R).Ok:=by
 have hn:=h.ph
 obtain ⟨hq,hz,hdef⟩:=h.c R.now hn
 have hz0:=hz.2 0 (by omega)
 have hd5:0≤R.d R.now∧R.d R.now<5+R.q R.now:=by
  have hb:R.begun R.now=true:=(rT h R.now).2 ⟨rfl,hf⟩
  unfold ry at hdef
  rw [if_neg hl,hb] at hdef
  simpa using hdef
 have hsz:∀ i,i<R.nQ→qW (oY R.L R.now (R.L R.now-1) i) (tJ R.z R.now (fun j=>R.z R.now (j+1)) i):=fun i hi=>by
  by_cases e:i=R.now
  ·
   subst e
   rw [jE,mm]
   exact ⟨by have:=hz.1;omega,fun j hj=>hz.2 (j+1) (by omega)⟩
  rw [jJ e,pv e]
  exact (h.c i hi).2.1
 have hbn:∀ i,i≠R.now→R.begun i=false:=fun i e=>by
  cases hb:R.begun i
  ·
   rfl
  exact absurd ((rT h i).1 hb).1 e
 unfold mT
 by_cases h1:R.L R.now=1
 ·
  rw [if_pos h1]
  refine ⟨h.n,h.d,h.s,⟨by show (0:Int)≤(((R.now+1) % R.nQ:Nat):Int);exact Int.natCast_nonneg _,?_⟩,fun i hi=>⟨(h.c i hi).1,hsz i hi,?_⟩⟩
  · exact ct
  rw [pH (by rfl)]
  show ry (R.q i) (qU R.d R.now 0 i) (oY R.L R.now (R.L R.now-1) i) false
  by_cases e:i=R.now
  ·
   subst e
   rw [mS,jE]
   unfold ry
   rw [if_pos (by omega)]
  rw [qy e,jJ e]
  have:=(h.c i hi).2.2
  rw [hbn i e] at this
  exact this
 rw [if_neg h1]
 refine ⟨h.n,h.d,h.s,h.t,fun i hi=>⟨(h.c i hi).1,hsz i hi,?_⟩⟩
 show ry (R.q i) (qU R.d R.now (R.d R.now-R.z R.now 0) i) (oY R.L R.now (R.L R.now-1) i) (R.begun i)
 by_cases e:i=R.now
 ·
  subst e
  rw [mS,jE,(rT h R.now).2 ⟨rfl,hf⟩]
  unfold ry
  rw [if_neg (by omega)]
  simp
  omega
 rw [qy e,jJ e]
 exact (h.c i hi).2.2
theorem lu.ok {R R':Rnd} {s:Int} (h:lu k R R' c s):R.Ok→R'.Ok∧R'.nQ=R.nQ∧c<R.nQ∧1≤s∧s≤5:=by
 induction h with
 | skip h0 _ ih =>
  intro ho
  exact ih (qA ho (fun e=>absurd h0 e))
 | short h0 h1 _ ih =>
  rename_i R0 _ _ _ _
  intro ho
  have hg:=qh ho h0
  have hz:=((ho.c R0.now ho.ph).2.1).2 0 (by omega)
  have h2:=ih (qA hg (fun _=>by rw [jP];omega))
  have e:(iU (iJ R0)).nQ=R0.nQ:=jU R0
  rw [e] at h2
  exact h2
 | take h0 h1 =>
  rename_i R0
  intro ho
  have hg:=qh ho h0
  have hz:=((ho.c R0.now ho.ph).2.1).2 0 (by omega)
  refine ⟨Ew hg (xf R0) (by rw [rM,jP];exact h0) (by rw [vz,jP];exact h1),?_,ho.ph,hz.1,hz.2⟩
  unfold mT
  split <;> exact jU R0
def An (R:Rnd) (c:Nat):Nat:=if R.now=c then (if R.fresh=true then 0 else R.nQ) else (c+R.nQ-R.now) % R.nQ
def vf (R:Rnd) (c:Nat):Nat:=(5-R.d c).toNat*R.nQ+An R c
theorem rQ {R:Rnd} (hn:R.now<R.nQ) (hc:c<R.nQ):An (iU R) c+1≤(if R.now=c then R.nQ else An R c):=by
 have e1:(iU R).now=(R.now+1) % R.nQ:=AR R
 have e2:(iU R).fresh=true:=rfl
 have e3:(iU R).nQ=R.nQ:=rfl
 unfold An
 rw [e1,e2,e3]
 by_cases hw:R.now+1=R.nQ
 ·
  rw [hw,Nat.mod_self]
  by_cases ec:R.now=c
  ·
   rw [if_pos ec]
   by_cases e0:0=c
   ·
    rw [if_pos e0];simp;omega
   rw [if_neg e0,Nat.mod_eq_sub_mod (by omega),show c+R.nQ-0-R.nQ=c by omega,Nat.mod_eq_of_lt hc];omega
  rw [if_neg ec,if_neg ec]
  by_cases e0:0=c
  ·
   rw [if_pos e0]
   simp
   rw [show c+R.nQ-R.now=1 by omega,Nat.mod_eq_of_lt (by omega)]
   exact Nat.le_refl _
  rw [if_neg e0,Nat.mod_eq_sub_mod (by omega),show c+R.nQ-0-R.nQ=c by omega,Nat.mod_eq_of_lt hc,show c+R.nQ-R.now=c+1 by omega,Nat.mod_eq_of_lt (by omega)]
  exact Nat.le_refl _
 have hm:(R.now+1) % R.nQ=R.now+1:=Nat.mod_eq_of_lt (by omega)
 rw [hm]
 by_cases ec:R.now=c
 ·
  rw [if_pos ec,if_neg (by omega),show c+R.nQ-(R.now+1)=R.nQ-1 by omega,Nat.mod_eq_of_lt (by omega)]
  omega
 rw [if_neg ec,if_neg ec]
 by_cases e1:R.now+1=c
 ·
  rw [if_pos e1]
  simp
  rw [show c+R.nQ-R.now=1+R.nQ by omega,Nat.add_mod_right,Nat.mod_eq_of_lt (by omega)]
  exact Nat.le_refl _
 rw [if_neg e1]
 by_cases hlt:c<R.now
 ·
  rw [Nat.mod_eq_of_lt (by omega),Nat.mod_eq_of_lt (by omega)]
  omega
 rw [Nat.mod_eq_sub_mod (by omega),Nat.mod_eq_of_lt (by omega),Nat.mod_eq_sub_mod (a:=c+R.nQ-R.now) (by omega),Nat.mod_eq_of_lt (by omega)]
 omega
theorem Dd (c:Nat):∀ (m:Nat) (R:Rnd),vf R c=m→R.Ok→c<R.nQ→R.L c≠0→∃ k R' x s,lu k R R' x s:=by
 intro m
 induction m using Nat.strongRecOn with
 | ind m ih =>
  intro R hm ho hc hl
  have hn:=ho.ph
  by_cases h0:R.L R.now=0
  ·
   have hne:R.now≠c:=fun e=>hl (by rw [←e];exact h0)
   have hf:=rQ hn hc
   rw [if_neg hne] at hf
   have hlt:vf (iU R) c<m:=by
    rw [←hm]
    exact cw
   obtain ⟨k,R',x,s,hp⟩:=ih _ hlt (iU R) rfl (qA ho (fun e=>absurd h0 e)) hc hl
   exact ⟨k+1,R',x,s,.skip h0 hp⟩
  by_cases h1:R.z R.now 0≤(iJ R).d R.now
  ·
   exact ⟨0,_,_,_,.take h0 h1⟩
  have hg:=qh ho h0
  have hz:=((ho.c R.now hn).2.1).2 0 (by omega)
  have hq:=(ho.c R.now hn).1
  have hgn:(iJ R).now<(iJ R).nQ:=hg.ph
  have hf:=rQ (R:=iJ R) (c:=c) hgn (by rw [jU];exact hc)
  rw [jP,jU] at hf
  have hlt:vf (iU (iJ R)) c<m:=by
   rw [←hm]
   exact ck
  obtain ⟨k,R',x,s,hp⟩:=ih _ hlt (iU (iJ R)) rfl (qA hg (fun _=>by rw [jP];omega)) (by show c<(iJ R).nQ;rw [jU];exact hc) (by show (iJ R).L c≠0;rw [rM];exact hl)
  exact ⟨k+1,R',x,s,.short h0 (by omega) hp⟩
theorem Bq {R:Rnd} (ho:R.Ok) (hc:c<R.nQ) (hl:R.L c≠0) (h0:R.L R.now=0):vf (iU R) c<vf R c:=by
 have hne:R.now≠c:=fun e=>hl (by rw [←e];exact h0)
 have hf:=rQ ho.ph hc
 rw [if_neg hne] at hf
 exact cw
theorem zS {R:Rnd} (ho:R.Ok) (hc:c<R.nQ) (h0:R.L R.now≠0) (h1:(iJ R).d R.now<R.z R.now 0):vf (iU (iJ R)) c<vf R c:=by
 have hn:=ho.ph
 have hg:=qh ho h0
 have hz:=((ho.c R.now hn).2.1).2 0 (by omega)
 have hq:=(ho.c R.now hn).1
 have hf:=rQ (R:=iJ R) (c:=c) hg.ph (by rw [jU];exact hc)
 rw [jP,jU] at hf
 exact ck
theorem C8 {R:Rnd} (ht:0≤R.turn∧R.turn<R.nQ):(R.turn+1).tmod (R.nQ:Int)=(((R.now+1) % R.nQ:Nat):Int):=by
 have e:R.turn+1=((R.now+1:Nat):Int):=by unfold Rnd.now;omega
 rw [e,Int.tmod_eq_emod_of_nonneg (by omega)]
 rfl
set_option maxHeartbeats 9000000 in
theorem yU (R:Rnd) (w:World) (hn:1≤R.nQ∧R.nQ≤4) (ht:0≤R.turn∧R.turn<R.nQ) :
  Calls Tryz.prog 128 #[.agg R.cells] w fun e w'=>e=.returned (.agg (iU R).cells)∧Below w.heap.size w w':=by
 have hrt:=C8 ht
 have hnz:((R.nQ:Int) == 0)=false:=by simp;omega
 have HT:=aa hrt
 have ht2:R.turn≤4:=by omega
 have ht1:0≤R.turn:=ht.1
 have hnz2:¬ R.nQ=0:=by omega
 clear hn ht
 unfold Rnd.cells
 go_enter Tryz.func128,Tryz.ntmps128
 go_wp2_with fail
 exact bodyPost_ret (v:=.agg #[.slice R.aQ R.nQ R.cQ,.slice R.aD R.nD R.cD,.int .i64 (((R.now:Int)+1) % (R.nQ:Int)),.bool true,.slice R.aS R.nS R.cS]) (by simp [results,Tryz.results128,go_sem]) rfl ⟨rfl,((Below.refl _ _).alloc (Nat.le_refl _) _).alloc (by simp) _⟩
theorem qK (R:Rnd) (w:World) (h:R.Ok) :
  Calls Tryz.prog 128 #[.agg R.cells] w fun e w'=>e=.returned (.agg (iU R).cells)∧Below w.heap.size w w':=yU R w h.n h.t
theorem Ay (h:W.ownsRow base 2 1 v 0 []) :
  (Builtin.append_ #[27,27] 27 #[v,.slice none 0 c]).run Tryz.prog W=.ok v W:=by
 obtain ⟨i0,hi,hz0,hz1,hz2⟩:=info_parts rD
 rcases h.2 with ⟨rfl,_⟩ | ⟨g,cap,cur,rfl,_⟩
 ·
  simp [Builtin.append_,run_underlying Tryz.underlying27,sizeOf,typeInfo,hi,Builtin.lenOf,Builtin.firstCells,loadCells,loadCellsFrom]
 simp [Builtin.append_,run_underlying Tryz.underlying27,sizeOf,typeInfo,hi,Builtin.lenOf,Builtin.firstCells,loadCells,loadCellsFrom,storeCells]
def OI (w:World) (base:Nat) (a:Option Addr) (n c:Nat) (f:Nat→Int):Prop:=w.ownsRow base 2 1 (.slice a n c) n (kW n f)
theorem FF (h:OI w base a n c f):n≤c:=by
 rcases h.2 with ⟨_,e0⟩ | ⟨g9,cap9,cur9,e9,_,_,h9,_⟩
 ·
  omega
 cases e9
 exact h9
def iI (a:Option Addr):List Nat:=(a.map (·.block)).toList
theorem jX (h:x∈jR a n):x∈iI a:=by
 unfold jR at h
 split at h
 ·
  simp at h
 exact h
theorem OI.vi (h:OI w base a n c f):VI w base a n f:=by
 obtain ⟨a',c',e,hv⟩:=wI h
 cases e
 exact hv
theorem OI.up (h:OI w base a n c f) (hb:Below w.heap.size w w'):OI w' base a n c f:=by
 refine ⟨h.1,h.2.imp id ?_⟩
 rintro ⟨g,cap,cur,e,hg,hbk,hr⟩
 exact ⟨g,cap,cur,e,hg,(hb.block g (ig hbk)).trans hbk,hr⟩
theorem OI.Fv {S:List Nat} (h:OI w base a n c f) (ht:Touch S w w') (hS:∀ g arr,w.heap[g]?=some (.cells arr 2 (0,0))→g∉S):OI w' base a n c f:=by
 refine ⟨h.1,h.2.imp id ?_⟩
 rintro ⟨g,cap,cur,e,hg,hbk,hr⟩
 exact ⟨g,cap,cur,e,hg,(ht.block g (ig hbk) (hS g cur hbk)).trans hbk,hr⟩
theorem OI.blk (h:OI w base a n c f):∀ x∈iI a,base≤x∧x<w.heap.size:=by
 intro x hx
 rcases h.2 with ⟨e,_⟩ | ⟨g,cap,cur,e,hg,hbk,_⟩
 ·
  cases e
  simp [iI] at hx
 cases e
 simp [iI] at hx
 subst hx
 exact ⟨hg,ig hbk⟩
theorem OI.mono (h:OI w base a n c f) (hb:base'≤base):OI w base' a n c f:=by
 refine ⟨h.1,h.2.imp id ?_⟩
 rintro ⟨g,cap,cur,e,hg,hr⟩
 exact ⟨g,cap,cur,e,by omega,hr⟩
theorem oJ (h:W.ownsRow base 2 1 v 0 []) (hb:base≤W.heap.size) (hn:n≤1048576) (hr:iP W a n fun i=>.int .i64 (f i)) :
  ∃ a' c' W',(Builtin.append_ #[27,27] 27 #[v,.slice a n c]).run Tryz.prog W=.ok (.slice a' n c') W'∧OI W' base a' n c' f∧W.grownBy W' v.ownBlock∧(∀ x∈iI a',some x=v.ownBlock∨x=W.heap.size):=by
 have fin:∀ (v':Value) (W':World),W'.ownsRow base 2 1 v' n (kW n f)→(v'.ownBlock=v.ownBlock∨v'.ownBlock=some W.heap.size)→∃ a' c',v'=.slice a' n c'∧OI W' base a' n c' f∧(∀ x∈iI a',some x=v.ownBlock∨x=W.heap.size):=by
  intro v' W' h2 h5
  obtain ⟨a',c',rfl,hv⟩:=wI h2
  refine ⟨a',c',rfl,h2,fun x hx=>?_⟩
  cases a' with
  | none=>simp [iI] at hx
  | some ad =>
   simp [iI] at hx
   subst hx
   rcases h5 with h5 | h5
   ·
    exact .inl (by rw [←h5];rfl)
   right
   simpa [Value.ownBlock] using h5
 by_cases h0:n=0
 ·
  subst h0
  cases a with
  | none =>
   obtain ⟨a',c',rfl,hv,hx⟩:=fin v W (by simpa [kW] using h) (.inl rfl)
   exact ⟨a',c',W,Ay h,hv,⟨rfl,rfl,rfl,Nat.le_refl _,fun _ _ _=>rfl⟩,hx⟩
  | some ad =>
   obtain ⟨i0,hi,hz0,hz1,hz2⟩:=info_parts rD
   obtain ⟨v',w',hr',h2,h3,h4,h5⟩:=run_append_own_at (P:=Tryz.prog) W base 27 27 2 i0 (.int .i64 0) 1 8 Tryz.underlying27 hi hz0 hz1 hz2 rfl (by decide) v 0 [] h ad 0 c [] rfl (fun j u hj=>by simp at hj) (fun u hu=>by simp at hu) (by unfold maxLen;omega) (by omega) hb
   obtain ⟨a',c',rfl,hv,hx⟩:=fin v' w' (by simpa [kW] using h2) h5
   exact ⟨a',c',w',hr',hv,h3,hx⟩
 obtain ⟨g,q,rfl,_⟩:=hr 0 (by omega)
 obtain ⟨i0,hi,hz0,hz1,hz2⟩:=info_parts rD
 obtain ⟨v',w',hr',h2,h3,h4,h5⟩:=run_append_own_at (P:=Tryz.prog) W base 27 27 2 i0 (.int .i64 0) 1 8 Tryz.underlying27 hi hz0 hz1 hz2 rfl (by decide) v 0 [] h ⟨g,q,none⟩ n c (kW n f) (by rw [qb];omega) (fun j u hj=>by
  obtain ⟨hjn,rfl⟩:=sH hj
  have e:(⟨g,q,none⟩:Addr).add j=⟨g,q+j,none⟩:=by unfold Addr.add;split <;> simp_all
  rw [e]
  obtain ⟨g',o',e,hc⟩:=hr j hjn
  cases e
  exact hc) (fun u hu=>by
  obtain ⟨j,_,rfl⟩:=List.mem_map.1 hu
  rfl) (by unfold maxLen;omega) (by omega) hb
 rw [Nat.zero_add,List.nil_append] at h2
 obtain ⟨a',c',rfl,hv,hx⟩:=fin v' w' h2 h5
 exact ⟨a',c',w',hr',hv,h3,hx⟩
theorem lA (a:Option Addr) (n cap:Nat) (f:Nat→Int) (w:World) (hn:n≤1048576) (h:iP w a n fun i=>.int .i64 (f i)) :
  Calls Tryz.prog 81 #[.slice a n cap] w fun e w'=>∃ a' c',e=.returned (.slice a' n c')∧OI w' w.heap.size a' n c' f∧Below w.heap.size w w':=by
 obtain ⟨a',c',W',hr,hv,hg,hp⟩:=oJ (W:=w) (base:=w.heap.size) (v:=.slice none 0 0) (c:=cap) (World.ownsRow_nil _ _ _ _) (Nat.le_refl _) hn h
 have hB:Below w.heap.size w W':=(Below.refl _ _).grown hg (Nat.le_refl _) (fun k e=>by simp [Value.ownBlock] at e)
 have HV:=aa hv
 clear hv hg hp h
 go_enter Tryz.func81,Tryz.ntmps81
 go_wp2_with (at_builtin;refine Lib.wpList_append_run _ rfl _ _ _ _ rfl _ _ rfl rfl _ _ hr ?_)
 go_ret
 exact ⟨_,_,rfl,HV,hB⟩
theorem Cz (h:VI W base a n f) (h':VI W' b2 a' n' f') (hb:W.heap.size≤b2):ke a n a' n':=cm
theorem oU (h:VI W base a n f) (h':OI W' b2 a' n' c' f') (hb:W.heap.size≤b2):∀ x∈jR a n,x∉iI a':=cm
theorem nH (h:OI W base a n c f) (h':OI W' b2 a' n' c' f') (hb:W.heap.size≤b2):∀ x∈iI a,x∉iI a':=cm
structure Cp (R:Rnd) (base:Nat) (W:World) (aQ:Option Addr) (aD:Option Addr) (gS:Nat) (A:Nat→Option Addr) (C:Nat→Nat) (k:Nat):Prop where
 q:VI W base aQ R.nQ R.q
 d:VI W base aD R.nD R.d
 s:VS W base (some ⟨gS,0,none⟩) R.nS fun i=>if i<k then .slice (A i) (R.L i) (C i) else .slice none 0 0
 z:∀ i,i<k→OI W base (A i) (R.L i) (C i) (R.z i)
 qd:ke aQ R.nQ aD R.nD
 qz:∀ i,i<k→∀ x∈jR aQ R.nQ,x∉iI (A i)
 dz:∀ i,i<k→∀ x∈jR aD R.nD,x∉iI (A i)
 zz:∀ i j,i<k→j<k→i≠j→∀ x∈iI (A i),x∉iI (A j)
theorem Cp.up {R:Rnd} {A:Nat→Option Addr} (h:Cp R base W aQ aD gS A C k) (hb:Below W.heap.size W W'):Cp R base W' aQ aD gS A C k :=
 ⟨h.q.up hb,h.d.up hb,h.s.up hb,fun i hi=>(h.z i hi).up hb,h.qd,h.qz,h.dz,h.zz⟩
theorem Cp.next {R:Rnd} {A:Nat→Option Addr} (h:Cp R base W aQ aD gS A C k) (hk:k<R.nS) (hb:Below W.heap.size W W') (hB:base≤W.heap.size)
  (hv:OI W' W.heap.size a' (R.L k) c' (R.z k)):Cp R base (W'.setCell ⟨gS,k,none⟩ (.slice a' (R.L k) c')) aQ aD gS (fun i=>if i=k then a' else A i) (fun i=>if i=k then c' else C i) (k+1):=by
 have h1:=h.up hb
 rcases h1.s with h0 | ⟨g,hg,hbg,hr⟩
 ·
  omega
 cases hg
 have ht:Touch [gS] W' (W'.setCell ⟨gS,k,none⟩ (.slice a' (R.L k) c')):=(Touch.refl _ _).set (by simp) k _
 have key:∀ {a:Option Addr} {n b2:Nat} {f:Nat→Int},VI W' b2 a n f→VI (W'.setCell ⟨gS,k,none⟩ (.slice a' (R.L k) c')) b2 a n f:=fun hv=>hv.iu ht (fun x hx hx2=>by
  simp at hx2
  subst hx2
  obtain ⟨arr,h2,_⟩:=hr
  exact yR hv (by decide) h2 hx)
 have keyO:∀ {a:Option Addr} {n c b2:Nat} {f:Nat→Int},OI W' b2 a n c f→OI (W'.setCell ⟨gS,k,none⟩ (.slice a' (R.L k) c')) b2 a n c f:=fun hv=>hv.Fv ht (fun g arr hg hx2=>by
  simp at hx2
  subst hx2
  obtain ⟨arr',h2,_⟩:=hr
  rw [hg] at h2
  simp at h2)
 refine ⟨key h1.q,key h1.d,.inr ⟨gS,rfl,hbg,?_⟩,fun i hi=>?_,h.qd,fun i hi=>?_,fun i hi=>?_,fun i j hi hj hne=>?_⟩
 ·
  obtain ⟨arr,h2,h3,h4⟩:=hr
  refine ⟨_,iL h2 _,by simpa using h3,fun i hi=>?_⟩
  by_cases e:i=k
  ·
   subst e
   dsimp only
   rw [if_pos (show i<i+1 by omega),if_pos rfl,if_pos rfl]
   exact Array.getElem?_setIfInBounds_self_of_lt (by omega)
  rw [Array.getElem?_setIfInBounds_ne (by omega),h4 i hi]
  show some (if i<k then _ else _)=some (if i<k+1 then _ else _)
  by_cases h5:i<k
  ·
   rw [if_pos h5,if_pos (by omega),if_neg e,if_neg e]
  rw [if_neg h5,if_neg (by omega)]
 ·
  by_cases e:i=k
  ·
   subst e
   simp only [if_true]
   exact (keyO hv).mono hB
  simp only [if_neg e]
  exact keyO (h1.z i (by omega))
 ·
  by_cases e:i=k
  ·
   subst e
   simp only [if_true]
   exact oU h.q hv (Nat.le_refl _)
  simp only [if_neg e]
  exact h.qz i (by omega)
 ·
  by_cases e:i=k
  ·
   subst e
   simp only [if_true]
   exact oU h.d hv (Nat.le_refl _)
  simp only [if_neg e]
  exact h.dz i (by omega)
 by_cases e:i=k
 ·
  subst e
  simp only [if_true,if_neg (Ne.symm hne)]
  exact fun x hx hy=>nH (h.z j (by omega)) hv (Nat.le_refl _) x hy hx
 by_cases e2:j=k
 ·
  subst e2
  simp only [if_true,if_neg e]
  exact nH (h.z i (by omega)) hv (Nat.le_refl _)
 simp only [if_neg e,if_neg e2]
 exact h.zz i j (by omega) (by omega) hne
def Rnd.cp (R:Rnd) (aQ:Option Addr) (cQ:Nat) (aD:Option Addr) (cD gS:Nat) (A:Nat→Option Addr) (C:Nat→Nat):Rnd :=
 ⟨aQ,R.nQ,cQ,R.q,aD,R.nD,cD,R.d,R.turn,R.fresh,some ⟨gS,0,none⟩,R.nS,R.nS,A,R.L,C,R.z⟩
structure jD (w:World) (base:Nat) (R:Rnd):Prop where
 own:jy w base R
 z:∀ i,i<R.nS→OI w base (R.A i) (R.L i) (R.C i) (R.z i)
 qz:∀ i,i<R.nS→∀ x∈jR R.aQ R.nQ,x∉iI (R.A i)
 dz:∀ i,i<R.nS→∀ x∈jR R.aD R.nD,x∉iI (R.A i)
 zz:∀ i j,i<R.nS→j<R.nS→i≠j→∀ x∈iI (R.A i),x∉iI (R.A j)
theorem Cp.own {R:Rnd} {A:Nat→Option Addr} (h:Cp R base W aQ aD gS A C R.nS) (cQ cD:Nat):jD W base (R.cp aQ cQ aD cD gS A C) :=
 ⟨⟨h.q,h.d,h.s.imp id (by
  rintro ⟨g,ha,hg,hr⟩
  exact ⟨g,ha,hg,hr.ext (fun i hi=>by rw [if_pos hi];rfl)⟩),fun i hi=>(h.z i hi).vi,h.qd,fun i hi x hx hy=>h.qz i hi x hx (jX hy),fun i hi x hx hy=>h.dz i hi x hx (jX hy),fun i j hi hj hne x hx hy=>h.zz i j hi hj hne x (jX hx) (jX hy)⟩,h.z,h.qz,h.dz,h.zz⟩
theorem jD.kk {R:Rnd} {S:List Nat} (h:jD w base R) (ht:Touch S w w') (hS:∀ x∈S,x<base):jD w' base R :=
 ⟨h.own.kk ht hS,fun i hi=>by
  refine ⟨(h.z i hi).1,(h.z i hi).2.imp id ?_⟩
  rintro ⟨g,cap,cur,e,hg,hbk,hr⟩
  exact ⟨g,cap,cur,e,hg,(ht.block g (ig hbk) (fun hx=>by have:=hS g hx;omega)).trans hbk,hr⟩,h.qz,h.dz,h.zz⟩
theorem jD.mono {R:Rnd} (h:jD w base R) (hb:base'≤base):jD w base' R:=⟨h.own.mono hb,fun i hi=>(h.z i hi).mono hb,h.qz,h.dz,h.zz⟩
theorem jD.up {R:Rnd} (h:jD w base R) (hb:Below w.heap.size w w'):jD w' base R:=⟨h.own.up hb,fun i hi=>(h.z i hi).up hb,h.qz,h.dz,h.zz⟩
def jM (n:Nat) (s:Int) (z:Nat→Int) (j:Nat):Int:=if j=n then s else z j
theorem ug (n:Nat) (s:Int) (z:Nat→Int):kW n z++[.int .i64 s]=kW (n+1) (jM n s z):=by
 unfold kW
 rw [List.range_succ,List.map_append]
 congr 1
 ·
  refine List.map_congr_left fun j hj=>?_
  have:j<n:=List.mem_range.1 hj
  unfold jM
  rw [if_neg (by omega)]
 simp [jM]
def Rnd.push (R:Rnd) (c:Nat) (s:Int) (a':Option Addr) (c':Nat):Rnd :=
 { R with A:=fun i=>if i=c then a' else R.A i,L:=fun i=>if i=c then R.L c+1 else R.L i,C:=fun i=>if i=c then c' else R.C i,z:=fun i j=>if i=c then jM (R.L c) s (R.z c) j else R.z i j }
theorem VI.EY {W2:World} (h:VI W base a n f) (hk:∀ x∈jR a n,x<W.heap.size→W2.heap[x]?=W.heap[x]?):VI W2 base a n f:=by
 by_cases h0:n=0
 ·
  exact .inl h0
 rcases h with h1 | ⟨g,rfl,hg,hr⟩
 ·
  exact absurd h1 h0
 exact .inr ⟨g,rfl,hg,hr.jQ (hk g (oO h0) hr.lt)⟩
structure Ga (R:Rnd) (base:Nat) (W W2:World) (c gS:Nat) (s:Int) (a':Option Addr) (c':Nat):Prop where
 oz:jD (W2.setCell ⟨gS,c,none⟩ (.slice a' (R.L c+1) c')) base (R.push c s a' c')
 below:Below base W (W2.setCell ⟨gS,c,none⟩ (.slice a' (R.L c+1) c'))
 row:ja gS 27 R.nS (fun i=>.slice (R.A i) (R.L i) (R.C i)) R.nS W2
 box:∀ (g:Nat) (arr:Array Value) (t:TypeId),t≠2→W.heap[g]?=some (.cells arr t (0,0))→W2.heap[g]?=some (.cells arr t (0,0))
 cap:R.L c+1≤c'
theorem jD.D8 {R:Rnd} (h:jD W base R) (hc:c<R.nS) (hl:R.L c≤1000) (hb:base≤W.heap.size) (hS:R.aS=some ⟨gS,0,none⟩) (s:Int) :
  ∃ a' c' W2,(Builtin.append_ #[27,27] 27 #[.slice (R.A c) (R.L c) (R.C c),.slice (some ⟨W.heap.size,0,none⟩) 1 1]).run Tryz.prog (W.alloc (.cells #[.int .i64 s] 2))=.ok (.slice a' (R.L c+1) c') W2∧Ga R base W W2 c gS s a' c':=by
 obtain ⟨i0,hi,hz0,hz1,hz2⟩:=info_parts rD
 have hA:Below W.heap.size W (W.alloc (.cells #[.int .i64 s] 2)):=(Below.refl _ _).alloc (Nat.le_refl _) _
 have e1:(W.alloc (.cells #[.int .i64 s] 2)).heap.size=W.heap.size+1:=by simp
 have hnew:=ie (im W (.cells #[.int .i64 s] 2))
 obtain ⟨v',W2,hr,h2,h3,h4,h5⟩:=run_append_own_at (P:=Tryz.prog) (W.alloc (.cells #[.int .i64 s] 2)) base 27 27 2 i0 (.int .i64 0) 1 8 Tryz.underlying27 hi hz0 hz1 hz2 rfl (by decide) (.slice (R.A c) (R.L c) (R.C c)) (R.L c) (kW (R.L c) (R.z c)) ((h.z c hc).up hA) ⟨W.heap.size,0,none⟩ 1 1 [.int .i64 s] rfl (fun j u hj=>by
  have hj0:j=0:=by
   have:=(List.getElem?_eq_some_iff.1 hj).1
   simp at this
   exact this
  subst hj0
  have e:(⟨W.heap.size,0,none⟩:Addr).add 0=⟨W.heap.size,0,none⟩:=by unfold Addr.add;split <;> simp_all
  rw [e,hnew 0]
  simpa using hj) (fun u hu=>by
  simp at hu
  subst hu
  rfl) (by unfold maxLen;omega) (by omega) (by omega)
 rw [ug] at h2
 obtain ⟨a',c',rfl,hv⟩:=wI h2
 have hcap':R.L c+1≤c':=by
  rcases h2.2 with ⟨_,e0⟩ | ⟨g9,cap9,cur9,e9,_,_,h9,_⟩
  ·
   omega
  cases e9
  exact h9
 refine ⟨a',c',W2,hr,?_⟩
 have hown:∀ x,x∈iI (R.A c)↔some x=(Value.slice (R.A c) (R.L c) (R.C c)).ownBlock:=by
  intro x
  cases R.A c with
  | none=>simp [iI,Value.ownBlock]
  | some ad=>simp [iI,Value.ownBlock]
 have hblk:∀ k,k<W.heap.size→k∉iI (R.A c)→W2.heap[k]?=W.heap[k]?:=fun k hk hne=>(h3.block k (by omega) (fun e=>hne ((hown k).2 e))).trans (hA.block k hk)
 have hty:∀ x∈iI (R.A c),∃ arr,W.heap[x]?=some (.cells arr 2 (0,0)):=fun x hx=>by
  rcases (h.z c hc).2 with ⟨e,_⟩ | ⟨g,cap,cur,e,hg,hbk,_⟩
  ·
   injection e with e2
   rw [e2] at hx
   simp [iI] at hx
  have e2:R.A c=some ⟨g,0,none⟩:=by injection e with e2
  rw [e2] at hx
  simp [iI] at hx
  subst hx
  exact ⟨cur,hbk⟩
 have hnt:∀ (g:Nat) (arr:Array Value) (t:TypeId),t≠2→W.heap[g]?=some (.cells arr t (0,0))→g∉iI (R.A c):=fun g arr t ht hg hx=>by
  obtain ⟨arr',h'⟩:=hty g hx
  rw [hg] at h'
  simp at h'
  exact ht h'.2
 rcases h.own.s with h0 | ⟨g,hg,hbg,hrow⟩
 ·
  omega
 rw [hS] at hg
 cases hg
 have hrow2:ja gS 27 R.nS (fun i=>.slice (R.A i) (R.L i) (R.C i)) R.nS W2:=by
  refine hrow.jQ (hblk gS hrow.lt ?_)
  obtain ⟨arr,hx,_⟩:=hrow
  exact hnt gS arr _ (by decide) hx
 obtain ⟨arr2,hb2,hn2,hc2⟩:=hrow2
 have ht:Touch [gS] W2 (W2.setCell ⟨gS,c,none⟩ (.slice a' (R.L c+1) c')):=(Touch.refl _ _).set (by simp) c _
 have key2:∀ {a:Option Addr} {n:Nat} {f:Nat→Int},VI W2 base a n f→VI (W2.setCell ⟨gS,c,none⟩ (.slice a' (R.L c+1) c')) base a n f:=fun hv=>hv.iu ht (fun x hx hx2=>by
  simp at hx2
  subst hx2
  exact yR hv (by decide) hb2 hx)
 have key:∀ {a:Option Addr} {n:Nat} {f:Nat→Int},VI W base a n f→(∀ x∈jR a n,x∉iI (R.A c))→VI (W2.setCell ⟨gS,c,none⟩ (.slice a' (R.L c+1) c')) base a n f:=fun hv hp=>key2 (hv.EY (fun x hx hlt=>hblk x hlt (hp x hx)))
 have hnO:∀ x∈iI a',x∈iI (R.A c)∨x=W.heap.size+1:=fun x hx'=>by
  cases a' with
  | none=>simp [iI] at hx'
  | some ad =>
   simp [iI] at hx'
   subst hx'
   rcases h5 with h5 | h5
   ·
    exact .inl ((hown _).2 (by rw [←h5];rfl))
   right
   rw [e1] at h5
   simpa [Value.ownBlock] using h5
 have hnb:∀ x∈jR a' (R.L c+1),x∈iI (R.A c)∨x=W.heap.size+1:=fun x hx=>hnO x (jX hx)
 have hoi:OI W2 base a' (R.L c+1) c' (jM (R.L c) s (R.z c)):=h2
 have keyz:∀ {a:Option Addr} {n c1:Nat} {f:Nat→Int},OI W2 base a n c1 f→OI (W2.setCell ⟨gS,c,none⟩ (.slice a' (R.L c+1) c')) base a n c1 f:=fun k=>⟨k.1,k.2.imp id (by
  rintro ⟨g,cap,cur,e,hg,hbk,hr⟩
  refine ⟨g,cap,cur,e,hg,(ht.block g (ig hbk) (fun hx=>?_)).trans hbk,hr⟩
  simp at hx
  subst hx
  rw [hb2] at hbk
  simp at hbk)⟩
 have keyO:∀ {a:Option Addr} {n c1:Nat} {f:Nat→Int},OI W base a n c1 f→(∀ x∈iI a,x∉iI (R.A c))→OI W2 base a n c1 f:=fun k hp=>⟨k.1,k.2.imp id (by
  rintro ⟨g,cap,cur,e,hg,hbk,hr⟩
  refine ⟨g,cap,cur,e,hg,(hblk g (ig hbk) (hp g ?_)).trans hbk,hr⟩
  injection e with e2
  rw [e2]
  simp [iI])⟩
 have hbO:∀ {a:Option Addr} {n c1:Nat} {f:Nat→Int},OI W base a n c1 f→∀ x∈iI a,x<W.heap.size:=fun k x hx=>by
  rcases k.2 with ⟨e,_⟩ | ⟨g,cap,cur,e,hg,hbk,_⟩
  ·
   injection e with e2
   rw [e2] at hx
   simp [iI] at hx
  injection e with e2
  rw [e2] at hx
  simp [iI] at hx
  subst hx
  exact ig hbk
 have hap:∀ {a:Option Addr} {n:Nat} {f:Nat→Int},VI W base a n f→(∀ x∈jR a n,x∉iI (R.A c))→ke a n a' (R.L c+1):=fun hv hp x hx hy=>by
  rcases hnb x hy with h6 | h6
  ·
   exact hp x hx h6
  have:=(hv.blk x hx).2
  omega
 have hpz:∀ i,i<R.nS→i≠c→∀ x∈jR (R.A i) (R.L i),x∉iI (R.A c):=fun i hi hne x hx=>h.zz i c hi hc hne x (jX hx)
 refine ⟨⟨⟨key h.own.q (h.qz c hc),key h.own.d (h.dz c hc),.inr ⟨gS,hS,hbg,?_⟩,fun i hi=>?_,h.own.qd,fun i hi=>?_,fun i hi=>?_,fun i j hi hj hne=>?_⟩,fun i hi=>?_,fun i hi=>?_,fun i hi=>?_,fun i j hi hj hne=>?_⟩,?_,⟨arr2,hb2,hn2,hc2⟩,fun g arr t htt hg=>(hblk g (ig hg) (hnt g arr t htt hg)).trans hg,hcap'⟩
 ·
  refine ⟨_,iL hb2 _,by simpa [Rnd.push] using hn2,fun i hi=>?_⟩
  show _=some (Value.slice (if i=c then a' else R.A i) (if i=c then R.L c+1 else R.L i) (if i=c then c' else R.C i))
  by_cases e:i=c
  ·
   subst e
   simp only [if_true]
   exact Array.getElem?_setIfInBounds_self_of_lt (by omega)
  rw [Array.getElem?_setIfInBounds_ne (by omega),hc2 i hi,if_neg e,if_neg e,if_neg e]
 ·
  show VI _ base (if i=c then a' else R.A i) (if i=c then R.L c+1 else R.L i) (fun j=>if i=c then jM (R.L c) s (R.z c) j else R.z i j)
  by_cases e:i=c
  ·
   subst e
   simp only [if_true]
   exact key2 hv
  simp only [if_neg e]
  exact key (h.own.z i hi) (hpz i hi e)
 ·
  show ke R.aQ R.nQ (if i=c then a' else R.A i) (if i=c then R.L c+1 else R.L i)
  by_cases e:i=c
  ·
   subst e
   simp only [if_true]
   exact hap h.own.q (h.qz i hc)
  simp only [if_neg e]
  exact h.own.qz i hi
 ·
  show ke R.aD R.nD (if i=c then a' else R.A i) (if i=c then R.L c+1 else R.L i)
  by_cases e:i=c
  ·
   subst e
   simp only [if_true]
   exact hap h.own.d (h.dz i hc)
  simp only [if_neg e]
  exact h.own.dz i hi
 ·
  show ke (if i=c then a' else R.A i) (if i=c then R.L c+1 else R.L i) (if j=c then a' else R.A j) (if j=c then R.L c+1 else R.L j)
  by_cases e:i=c
  ·
   have e2:j≠c:=fun e2=>hne (e.trans e2.symm)
   simp only [if_pos e,if_neg e2]
   exact (hap (h.own.z j hj) (hpz j hj e2)).symm
  by_cases e2:j=c
  ·
   simp only [if_neg e,if_pos e2]
   exact hap (h.own.z i hi) (hpz i hi e)
  simp only [if_neg e,if_neg e2]
  exact h.own.zz i j hi hj hne
 ·
  show OI _ base (if i=c then a' else R.A i) (if i=c then R.L c+1 else R.L i) (if i=c then c' else R.C i) (fun j=>if i=c then jM (R.L c) s (R.z c) j else R.z i j)
  by_cases e:i=c
  ·
   subst e
   simp only [if_true]
   exact keyz hoi
  simp only [if_neg e]
  exact keyz (keyO (h.z i hi) (h.zz i c hi hc e))
 ·
  show ∀ x∈jR R.aQ R.nQ,x∉iI (if i=c then a' else R.A i)
  intro x hx hy
  by_cases e:i=c
  ·
   rw [if_pos e] at hy
   rcases hnO x hy with h6 | h6
   ·
    exact h.qz c hc x hx h6
   have:=(h.own.q.blk x hx).2
   omega
  rw [if_neg e] at hy
  exact h.qz i hi x hx hy
 ·
  show ∀ x∈jR R.aD R.nD,x∉iI (if i=c then a' else R.A i)
  intro x hx hy
  by_cases e:i=c
  ·
   rw [if_pos e] at hy
   rcases hnO x hy with h6 | h6
   ·
    exact h.dz c hc x hx h6
   have:=(h.own.d.blk x hx).2
   omega
  rw [if_neg e] at hy
  exact h.dz i hi x hx hy
 ·
  show ∀ x∈iI (if i=c then a' else R.A i),x∉iI (if j=c then a' else R.A j)
  intro x hx hy
  by_cases e:i=c
  ·
   have e2:j≠c:=fun e2=>hne (e.trans e2.symm)
   rw [if_pos e] at hx
   rw [if_neg e2] at hy
   rcases hnO x hx with h6 | h6
   ·
    exact h.zz j c hj hc e2 x hy h6
   have:=hbO (h.z j hj) x hy
   omega
  rw [if_neg e] at hx
  by_cases e2:j=c
  ·
   rw [if_pos e2] at hy
   rcases hnO x hy with h6 | h6
   ·
    exact h.zz i c hi hc e x hx h6
   have:=hbO (h.z i hi) x hx
   omega
  rw [if_neg e2] at hy
  exact h.zz i j hi hj hne x hx hy
 exact (((Below.refl base W).alloc hb (.cells #[.int .i64 s] 2)).grown h3 (by omega) (fun k e=>((h.z c hc).blk k ((hown k).2 e.symm)).1)).setCell hbg _
structure Mk2 (R:Rnd) (w W:World) (E1 E2:Option Nat) (Q D:Option (Option Addr)) (B:Option Nat):Prop where
 below:Below w.heap.size w W
 e1:∀ g,E1=some g→w.heap.size≤g∧W.heap[g]?=some (.cells #[] 2 (0,0))
 e2:∀ g,E2=some g→w.heap.size≤g∧W.heap[g]?=some (.cells #[] 2 (0,0))
 ee:∀ g g',E1=some g→E2=some g'→g≠g'
 q:∀ a,Q=some a→VI W w.heap.size a R.nQ R.q
 d:∀ a,D=some a→VI W w.heap.size a R.nD R.d
 qe:∀ a g,Q=some a→E2=some g→g∉jR a R.nQ
 qd:∀ a a',Q=some a→D=some a'→ke a R.nQ a' R.nD
 b:∀ g,B=some g→w.heap.size≤g∧W.heap[g]?=some (.cells qT 45 (0,0))
theorem Mk2.start {R:Rnd} (h:Below w.heap.size w W):Mk2 R w W none none none none none :=
 ⟨h,fun _ e=>by simp at e,fun _ e=>by simp at e,fun _ _ e=>by simp at e,fun _ e=>by simp at e,fun _ e=>by simp at e,fun _ _ e=>by simp at e,fun _ _ e=>by simp at e,fun _ e=>by simp at e⟩
theorem Mk2.up {R:Rnd} {D:Option (Option Addr)} (h:Mk2 R w W E1 E2 Q D B) (hb:Below W.heap.size W W'):Mk2 R w W' E1 E2 Q D B :=
 ⟨h.below.trans (hb.mono h.below.size),fun g e=>⟨(h.e1 g e).1,(hb.block _ (ig (h.e1 g e).2)).trans (h.e1 g e).2⟩,fun g e=>⟨(h.e2 g e).1,(hb.block _ (ig (h.e2 g e).2)).trans (h.e2 g e).2⟩,h.ee,fun a e=>(h.q a e).up hb,fun a e=>(h.d a e).up hb,h.qe,h.qd,
  fun g e=>⟨(h.b g e).1,(hb.block _ (ig (h.b g e).2)).trans (h.b g e).2⟩⟩
theorem Mk2.C6 {R:Rnd} {D:Option (Option Addr)} (h:Mk2 R w W none E2 Q D B) :
  ∃ g W',g=W.heap.size∧W'=W.alloc (.cells #[] 2)∧Mk2 R w W' (some g) E2 Q D B:=by
 have h':=h.up (W':=W.alloc (.cells #[] 2)) ((Below.refl _ _).alloc (Nat.le_refl _) _)
 exact ⟨_,_,rfl,rfl,h'.below,fun g e=>by cases e;exact ⟨h.below.size,im _ _⟩,h'.e2,fun g g' e e'=>by cases e;have:=ig (h.e2 g' e').2;omega,h'.q,h'.d,h'.qe,h'.qd,h'.b⟩
theorem Mk2.zA {R:Rnd} {D:Option (Option Addr)} (h:Mk2 R w W E1 none Q D B) :
  ∃ g W',g=W.heap.size∧W'=W.alloc (.cells #[] 2)∧Mk2 R w W' E1 (some g) Q D B:=by
 have h':=h.up (W':=W.alloc (.cells #[] 2)) ((Below.refl _ _).alloc (Nat.le_refl _) _)
 exact ⟨_,_,rfl,rfl,h'.below,h'.e1,fun g e=>by cases e;exact ⟨h.below.size,im _ _⟩,fun g g' e e'=>by cases e';have:=ig (h.e1 g e).2;omega,h'.q,h'.d,fun a g e e' hx=>by cases e';have:=((h.q a e).blk _ hx).2;omega,h'.qd,h'.b⟩
theorem Mk2.tS {R:Rnd} {D:Option (Option Addr)} (h:Mk2 R w W E1 E2 Q D none) :
  ∃ g W',g=W.heap.size∧W'=W.alloc (.cells ae 45)∧Mk2 R w W' E1 E2 Q D (some g):=by
 have h':=h.up (W':=W.alloc (.cells qT 45)) ((Below.refl _ _).alloc (Nat.le_refl _) _)
 exact ⟨_,_,rfl,rfl,h'.below,h'.e1,h'.e2,h'.ee,h'.q,h'.d,h'.qe,h'.qd,fun g e=>by cases e;exact ⟨h.below.size,im _ _⟩⟩
theorem Eo {g:Nat} (ht:t≠2) (h:W.heap[g]?=some (.cells arr t (0,0))) (hE:W.heap[gE]?=some (.cells #[] 2 (0,0))):g≠gE:=by
 rintro rfl
 rw [h] at hE
 simp at hE
 exact ht hE.2
theorem Mk2.Gc {R:Rnd} {g1:Nat} (c:Nat) (h:Mk2 R w W (some g1) E2 none none B) (hn:R.nQ≤1048576) (hr:iP W a R.nQ fun i=>.int .i64 (R.q i)) :
  ∃ aq cq W',(Builtin.append_ #[27,27] 27 #[.slice (some ⟨g1,0,none⟩) 0 0,.slice a R.nQ c]).run Tryz.prog W=.ok (.slice aq R.nQ cq) W'∧Mk2 R w W' none E2 (some aq) none B:=by
 have hE:=h.e1 g1 rfl
 obtain ⟨a',c',W',hrun,ho,hg,hp⟩:=oJ (c:=c) (om hE.1 hE.2) h.below.size hn hr
 have hk:∀ k,k<W.heap.size→k≠g1→W'.heap[k]?=W.heap[k]?:=fun k hk hne=>hg.block k hk (by simpa [Value.ownBlock] using hne)
 refine ⟨a',c',W',hrun,h.below.grown hg h.below.size (fun k e=>by simp [Value.ownBlock] at e;rw [←e];exact hE.1),fun _ e=>by simp at e,fun g e=>⟨(h.e2 g e).1,(hk g (ig (h.e2 g e).2) (h.ee g1 g rfl e).symm).trans (h.e2 g e).2⟩,fun _ _ e=>by simp at e,fun a e=>by cases e;exact ho.vi,fun _ e=>by simp at e,fun a g e e' hx=>?_,fun _ _ _ e=>by simp at e,fun g e=>⟨(h.b g e).1,(hk g (ig (h.b g e).2) (Eo (by decide) (h.b g e).2 hE.2)).trans (h.b g e).2⟩⟩
 cases e
 rcases hp g (jX hx) with h6 | h6
 ·
  simp [Value.ownBlock] at h6
  exact h.ee g1 g rfl e' h6.symm
 have:=ig (h.e2 g e').2
 omega
theorem Mk2.xU {R:Rnd} {g2:Nat} {aq:Option Addr} (c:Nat) (h:Mk2 R w W none (some g2) (some aq) none B) (hn:R.nD≤1048576) (hr:iP W a R.nD fun i=>.int .i64 (R.d i)) :
  ∃ ad cd W',(Builtin.append_ #[27,27] 27 #[.slice (some ⟨g2,0,none⟩) 0 0,.slice a R.nD c]).run Tryz.prog W=.ok (.slice ad R.nD cd) W'∧Mk2 R w W' none none (some aq) (some ad) B:=by
 have hE:=h.e2 g2 rfl
 obtain ⟨a',c',W',hrun,ho,hg,hp⟩:=oJ (c:=c) (om hE.1 hE.2) h.below.size hn hr
 have hk:∀ k,k<W.heap.size→k≠g2→W'.heap[k]?=W.heap[k]?:=fun k hk hne=>hg.block k hk (by simpa [Value.ownBlock] using hne)
 refine ⟨a',c',W',hrun,h.below.grown hg h.below.size (fun k e=>by simp [Value.ownBlock] at e;rw [←e];exact hE.1),fun _ e=>by simp at e,fun _ e=>by simp at e,fun _ _ e=>by simp at e,fun a e=>by cases e;exact (h.q aq rfl).EY (fun x hx hlt=>hk x hlt (fun e=>h.qe aq g2 rfl rfl (e▸hx))),fun a e=>by cases e;exact ho.vi,fun _ _ _ e=>by simp at e,fun a a2 e e' x hx hy=>?_,fun g e=>⟨(h.b g e).1,(hk g (ig (h.b g e).2) (Eo (by decide) (h.b g e).2 hE.2)).trans (h.b g e).2⟩⟩
 cases e
 cases e'
 rcases hp x (jX hy) with h6 | h6
 ·
  simp [Value.ownBlock] at h6
  exact h.qe aq g2 rfl rfl (h6▸hx)
 have:=((h.q aq rfl).blk x hx).2
 omega
