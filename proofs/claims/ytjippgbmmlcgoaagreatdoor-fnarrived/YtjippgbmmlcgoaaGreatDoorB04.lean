import Derived.Test.YtjippgbmmlcgoaaGreatDoorB03
import Derived.BigQuiet
import Derived.Deep.QuietTactic
import Derived.Deep.RegionHeld3
import Derived.Handy
import Derived.Laws.BitsAllLaws
import Derived.Laws.BytesArg
import Derived.Laws.MakeOwn
import Derived.Maps.AppendAt
import Derived.OwnWalk
namespace Go.Proofs.YtjippgbmmlcgoaaGreatDoor
set_option maxHeartbeats 9000000
open Go.RowKit
set_option linter.unusedVariables false
set_option linter.unusedSimpArgs false
variable {a a':Act} {l listed:Array Bool} {nx x:Int} {S:List Nat} {xs:List Value} {B base base' d fuel g i k m n:Nat} {z:Nat→Int} {f:Nat→Value} {o oi:Oper} {p:Prop} {e t:TypeId} {b w w' w2:World}
theorem ao (h:p:=by
 go_wp2_with fail
 go_ret
 exact ⟨iv HF.symm,HA _⟩):p:=h
theorem ar (h:p:=by
 clear hok h0
 go_enter Tryz.func138,Tryz.ntmps138
 go_wp2_with fail
 go_ret
 exact ⟨iv HE,HA _⟩):p:=h
theorem G7 (h:p:=by
 rw [Array.getElem?_eq_getElem h3] at h2
 exact ((hb.cell (p:=⟨g,o+i*8+j,none⟩) (kQ h2)).trans h2).trans (Array.getElem?_eq_getElem h3).symm):p:=h
theorem aw (h:p:=by
 rw [Hid,Bool.eq_iff_iff,hok];simp [ry,h0,hd]):p:=h
structure Touch (S:List Nat) (w w':World):Prop where
 os:w'.os=w.os
 tape:w'.tape=w.tape
 output:w'.output=w.output
 size:w.heap.size≤w'.heap.size
 block:∀ k,k<w.heap.size→k∉S→w'.heap[k]?=w.heap[k]?
theorem Touch.refl (S:List Nat) (w:World):Touch S w w:=⟨rfl,rfl,rfl,Nat.le_refl _,fun _ _ _=>rfl⟩
theorem Touch.trans {a c:World} (h:Touch S a b) (k:Touch S b c):Touch S a c :=
 ⟨k.os.trans h.os,k.tape.trans h.tape,k.output.trans h.output,Nat.le_trans h.size k.size,fun i hi hn=>(k.block i (Nat.lt_of_lt_of_le hi h.size) hn).trans (h.block i hi hn)⟩
theorem Touch.mono {S':List Nat} {a:World} (h:Touch S a b) (hs:∀ x∈S,x∈S'):Touch S' a b:=⟨h.os,h.tape,h.output,h.size,fun k hk hn=>h.block k hk (fun hm=>hn (hs k hm))⟩
theorem Touch.jq {a:World} (h:Below a.heap.size a b):Touch S a b:=⟨h.os,h.tape,h.output,h.size,fun i hi _=>h.block i hi⟩
theorem Touch.below {a:World} (h:Touch S a b) (hB:B≤a.heap.size) (hS:∀ x∈S,B≤x):Below B a b :=
 ⟨h.os,h.tape,h.output,h.size,fun k hk=>h.block k (by omega) (fun hm=>by have:=hS k hm;omega)⟩
theorem Touch.set {a:World} (h:Touch S a b) (hg:g∈S) (i:Nat) (v:Value):Touch S a (b.setCell ⟨g,i,none⟩ v) :=
 h.trans ⟨rfl,rfl,rfl,by simp [World.setCell],fun k _ hn=>iE (by intro e;subst e;exact hn hg) v⟩
def ja (g:Nat) (t:TypeId) (n:Nat) (f:Nat→Value) (k:Nat) (w:World):Prop :=
 ∃ arr:Array Value,w.heap[g]?=some (.cells arr t (0,0))∧n≤arr.size∧∀ i,i<k→arr[i]?=some (f i)
theorem ja.there (h:ja g t n f k w) (i:Nat) (hi:i<n):∃ v,w.cell? ⟨g,i,none⟩=some v:=by
 obtain ⟨arr,hb,hn,hc⟩:=h
 exact ⟨arr[i],by rw [ie hb];simp⟩
theorem ja.free (h:ja g t n f k w) (i:Nat):w.frozen? ⟨g,i,none⟩=false:=by
 obtain ⟨arr,hb,hn,hc⟩:=h
 exact ix hb i
theorem ja.at (h:ja g t n f n w) (i:Nat) (hi:i<n):w.cell? ⟨g,i,none⟩=some (f i):=by
 obtain ⟨arr,hb,hn,hc⟩:=h
 rw [ie hb];exact hc i hi
theorem ja.jQ (h:ja g t n f k w) (hb:w'.heap[g]?=w.heap[g]?):ja g t n f k w':=by
 obtain ⟨arr,h1,h2,h3⟩:=h
 exact ⟨arr,hb.trans h1,h2,h3⟩
theorem ja.lt (h:ja g t n f k w):g<w.heap.size:=by
 obtain ⟨arr,h1,h2,h3⟩:=h
 exact ig h1
structure Same (w w':World):Prop where
 os:w'.os=w.os
 tape:w'.tape=w.tape
 output:w'.output=w.output
 heap:w'.heap=w.heap
theorem Same.refl (w:World):Same w w:=⟨rfl,rfl,rfl,rfl⟩
theorem Same.drewN {a:World} (h:Same a b) (n:Nat):Same a (b.drewN n):=⟨h.os,h.tape,h.output,h.heap⟩
theorem Same.cell {a:World} (h:Same a b) (p:Addr):b.cell? p=a.cell? p:=by unfold World.cell?;rw [h.heap]
theorem Same.below {a:World} (h:Same a b) (B:Nat):Below B a b:=⟨h.os,h.tape,h.output,by rw [h.heap];exact Nat.le_refl _,fun k _=>by rw [h.heap]⟩
def iP (w:World) (a:Option Addr) (n:Nat) (v:Nat→Value):Prop:=∀ i,i<n→∃ g o,a=some ⟨g,o,none⟩∧w.cell? ⟨g,o+i,none⟩=some (v i)
theorem iP.up {a:Option Addr} {v:Nat→Value} (h:iP w a n v) (hb:Below w.heap.size w w2):iP w2 a n v:=by
 intro i hi
 obtain ⟨g,o,ha,hc⟩:=h i hi
 exact ⟨g,o,ha,(hb.cell (p:=⟨g,o+i,none⟩) (kQ hc)).trans hc⟩
theorem iP.kk {a:Option Addr} {v:Nat→Value} (h:iP w a n v) (hb:Touch S w w2) (hS:∀ b,a=some b→b.block∉S):iP w2 a n v:=by
 intro i hi
 obtain ⟨g,o,ha,hc⟩:=h i hi
 refine ⟨g,o,ha,?_⟩
 rw [World.cell?_of_block (w:=w) (a:=⟨g,o+i,none⟩) (hb.block g (kQ hc) (hS _ ha))]
 exact hc
theorem ja.read (h:ja g t n f n w):iP w (some ⟨g,0,none⟩) n f :=
 fun i hi=>⟨g,0,rfl,by rw [Nat.zero_add];exact h.at i hi⟩
theorem iP.nil (w:World) (a:Option Addr) (v:Nat→Value):iP w a 0 v:=fun i hi=>by omega
section
variable {P : Program} {ops : Array Oper} {Q : Exit → Act → World → Prop} {md : Region.Mode} {S : World → Prop}
theorem mn (d:Option Tmp) {v:Value} (hi:ops[i]?=some oi) (hd:oi.dst=d)
  (hs:Region.noSelect ops=true) (hf:Region.free md ops listed i=true) (hr:(Region.ready md ops listed).contains i=true)
  (hQ:∀ c a w,Q (.panic c) (a.put d v) w→Q (.panic c) a w) (hw:Region.wanted oi (yielded ops a.tmps)=true) (hy:∀ w,S w→(execOp a.eval oi).run P w=.ok (.value v) w) (hS:S w)
  (h:wpAnyH P md ops Q S fuel (listed.setIfInBounds i true) (a.put d v) w):wpAnyH P md ops Q S (fuel+1) listed a w:=by
 subst hd
 exact wpAnyH_take hi hs hf hr hQ (Or.inl ⟨hw,hy⟩) hS h
theorem FA (d:Option Tmp) (hi:ops[i]?=some oi) (hd:oi.dst=d)
  (hs:Region.noSelect ops=true) (hf:Region.free md ops listed i=true) (hr:(Region.ready md ops listed).contains i=true)
  (hQ:∀ c a w,Q (.panic c) (a.put d undef) w→Q (.panic c) a w) (hw:Region.wanted oi (yielded ops a.tmps)=false) (hS:S w)
  (h:wpAnyH P md ops Q S fuel (listed.setIfInBounds i true) (a.put d undef) w):wpAnyH P md ops Q S (fuel+1) listed a w:=by
 subst hd
 exact wpAnyH_take hi hs hf hr hQ (Or.inr ⟨hw,rfl⟩) hS h
end
theorem uv {K:Act→World→Prop} {Q:Exit→Act→World→Prop} {W W':World} {c:Prop} [Decidable c] {E:Prop} (hc:c) (s x:Operand) (t:TypeId) (vs vx v:Value)
  (ho:o.op=.call { callee:=.builtin .append,args:=#[s,x],argTypes:=#[t,t] }) (hty:o.type=t) (hs:a.eval s=vs) (hx:a.eval x=vx)
  (hr:(Builtin.append_ #[t,t] t #[vs,vx]).run Tryz.prog W=.ok v W') (h:K (a.put o.dst v) W'):if c then o.wp Tryz.prog a W K Q else E:=by
 rw [if_pos hc]
 unfold Oper.wp execOp
 simp only [ho,resolve,invoke,builtin,Sem.run_bind,Sem.run_pure,Result.andThen_ok,List.map_toArray,List.map_cons,List.map_nil,hs,hx,hty]
 simp only [hr,Result.andThen_ok]
 exact h
section
variable {P : Program} {ops : Array Oper} {Q : Exit → Act → World → Prop} {md : Region.Mode} {S : World → Prop}
end
theorem PZ {α:Type _}:(∀ (l:List α) (i:Nat) (a:α),l.toArray.setIfInBounds i a=(l.set i a).toArray)∧(∀ (x:α) (xs:List α) (a:α),(x :: xs).set 0 a=a :: xs) ∧
  (∀ (x:α) (xs:List α) (n:Nat) (a:α),(x :: xs).set (n+1) a=x :: xs.set n a) :=
 ⟨fun _ _ _=>List.setIfInBounds_toArray _ _ _,fun _ _ _=>List.set_cons_zero,fun _ _ _ _=>List.set_cons_succ⟩
theorem ah {P Q R:Prop} (h:Q→P) (q:R) (e:Q=R:=by (try simp only [Act.put,PZ]);try exact rfl):P:=h (e▸q)
section
variable {P : Program} {ops : Array Oper} {Q : Exit → Act → World → Prop} {md : Region.Mode} {S : World → Prop}
theorem tC (i d:Nat) {v:Value} (hy:∀ w,S w→(execOp a.eval oi).run P w=.ok (.value v) w)
  (h:wpAnyH P md ops Q S fuel (listed.setIfInBounds i true) (a.put (some d) v) w) (hi:ops[i]?=some oi:=by rfl) (hd:oi.dst=some d:=by rfl)
  (hs:Region.noSelect ops=true:=by kernel_rfl) (hf:Region.free md ops listed i=true:=by kernel_rfl) (hr:(Region.ready md ops listed).contains i=true:=by kernel_rfl)
  (hQ:∀ c a w,Q (.panic c) (a.put (some d) v) w→Q (.panic c) a w:=by exact fun _ _ _ h=>h) (hw:Region.wanted oi (yielded ops a.tmps)=true:=by kernel_rfl) (hS:S w:=by assumption) :
  wpAnyH P md ops Q S (fuel+1) listed a w :=
 mn (some d) hi hd hs hf hr hQ hw hy hS h
theorem tP (i d:Nat) {v:Value} 
  (h:wpAnyH P md ops Q S fuel (listed.setIfInBounds i true) a' w) (hi:ops[i]?=some oi:=by rfl) (hd:oi.dst=some d:=by rfl)
  (hy:∀ w,S w→(execOp a.eval oi).run P w=.ok (.value v) w:=by intro wx hSw;go_simp;try (with_reducible rfl))
  (ha:a.put (some d) v=a':=by (try simp only [Act.put,PZ]);try exact rfl) (hs:Region.noSelect ops=true:=by kernel_rfl) (hf:Region.free md ops listed i=true:=by kernel_rfl) (hr:(Region.ready md ops listed).contains i=true:=by kernel_rfl)
  (hQ:∀ c a w,Q (.panic c) (a.put (some d) v) w→Q (.panic c) a w:=by exact fun _ _ _ h=>h) (hw:Region.wanted oi (yielded ops a.tmps)=true:=by kernel_rfl) (hS:S w:=by assumption) :
  wpAnyH P md ops Q S (fuel+1) listed a w :=
 mn (some d) hi hd hs hf hr hQ hw hy hS (by rw [ha];exact h)
theorem sA (i d:Nat) 
  (h:wpAnyH P md ops Q S fuel (listed.setIfInBounds i true) a' w) (hi:ops[i]?=some oi:=by rfl) (hd:oi.dst=some d:=by rfl)
  (ha:a.put (some d) undef=a':=by (try simp only [Act.put,PZ]);try exact rfl) (hs:Region.noSelect ops=true:=by kernel_rfl) (hf:Region.free md ops listed i=true:=by kernel_rfl) (hr:(Region.ready md ops listed).contains i=true:=by kernel_rfl)
  (hQ:∀ c a w,Q (.panic c) (a.put (some d) undef) w→Q (.panic c) a w:=by exact fun _ _ _ h=>h) (hw:Region.wanted oi (yielded ops a.tmps)=false:=by kernel_rfl) (hS:S w:=by assumption) :
  wpAnyH P md ops Q S (fuel+1) listed a w :=
 FA (some d) hi hd hs hf hr hQ hw hS (by rw [ha];exact h)
end
section
variable {P : Program} {ops : Array Oper} {Q : Exit → Act → World → Prop} {md : Region.Mode} {S : World → Prop}
theorem rq1 (i:Nat) 
  (h:∀ K':Act→World→Prop,Shut (∀ a w,S w→(S w→wpAnyH P md ops Q S fuel (l.setIfInBounds i true) a w)→K' a w)→if Region.wanted o (yielded ops a.tmps)=true then Oper.wp P o a w K' Q else K' (a.put o.dst undef) w)
  (ho:ops[i]?=some o:=by rfl) (hr:Region.ready md ops l=[i]:=by kernel_rfl):wpAnyH P md ops Q S (fuel+1) l a w :=
 wpAnyH_ready hr (List.cons_ne_nil _ _) (AllReadyH.cons ho h AllReadyH.nil)
theorem rq2 (i j:Nat) {o2:Oper} 
  (h:∀ K':Act→World→Prop,Shut (∀ a w,S w→(S w→wpAnyH P md ops Q S fuel (l.setIfInBounds i true) a w)→K' a w)→if Region.wanted o (yielded ops a.tmps)=true then Oper.wp P o a w K' Q else K' (a.put o.dst undef) w)
  (h2:∀ K':Act→World→Prop,Shut (∀ a w,S w→(S w→wpAnyH P md ops Q S fuel (l.setIfInBounds j true) a w)→K' a w)→if Region.wanted o2 (yielded ops a.tmps)=true then Oper.wp P o2 a w K' Q else K' (a.put o2.dst undef) w)
  (ho:ops[i]?=some o:=by rfl) (ho2:ops[j]?=some o2:=by rfl) (hr:Region.ready md ops l=[i,j]:=by kernel_rfl):wpAnyH P md ops Q S (fuel+1) l a w :=
 wpAnyH_ready hr (List.cons_ne_nil _ _) (AllReadyH.cons ho h (AllReadyH.cons ho2 h2 AllReadyH.nil))
theorem dnq (h:Q .normal a w) (hr:Region.ready md ops l=[]:=by kernel_rfl):wpAnyH P md ops Q S fuel l a w:=wpAnyH_done hr h fuel
theorem tM (i d:Nat) {v:Value} 
  (h:wpAnyH P md ops Q S fuel (l.setIfInBounds i true) a' w) (hi:ops[i]?=some oi:=by rfl) (hd:oi.dst=some d:=by rfl)
  (hy:∀ w,S w→(execOp a.eval oi).run P w=.ok (.value v) w:=by intro wx hSw;(try dsimp only at hSw);go_simp;try (with_reducible rfl))
  (ha:a.put (some d) v=a':=by (try simp only [Act.put,PZ]);try exact rfl) (hs:Region.noSelect ops=true:=by kernel_rfl) (hf:Region.free md ops l i=true:=by kernel_rfl) (hr:(Region.ready md ops l).contains i=true:=by kernel_rfl)
  (hQ:∀ c a w,Q (.panic c) (a.put (some d) v) w→Q (.panic c) a w:=by exact fun _ _ _ h=>absurd h.1 (by simp)) (hw:Region.wanted oi (yielded ops a.tmps)=true:=by kernel_rfl) (hS:S w:=by assumption) :
  wpAnyH P md ops Q S (fuel+1) l a w :=
 mn (some d) hi hd hs hf hr hQ hw hy hS (by rw [ha];exact h)
end
theorem jS (x:Int) (h0:-9223372036854775808≤x) (h1:x≤9223372036854775807):IntKind.i64.wrap x=x:=by
 rw [IntKind.wrap_i64];omega
structure Ent where
 m:Int
 p:Int
 t:Int
deriving Inhabited,DecidableEq
def Ent.v (x:Ent):Value:=.agg #[.int .i64 x.m,.int .i64 x.p,.int .i64 x.t]
def flat (f:Nat→Ent) (j:Nat):Value:=.int .i64 (if j % 3=0 then (f (j / 3)).m else if j % 3=1 then (f (j / 3)).p else (f (j / 3)).t)
theorem Am (f:Nat→Ent) (i:Nat):flat f (i*3)=.int .i64 (f i).m:=by
 unfold flat
 rw [show i*3 % 3=0 by omega,show i*3 / 3=i by omega];rfl
theorem DA (f:Nat→Ent) (i:Nat):flat f (i*3+1)=.int .i64 (f i).p:=by
 unfold flat
 rw [show (i*3+1) % 3=1 by omega,show (i*3+1) / 3=i by omega];rfl
theorem Al (f:Nat→Ent) (i:Nat):flat f (i*3+2)=.int .i64 (f i).t:=by
 unfold flat
 rw [show (i*3+2) % 3=2 by omega,show (i*3+2) / 3=i by omega];rfl
def lD (w:World) (a:Option Addr) (n:Nat) (f:Nat→Ent):Prop :=
 ∀ i,i<n→∃ g o,a=some ⟨g,o,none⟩∧w.cell? ⟨g,o+i*3,none⟩=some (.int .i64 (f i).m)∧w.cell? ⟨g,o+i*3+1,none⟩=some (.int .i64 (f i).p)∧w.cell? ⟨g,o+i*3+2,none⟩=some (.int .i64 (f i).t)
theorem lD.up {a:Option Addr} {f:Nat→Ent} (h:lD w a n f) (hb:Below w.heap.size w w2):lD w2 a n f:=by
 intro i hi
 obtain ⟨g,o,ha,h1,h2,h3⟩:=h i hi
 exact ⟨g,o,ha,(hb.cell (p:=⟨g,o+i*3,none⟩) (kQ h1)).trans h1,(hb.cell (p:=⟨g,o+i*3+1,none⟩) (kQ h2)).trans h2,(hb.cell (p:=⟨g,o+i*3+2,none⟩) (kQ h3)).trans h3⟩
theorem lD.nil (w:World) (a:Option Addr) (f:Nat→Ent):lD w a 0 f:=fun i hi=>by omega
theorem ja.DB {f:Nat→Ent} (h:ja g t (n*3) (flat f) (n*3) w):lD w (some ⟨g,0,none⟩) n f:=by
 intro i hi
 refine ⟨g,0,rfl,?_,?_,?_⟩
 ·
  rw [Nat.zero_add,h.at _ (by omega),Am]
 ·
  rw [Nat.zero_add,h.at _ (by omega),DA]
 rw [Nat.zero_add,h.at _ (by omega),Al]
def me (x:Ent):Prop:=(1≤x.m∧x.m≤20)∧(0≤x.p∧x.p≤3)∧(0≤x.t∧x.t≤1000000000)
instance (x:Ent):Decidable (me x):=by unfold me;exact inferInstance
def ka (n:Nat) (f:Nat→Ent):Prop:=∀ i,i<n→me (f i)∧(0<i→(f (i-1)).m<(f i).m)
def mA (n:Nat) (f:Nat→Ent):Prop:=n≤8∧ka n f
theorem ka.step {f:Nat→Ent} (h:ka k f) (h1:me (f k)) (h2:0<k→(f (k-1)).m<(f k).m):ka (k+1) f:=by
 intro i hi
 by_cases e:i=k
 ·
  subst e;exact ⟨h1,h2⟩
 exact h i (by omega)
theorem sb (n:Nat) (f:Nat→Ent):∃ ok:Bool,ok=true↔mA n f:=by
 by_cases h:mA n f
 ·
  exact ⟨true,by simp [h]⟩
 exact ⟨false,by simp [h]⟩
theorem lI (x:Int) (h0:-9223372036854775808≤x) (h1:x≤9223372036854775807):IntKind.i64.wrap x=x:=by
 rw [IntKind.wrap_i64];omega
structure Cfg where
 p:Int
 c:Int
 xo:Int
 xn:Int
 hd:Int
 lo:Int
 dl:Int
def Cfg.cells (C:Cfg):Array Value:=#[.int .i64 C.p,.int .i64 C.c,.int .i64 C.xo,.int .i64 C.xn,.int .i64 C.hd,.int .i64 C.lo,.int .i64 C.dl]
structure Cfg.Num (C:Cfg):Prop where
 p:2≤C.p∧C.p≤4
 c:1≤C.c∧C.c≤1000
 xo:1≤C.xo∧C.xo≤1000
 xn:0≤C.xn∧C.xn≤C.xo-1
 hd:0≤C.hd∧C.hd≤1000
 lo:0≤C.lo∧C.lo≤1000
 dl:1≤C.dl∧C.dl≤3
structure Cfg.Ok (C:Cfg):Prop where
 num:C.Num
 head:C.hd≥5*(2*C.dl+1)
 sum:C.p*(C.xo+C.hd)+C.lo≤C.c
open Classical in
theorem oo (p:Prop):∃ ok:Bool,ok=true↔p:=⟨decide p,by simp⟩
theorem iS (n lo hi:Int) (w:World) :
  Calls Tryz.prog 68 #[.int .i64 n,.int .i64 lo,.int .i64 hi] w fun e w'=>e=.returned (.bool (decide (lo≤n∧n≤hi)))∧w'=w:=by
 by_cases h1:lo≤n
 ·
  by_cases h2:n≤hi
  ·
   go_enter Tryz.func68,Tryz.ntmps68
   go_wp2
   go_ret
   exact ⟨by simp [h1,h2],rfl⟩
  go_enter Tryz.func68,Tryz.ntmps68
  exact ak
 go_enter Tryz.func68,Tryz.ntmps68
 exact ak
theorem vu (C:Cfg) (w:World) (ok:Bool) (hok:ok=true↔C.Num) :
  Calls Tryz.prog 99 #[.agg C.cells] w fun e w'=>e=.returned (.bool ok)∧Below w.heap.size w w':=by
 have HO:=aa hok
 have HA:Hid (∀ o,Below w.heap.size w (w.alloc o)):=fun o=>(Below.refl _ _).alloc (Nat.le_refl _) _
 clear hok
 unfold Cfg.cells
 go_enter Tryz.func99,Tryz.ntmps99
 go_wp2_with fail
 refine (iS _ _ _ _).mono ?_
 rintro e w' ⟨rfl,hw⟩
 rw [hw]
 clear hw w'
 by_cases h_p:2≤C.p∧C.p≤4
 rotate_left
 ·
  have HF:Hid (ok=false):=by
   show ok=false
   rw [Bool.eq_false_iff]
   intro e
   exact h_p (HO.1 e).p
  rw [decide_eq_false h_p]
  clear h_p
  exact ao
 rw [decide_eq_true h_p]
 have H_p:=aa h_p
 clear h_p
 go_wp2_with fail
 refine (iS _ _ _ _).mono ?_
 rintro e w' ⟨rfl,hw⟩
 rw [hw]
 clear hw w'
 by_cases h_c:1≤C.c∧C.c≤1000
 rotate_left
 ·
  have HF:Hid (ok=false):=by
   show ok=false
   rw [Bool.eq_false_iff]
   intro e
   exact h_c (HO.1 e).c
  rw [decide_eq_false h_c]
  clear h_c
  exact ao
 rw [decide_eq_true h_c]
 have H_c:=aa h_c
 clear h_c
 go_wp2_with fail
 refine (iS _ _ _ _).mono ?_
 rintro e w' ⟨rfl,hw⟩
 rw [hw]
 clear hw w'
 by_cases h_xo:1≤C.xo∧C.xo≤1000
 rotate_left
 ·
  have HF:Hid (ok=false):=by
   show ok=false
   rw [Bool.eq_false_iff]
   intro e
   exact h_xo (HO.1 e).xo
  rw [decide_eq_false h_xo]
  clear h_xo
  exact ao
 rw [decide_eq_true h_xo]
 have H_xo:=aa h_xo
 have h_xo1:=h_xo.1
 have h_xo2:=h_xo.2
 clear h_xo
 go_wp2_with fail
 refine (iS _ _ _ _).mono ?_
 rintro e w' ⟨rfl,hw⟩
 rw [hw]
 clear hw w'
 by_cases h_xn:0≤C.xn∧C.xn≤C.xo-1
 rotate_left
 ·
  have HF:Hid (ok=false):=by
   show ok=false
   rw [Bool.eq_false_iff]
   intro e
   exact h_xn (HO.1 e).xn
  rw [decide_eq_false h_xn]
  clear h_xn
  exact ao
 rw [decide_eq_true h_xn]
 have H_xn:=aa h_xn
 clear h_xn
 go_wp2_with fail
 refine (iS _ _ _ _).mono ?_
 rintro e w' ⟨rfl,hw⟩
 rw [hw]
 clear hw w'
 by_cases h_hd:0≤C.hd∧C.hd≤1000
 rotate_left
 ·
  have HF:Hid (ok=false):=by
   show ok=false
   rw [Bool.eq_false_iff]
   intro e
   exact h_hd (HO.1 e).hd
  rw [decide_eq_false h_hd]
  clear h_hd
  exact ao
 rw [decide_eq_true h_hd]
 have H_hd:=aa h_hd
 clear h_hd
 go_wp2_with fail
 refine (iS _ _ _ _).mono ?_
 rintro e w' ⟨rfl,hw⟩
 rw [hw]
 clear hw w'
 by_cases h_lo:0≤C.lo∧C.lo≤1000
 rotate_left
 ·
  have HF:Hid (ok=false):=by
   show ok=false
   rw [Bool.eq_false_iff]
   intro e
   exact h_lo (HO.1 e).lo
  rw [decide_eq_false h_lo]
  clear h_lo
  exact ao
 rw [decide_eq_true h_lo]
 have H_lo:=aa h_lo
 clear h_lo
 go_wp2_with fail
 refine (iS _ _ _ _).mono ?_
 rintro e w' ⟨rfl,hw⟩
 rw [hw]
 clear hw w'
 by_cases h_dl:1≤C.dl∧C.dl≤3
 rotate_left
 ·
  have HF:Hid (ok=false):=by
   show ok=false
   rw [Bool.eq_false_iff]
   intro e
   exact h_dl (HO.1 e).dl
  rw [decide_eq_false h_dl]
  clear h_dl
  exact ao
 rw [decide_eq_true h_dl]
 have H_dl:=aa h_dl
 clear h_dl
 have HT:Hid (ok=true):=HO.2 ⟨H_p.out,H_c.out,H_xo.out,H_xn.out,H_hd.out,H_lo.out,H_dl.out⟩
 go_wp2_with fail
 go_ret
 exact ⟨iv HT.symm,HA _⟩
theorem pq (C:Cfg) (w:World) (h1:1≤C.dl) (h2:C.dl≤3) :
  Calls Tryz.prog 100 #[.agg C.cells] w fun e w'=>e=.returned (.int .i64 (5*(2*C.dl+1)))∧Below w.heap.size w w':=by
 have HA:Hid (∀ o,Below w.heap.size w (w.alloc o)):=fun o=>(Below.refl _ _).alloc (Nat.le_refl _) _
 have e1:IntKind.i64.wrap (2*C.dl)=2*C.dl:=lI _ (by omega) (by omega)
 have e2:IntKind.i64.wrap (2*C.dl+1)=2*C.dl+1:=lI _ (by omega) (by omega)
 have e3:IntKind.i64.wrap (5*(2*C.dl+1))=5*(2*C.dl+1):=lI _ (by omega) (by omega)
 unfold Cfg.cells
 go_enter Tryz.func100,Tryz.ntmps100
 go_wp2_with fail
 go_ret
 exact ⟨lR (by first | rfl | omega),HA _⟩
def sv:Value:=.iface 154 (.agg #[])
def uO (i:Nat):Value:=.iface 156 (.agg #[.int .i64 i])
def CD (n:Nat):List Value:=sv :: (List.range n).map uO
theorem Bp (n:Nat):CD (n+1)=CD n++[uO n]:=by simp [CD,List.range_succ]
theorem Bo (n:Nat):(CD n)[0]?=some sv:=rfl
theorem EW (n i:Nat) (h:i<n):(CD n)[i+1]?=some (uO i):=by simp [CD,h]
theorem Gu:(Tryz.prog.info? 110).map (fun i=>(i.zero,i.size,i.bytes))=some (some .nilIface,1,16):=by kernel_rfl
theorem EN (i:Nat):∀ u∈([uO i]:List Value),u.oneCell'=true:=by simp [uO,Value.oneCell']
theorem qE {size:Nat} {v:Value} (h:w.ownsRow base e size v n xs):(v=.slice none 0 0∧n=0)∨∃ g cap,v=.slice (some ⟨g,0,none⟩) n cap:=by
 rcases h.2 with h0 | ⟨g,cap,_,hv,_⟩
 ·
  exact Or.inl h0
 exact Or.inr ⟨g,cap,hv⟩
theorem Bc {wr:World} {ys:List Value} {v v':Value} {o:Obj} (hz:B≤wr.heap.size) (hB:Below B w wr) (hown:wr.ownsRow B e 1 v k xs) (hown':w'.ownsRow B e 1 v' (k+1) ys) (hg:(wr.alloc o).grownBy w' v.ownBlock) :
  ∃ g2 cap2,v'=.slice (some ⟨g2,0,none⟩) (k+1) cap2∧w'.ownsRow B e 1 v' (k+1) ys∧Below B w w':=by
 rcases qE hown' with ⟨_,h0⟩ | ⟨g2,cap2,rfl⟩
 ·
  omega
 refine ⟨g2,cap2,rfl,hown',(hB.alloc hz o).grown hg (by simp;omega) (fun j hj=>?_)⟩
 rcases hown.2 with ⟨rfl,_⟩ | ⟨g,cap,cur,rfl,hge,_⟩
 ·
  cases hj
 simp only [Value.ownBlock,Option.some.injEq] at hj
 omega
def FM:Nat→Value
 | 0=>sv
 | i+1=>uO i
theorem wO {cap:Nat} (h:w.ownsRow base e 1 (.slice (some ⟨g,0,none⟩) (n+1) cap) (n+1) (CD n)):iP w (some ⟨g,0,none⟩) (n+1) FM:=by
 intro i hi
 refine ⟨g,0,rfl,?_⟩
 rw [Nat.zero_add,yP h i hi]
 cases i with
 | zero=>exact Bo n
 | succ i=>exact EW n i (by omega)
theorem rj (C:Cfg) (n:Nat) (w:World) (hn:n≤4) (hp:C.p=(n:Int)) :
  Calls Tryz.prog 67 #[.agg C.cells] w fun e w'=>(∃ g cap,e=.returned (.slice (some ⟨g,0,none⟩) (n+1) cap)∧w'.ownsRow w.heap.size 110 1 (.slice (some ⟨g,0,none⟩) (n+1) cap) (n+1) (CD n))∧Below w.heap.size w w':=by
 obtain ⟨i0,hi,hz0,hz1,hz2⟩:=info_parts Gu
 obtain ⟨p,c,xo,xn,hd,lo,dl⟩:=C
 dsimp only at hp
 subst hp
 unfold Cfg.cells
 dsimp only
 go_enter Tryz.func67,Tryz.ntmps67
 go_wp2_with fail
 go_loopw [3,10] (fun v i wr=>∃ (k g cap:Nat),k≤n∧i=.int .i64 k∧v=.slice (some ⟨g,0,none⟩) (k+1) cap∧wr.ownsRow w.heap.size 110 1 (.slice (some ⟨g,0,none⟩) (k+1) cap) (k+1) (CD k)∧Below w.heap.size w wr) (fun _ i _=>n-(intOf i).toNat)
 case atStart=>exact ⟨0,w.heap.size+1,1,Nat.zero_le _,rfl,by simp,⟨rfl,.inr ⟨w.heap.size+1,1,#[sv],rfl,by omega,by have:=im (w.alloc (.cells #[.int .i64 n,.int .i64 c,.int .i64 xo,.int .i64 xn,.int .i64 hd,.int .i64 lo,.int .i64 dl] 25)) (.cells #[sv] 110);rw [show (w.alloc (.cells #[.int .i64 n,.int .i64 c,.int .i64 xo,.int .i64 xn,.int .i64 hd,.int .i64 lo,.int .i64 dl] 25)).heap.size=w.heap.size+1 by simp] at this;exact this,by simp,by first | (unfold maxLen;omega) | simp,by first | simp | (unfold maxLen;omega),by simp [CD]⟩⟩,((Below.refl _ _).alloc (Nat.le_refl _) _).alloc (by simp) _⟩
 obtain ⟨k,g,cap,hk,rfl,rfl,hown,hB⟩:=hrel
 have zB:=hB.size
 by_cases hlt:k<n
 ·
  have hlt':(k:Int)<n:=by omega
  go_wp2_with (at_builtin;refine wpList_append_own _ rfl (.tmp 13) (.tmp 17) 107 rfl w.heap.size 110 i0 .nilIface 1 16 Tryz.underlying107 hi hz0 hz1 hz2 rfl (by decide) _ (k+1) _ rfl (hown.alloc _) ⟨wr.heap.size,0,none⟩ 1 1 [uO k] rfl rfl (cell_one_new _ _ _) (EN _) (by unfold maxLen;omega) (by omega) (by simp;omega) ?_;intro v' w' hown' hgrow' hnil';obtain ⟨g2,cap2,rfl,o2,B2⟩:=Bc zB hB hown hown' hgrow')
  go_roundw
  case rel=>exact ⟨k+1,g2,cap2,by omega,by go_num,rfl,by rw [Bp];exact o2,B2⟩
  case measure=>simp [intOf];omega
 obtain rfl:k=n:=by omega
 go_wp2_with fail
 go_ret
 exact ⟨⟨g,cap,rfl,hown⟩,hB⟩
theorem rD:(Tryz.prog.info? 2).map (fun i=>(i.zero,i.size,i.bytes))=some (some (.int .i64 0),1,8):=by kernel_rfl
def jV (n:Nat):Array Value:=madeCells #[.int .i64 0] n
theorem yb (v:Value) (n i:Nat) (h:i<n):(madeCells #[v] n)[i]?=some v:=by
 unfold madeCells
 simp [h]
 rw [Nat.mod_one];rfl
theorem pT (n:Nat) (hn:n≤1048576) (w:World):(Instr.makeSlice 27 (.int .i64 (n:Int)) (.int .i64 (n:Int))).run Tryz.prog w=.ok (.slice (some ⟨w.heap.size,0,none⟩) n n) (w.alloc (.cells (jV n) 2)):=by
 obtain ⟨i0,hi,hz0,hz1,hz2⟩:=info_parts rD
 have:=run_make (P:=Tryz.prog) w 27 2 i0 (.int .i64 0) Tryz.underlying27 hi hz0 .i64 .i64 (n:Int) (n:Int) (by omega) (by omega) (by rw [hz2];omega) (by omega)
 rw [this,hz1]
 simp [jV,Value.cells]
theorem pL (h:w.heap[g]?=some (.cells (jV n) 2 (0,0))):ja g 2 n (fun _=>.int .i64 0) n w :=
 ⟨_,h,by simp [jV,size_madeCells],fun i hi=>yb _ n i hi⟩
theorem E0:(Tryz.prog.info? 4).map (fun i=>(i.zero,i.size,i.bytes))=some (some (.bool false),1,1):=by kernel_rfl
def mQ (n:Nat):Array Value:=madeCells #[.bool false] n
theorem zQ (n:Nat) (hn:n≤1048576) (w:World):(Instr.makeSlice 28 (.int .i64 (n:Int)) (.int .i64 (n:Int))).run Tryz.prog w=.ok (.slice (some ⟨w.heap.size,0,none⟩) n n) (w.alloc (.cells (mQ n) 4)):=by
 obtain ⟨i0,hi,hz0,hz1,hz2⟩:=info_parts E0
 have:=run_make (P:=Tryz.prog) w 28 4 i0 (.bool false) Tryz.underlying28 hi hz0 .i64 .i64 (n:Int) (n:Int) (by omega) (by omega) (by rw [hz2];omega) (by omega)
 rw [this,hz1]
 simp [mQ,Value.cells]
theorem zr (h:w.heap[g]?=some (.cells (mQ n) 4 (0,0))):ja g 4 n (fun _=>.bool false) n w :=
 ⟨_,h,by simp [mQ,size_madeCells],fun i hi=>yb _ n i hi⟩
def mb (x:Nat):Bool:=decide (x % 3=0)
structure Cnt where
 aU:Option Addr
 nU:Nat
 cU:Nat
 u:Nat→Int
 lo:Int
 aP:Option Addr
 nP:Nat
 cP:Nat
 p:Nat→Bool
def Cnt.cells (N:Cnt):Array Value:=#[.slice N.aU N.nU N.cU,.int .i64 N.lo,.slice N.aP N.nP N.cP]
structure my (w:World) (N:Cnt):Prop where
 u:iP w N.aU N.nU fun i=>.int .i64 (N.u i)
 p:iP w N.aP N.nP fun i=>.bool (N.p i)
theorem my.up {N:Cnt} (h:my w N) (hb:Below w.heap.size w w2):my w2 N:=⟨h.u.up hb,h.p.up hb⟩
structure Cnt.Fit (N:Cnt):Prop where
 u:N.nU≤maxLen
 p:N.nP≤maxLen
structure Cnt.Small (N:Cnt):Prop where
 u:N.nU≤1048576
 p:N.nP≤1048576
theorem Cnt.Small.fit {N:Cnt} (h:N.Small):N.Fit:=⟨by have:=h.u;unfold maxLen;omega,by have:=h.p;unfold maxLen;omega⟩
structure iR (A B:Cnt):Prop where
 nU:B.nU=A.nU
 u:B.u=A.u
 lo:B.lo=A.lo
 nP:B.nP=A.nP
 p:B.p=A.p
theorem iR.refl (A:Cnt):iR A A:=⟨rfl,rfl,rfl,rfl,rfl⟩
theorem iR.symm {A B:Cnt} (h:iR A B):iR B A:=⟨h.nU.symm,h.u.symm,h.lo.symm,h.nP.symm,h.p.symm⟩
theorem iR.trans {A B C:Cnt} (h:iR A B) (k:iR B C):iR A C:=⟨k.nU.trans h.nU,k.u.trans h.u,k.lo.trans h.lo,k.nP.trans h.nP,k.p.trans h.p⟩
theorem iR.small {A B:Cnt} (h:iR A B) (hs:A.Small):B.Small:=⟨by rw [h.nU];exact hs.u,by rw [h.nP];exact hs.p⟩
structure Cnt.Ok (C:Cfg) (N:Cnt):Prop where
 c:C.Ok
 nU:(N.nU:Int)=C.p
 nP:(N.nP:Int)=C.p
 lo:0≤N.lo∧N.lo≤C.lo
 u:∀ i,i<N.nU→0≤N.u i∧N.u i≤C.xo+C.hd
theorem iR.ok {C:Cfg} {A B:Cnt} (h:iR A B):Cnt.Ok C B↔Cnt.Ok C A :=
 ⟨fun k=>⟨k.c,by rw [←h.nU];exact k.nU,by rw [←h.nP];exact k.nP,by rw [←h.lo];exact k.lo,by rw [←h.u,←h.nU];exact k.u⟩,
  fun k=>⟨k.c,by rw [h.nU];exact k.nU,by rw [h.nP];exact k.nP,by rw [h.lo];exact k.lo,by rw [h.u,h.nU];exact k.u⟩⟩
def VT (t:TypeId) (w:World) (base:Nat) (a:Option Addr) (n:Nat) (F:Nat→Value):Prop:=n=0∨∃ g,a=some ⟨g,0,none⟩∧base≤g∧ja g t n F n w
def ku (a:Option Addr) (n:Nat):List Nat:=if n=0 then [] else (a.map (·.block)).toList
theorem VT.read {a:Option Addr} (h:VT t w base a n f):iP w a n f:=by
 rcases h with rfl | ⟨g,rfl,_,hr⟩
 ·
  exact iP.nil _ _ _
 exact hr.read
theorem VT.up {a:Option Addr} (h:VT t w base a n f) (hb:Below w.heap.size w w'):VT t w' base a n f :=
 h.imp id (by rintro ⟨g,ha,hg,hr⟩;exact ⟨g,ha,hg,hr.jQ (hb.block _ hr.lt)⟩)
theorem VT.mono {a:Option Addr} (h:VT t w base a n f) (hb:base'≤base):VT t w base' a n f :=
 h.imp id (by rintro ⟨g,ha,hg,hr⟩;exact ⟨g,ha,by omega,hr⟩)
theorem DM (h:n≠0):g∈ku (some ⟨g,0,none⟩) n:=by unfold ku;rw [if_neg h];simp
theorem VT.iu {a:Option Addr} (h:VT t w base a n f) (ht:Touch S w w') (hp:∀ x∈ku a n,x∉S):VT t w' base a n f:=by
 rcases h with h | ⟨g,rfl,hg,hr⟩
 ·
  exact .inl h
 by_cases h0:n=0
 ·
  exact .inl h0
 exact .inr ⟨g,rfl,hg,hr.jQ (ht.block g hr.lt (hp g (DM h0)))⟩
theorem VT.blk {a:Option Addr} (h:VT t w base a n f):∀ x∈ku a n,base≤x∧x<w.heap.size:=by
 intro x hx
 unfold ku at hx
 split at hx
 ·
  simp at hx
 rcases h with h | ⟨g,rfl,hg,hr⟩
 ·
  contradiction
 simp at hx;subst hx;exact ⟨hg,hr.lt⟩
theorem VT.type {a:Option Addr} (h:VT t w base a n f):∀ x∈ku a n,∃ cs,w.heap[x]?=some (.cells cs t (0,0)):=by
 intro x hx
 unfold ku at hx
 split at hx
 ·
  simp at hx
 rcases h with h | ⟨g,rfl,hg,hr⟩
 ·
  contradiction
 simp at hx
 subst hx
 obtain ⟨cs,hc,_⟩:=hr
 exact ⟨cs,hc⟩
theorem VT.of (hb:base≤g) (h:ja g t n f n w):VT t w base (some ⟨g,0,none⟩) n f:=.inr ⟨g,rfl,hb,h⟩
theorem VT.nf {t':TypeId} {a:Option Addr} {cs:Array Value} (h:VT t w base a n f) (hne:t≠t') (hg:w.heap[g]?=some (.cells cs t' (0,0))):g∉ku a n:=by
 intro hx
 obtain ⟨cs',h1⟩:=h.type g hx
 rw [hg] at h1
 simp at h1
 exact hne h1.2.symm
structure iN (w:World) (base:Nat) (N:Cnt):Prop where
 u:VT 2 w base N.aU N.nU fun i=>.int .i64 (N.u i)
 p:VT 4 w base N.aP N.nP fun i=>.bool (N.p i)
theorem iN.rd {N:Cnt} (h:iN w base N):my w N:=⟨h.u.read,h.p.read⟩
theorem iN.up {N:Cnt} (h:iN w base N) (hb:Below w.heap.size w w'):iN w' base N:=⟨h.u.up hb,h.p.up hb⟩
theorem iN.mono {N:Cnt} (h:iN w base N) (hb:base'≤base):iN w base' N:=⟨h.u.mono hb,h.p.mono hb⟩
theorem iN.kk {N:Cnt} (h:iN w base N) (ht:Touch S w w') (hS:∀ x∈S,x<base):iN w' base N :=
 ⟨h.u.iu ht (fun x hx hy=>by have:=(h.u.blk x hx).1;have:=hS x hy;omega),h.p.iu ht (fun x hx hy=>by have:=(h.p.blk x hx).1;have:=hS x hy;omega)⟩
theorem ur (x:Int) (h0:-9223372036854775808≤x) (h1:x≤9223372036854775807):IntKind.i64.wrap x=x:=by
 rw [IntKind.wrap_i64];omega
structure Rnd where
 aQ:Option Addr
 nQ:Nat
 cQ:Nat
 q:Nat→Int
 aD:Option Addr
 nD:Nat
 cD:Nat
 d:Nat→Int
 turn:Int
 fresh:Bool
 aS:Option Addr
 nS:Nat
 cS:Nat
 A:Nat→Option Addr
 L:Nat→Nat
 C:Nat→Nat
 z:Nat→Nat→Int
def Rnd.cells (R:Rnd):Array Value:=#[.slice R.aQ R.nQ R.cQ,.slice R.aD R.nD R.cD,.int .i64 R.turn,.bool R.fresh,.slice R.aS R.nS R.cS]
structure mN (w:World) (R:Rnd):Prop where
 q:iP w R.aQ R.nQ fun i=>.int .i64 (R.q i)
 d:iP w R.aD R.nD fun i=>.int .i64 (R.d i)
 s:iP w R.aS R.nS fun i=>.slice (R.A i) (R.L i) (R.C i)
 z:∀ i,i<R.nS→iP w (R.A i) (R.L i) fun j=>.int .i64 (R.z i j)
theorem mN.up {R:Rnd} (h:mN w R) (hb:Below w.heap.size w w2):mN w2 R :=
 ⟨h.q.up hb,h.d.up hb,h.s.up hb,fun i hi=>(h.z i hi).up hb⟩
structure Rnd.Fit (R:Rnd):Prop where
 q:R.nQ≤maxLen
 d:R.nD≤maxLen
 s:R.nS≤maxLen
 l:∀ i,i<R.nS→R.L i≤maxLen
def qW (n:Nat) (z:Nat→Int):Prop:=n≤1000∧∀ j,j<n→1≤z j∧z j≤5
def ry (q d:Int) (n:Nat) (begun:Bool):Prop:=if n=0 then d=0 else 0≤d∧d<5+(if begun then q else 0)
def vH (q d:Int) (n:Nat) (z:Nat→Int) (begun:Bool):Prop:=(1≤q∧q≤10)∧qW n z∧ry q d n begun
def Rnd.begun (R:Rnd) (i:Nat):Bool:=decide ((i:Int)=R.turn) && !R.fresh
structure Rnd.Ok (R:Rnd):Prop where
 n:1≤R.nQ∧R.nQ≤4
 d:R.nD=R.nQ
 s:R.nS=R.nQ
 t:0≤R.turn∧R.turn<R.nQ
 c:∀ i,i<R.nQ→vH (R.q i) (R.d i) (R.L i) (R.z i) (R.begun i)
open Classical in
theorem uS (p:Prop):∃ ok:Bool,ok=true↔p:=⟨decide p,by simp⟩
theorem uf (n:Int) (w:World) :
  Calls Tryz.prog 144 #[.int .i64 n] w fun e w'=>e=.returned (.bool (decide (1≤n∧n≤5)))∧w'=w:=by
 by_cases h1:1≤n
 ·
  go_enter Tryz.func144,Tryz.ntmps144
  go_wp2
  go_ret
  exact ⟨by simp [h1],rfl⟩
 go_enter Tryz.func144,Tryz.ntmps144
 exact ak
theorem xP (a:Option Addr) (n cap:Nat) (z:Nat→Int) (w:World) (hn:n≤maxLen) (h:iP w a n fun j=>.int .i64 (z j)) (ok:Bool) (hok:ok=true↔qW n z) :
  Calls Tryz.prog 137 #[.slice a n cap] w fun e w'=>e=.returned (.bool ok)∧Same w w':=by
 have HO:=aa hok
 have HR:=aa h
 have hm:(n:Int)≤9223372036854775807:=by unfold maxLen at hn;omega
 clear h hok
 by_cases h8:1000<n
 ·
  have h8':(1000:Int)<n:=by omega
  have HF:Hid (ok=false):=by
   show ok=false
   rw [Bool.eq_false_iff]
   intro e
   have:=(HO.1 e).1
   omega
  go_enter Tryz.func137,Tryz.ntmps137
  go_wp2_with fail
  go_ret
  exact ⟨iv HF.symm,Same.refl _⟩
 have h8':¬ (1000:Int)<n:=by omega
 go_enter Tryz.func137,Tryz.ntmps137
 go_wp2_with fail
 go_loopw [10] (fun i wr=>∃ k:Nat,k≤n∧i=.int .i64 k∧(∀ j,j<k→1≤z j∧z j≤5)∧Same w wr) (fun i _=>n-(intOf i).toNat)
 case atStart=>exact ⟨0,Nat.zero_le _,rfl,fun i hi=>by omega,Same.refl _⟩
 obtain ⟨k,hk,rfl,hall,hS⟩:=hrel
 have HA:=aa hall
 clear hall
 by_cases hlt:k<n
 ·
  have hlt':(k:Int)<n:=by omega
  obtain ⟨g,o,rfl,c0⟩:=HR k hlt
  have c1:=(hS.cell ⟨g,o+k,none⟩).trans c0
  dsimp only at c1
  clear c0
  go_wp2_with fail
  refine (uf _ _).mono ?_
  rintro e w' ⟨rfl,rfl⟩
  by_cases hz:1≤z k∧z k≤5
  ·
   have HZ:=aa hz
   rw [decide_eq_true hz]
   clear hz
   go_wp2_with fail
   go_roundw
   case rel=>exact ⟨k+1,by omega,by go_num,fun j hj=>by
    by_cases e:j=k
    ·
     subst e;exact HZ.out
    ·
     exact HA j (by omega),hS⟩
   case measure=>simp [intOf];omega
  have HF:Hid (ok=false):=by
   show ok=false
   rw [Bool.eq_false_iff]
   intro e
   exact hz ((HO.1 e).2 k hlt)
  rw [decide_eq_false hz]
  clear hz
  go_wp2_with fail
  go_ret
  exact ⟨iv HF.symm,hS⟩
 obtain rfl:k=n:=by omega
 have HT:Hid (ok=true):=HO.2 ⟨by omega,HA.out⟩
 go_wp2_with fail
 go_ret
 exact ⟨iv HT.symm,hS⟩
theorem vD (q d:Int) (a:Option Addr) (n cap:Nat) (b:Bool) (w:World) (hn:n≤maxLen) (h1:1≤q) (h2:q≤10) (ok:Bool) (hok:ok=true↔ry q d n b) :
  Calls Tryz.prog 138 #[.agg #[.int .i64 q,.int .i64 d,.slice a n cap],.bool b] w fun e w'=>e=.returned (.bool ok)∧Below w.heap.size w w':=by
 have hm:(n:Int)≤9223372036854775807:=by unfold maxLen at hn;omega
 have HA:Hid (∀ ob,Below w.heap.size w (w.alloc ob)):=fun ob=>(Below.refl _ _).alloc (Nat.le_refl _) _
 have hw:IntKind.i64.wrap (5+q)=5+q:=ur _ (by omega) (by omega)
 by_cases h0:n=0
 ·
  subst h0
  have HE:Hid (decide (d=0)=ok):=by
   rw [Hid,Bool.eq_iff_iff,hok];simp [ry]
  clear hok
  go_enter Tryz.func138,Tryz.ntmps138
  go_wp2_with fail
  go_ret
  exact ⟨iv (by rw [←HE.out];rfl),HA _⟩
 have h0':((n:Int) == 0)=false:=by simp;omega
 cases b
 ·
  by_cases hd:0≤d
  ·
   have HE:Hid (decide (d<5)=ok):=aw
   exact ar
  have HE:Hid (false=ok):=aw
  exact ar
 by_cases hd:0≤d
 ·
  have HE:Hid (decide (d<5+q)=ok):=aw
  exact ar
 have HE:Hid (false=ok):=aw
 exact ar
section
variable {P : Program} {ops : Array Oper} {Q : Exit → Act → World → Prop} {md : Region.Mode} {S : World → Prop}
theorem t0 {v:Value} 
  (h:wpAnyH P md ops Q S fuel ((l).setIfInBounds 0 true) a' w) (hi:ops[0]?=some oi:=by rfl) (hd:oi.dst=some d:=by rfl)
  (hy:∀ w,S w→(execOp a.eval oi).run P w=.ok (.value v) w:=by intro wx hSw;(repeat (have hL:=And.left hSw;replace hSw:=And.right hSw));go_simp;try (with_reducible rfl))
  (ha:a.put (some d) v=a':=by (try simp only [Act.put,PZ]);try exact rfl) (hs:Region.noSelect ops=true:=by kernel_rfl) (hf:Region.free md ops (l) 0=true:=by kernel_rfl) (hr:(Region.ready md ops (l)).contains 0=true:=by kernel_rfl)
  (hQ:∀ c a w,Q (.panic c) (a.put (some d) v) w→Q (.panic c) a w:=by exact fun _ _ _ h=>h) (hw:Region.wanted oi (yielded ops a.tmps)=true:=by kernel_rfl) (hS:S w:=by assumption) :
  wpAnyH P md ops Q S (fuel+1) (l) a w :=
 mn (some d) hi hd hs hf hr hQ hw hy hS (by rw [ha];exact h)
theorem tN {v:Value} 
  (h:wpAnyH P md ops Q S fuel ((l.setIfInBounds i true).setIfInBounds (i+1) true) a' w) (hi:ops[(i+1)]?=some oi:=by rfl) (hd:oi.dst=some d:=by rfl)
  (hy:∀ w,S w→(execOp a.eval oi).run P w=.ok (.value v) w:=by intro wx hSw;(repeat (have hL:=And.left hSw;replace hSw:=And.right hSw));go_simp;try (with_reducible rfl))
  (ha:a.put (some d) v=a':=by (try simp only [Act.put,PZ]);try exact rfl) (hs:Region.noSelect ops=true:=by kernel_rfl) (hf:Region.free md ops (l.setIfInBounds i true) (i+1)=true:=by kernel_rfl) (hr:(Region.ready md ops (l.setIfInBounds i true)).contains (i+1)=true:=by kernel_rfl)
  (hQ:∀ c a w,Q (.panic c) (a.put (some d) v) w→Q (.panic c) a w:=by exact fun _ _ _ h=>h) (hw:Region.wanted oi (yielded ops a.tmps)=true:=by kernel_rfl) (hS:S w:=by assumption) :
  wpAnyH P md ops Q S (fuel+1) (l.setIfInBounds i true) a w :=
 mn (some d) hi hd hs hf hr hQ hw hy hS (by rw [ha];exact h)
theorem sN 
  (h:wpAnyH P md ops Q S fuel ((l.setIfInBounds i true).setIfInBounds (i+1) true) a' w) (hi:ops[(i+1)]?=some oi:=by rfl) (hd:oi.dst=some d:=by rfl)
  (ha:a.put (some d) undef=a':=by (try simp only [Act.put,PZ]);try exact rfl) (hs:Region.noSelect ops=true:=by kernel_rfl) (hf:Region.free md ops (l.setIfInBounds i true) (i+1)=true:=by kernel_rfl) (hr:(Region.ready md ops (l.setIfInBounds i true)).contains (i+1)=true:=by kernel_rfl)
  (hQ:∀ c a w,Q (.panic c) (a.put (some d) undef) w→Q (.panic c) a w:=by exact fun _ _ _ h=>h) (hw:Region.wanted oi (yielded ops a.tmps)=false:=by kernel_rfl) (hS:S w:=by assumption) :
  wpAnyH P md ops Q S (fuel+1) (l.setIfInBounds i true) a w :=
 FA (some d) hi hd hs hf hr hQ hw hS (by rw [ha];exact h)
theorem tT 
  (h:wpAnyH P md ops Q S fuel ((l.setIfInBounds i true).setIfInBounds (i+1) true) a' w) (hi:ops[(i+1)]?=some oi:=by rfl) (hd:oi.dst=some d:=by rfl)
  (hy:∀ w,S w→(execOp a.eval oi).run P w=.ok (.value (.bool true)) w:=by intro wx hSw;(repeat (have hL:=And.left hSw;replace hSw:=And.right hSw));go_simp;try (first | (with_reducible rfl) | omega | (simp;done) | (simp;omega)))
  (ha:a.put (some d) (.bool true)=a':=by (try simp only [Act.put,PZ]);try exact rfl) (hs:Region.noSelect ops=true:=by kernel_rfl) (hf:Region.free md ops (l.setIfInBounds i true) (i+1)=true:=by kernel_rfl) (hr:(Region.ready md ops (l.setIfInBounds i true)).contains (i+1)=true:=by kernel_rfl)
  (hQ:∀ c a w,Q (.panic c) (a.put (some d) (.bool true)) w→Q (.panic c) a w:=by exact fun _ _ _ h=>h) (hw:Region.wanted oi (yielded ops a.tmps)=true:=by kernel_rfl) (hS:S w:=by assumption) :
  wpAnyH P md ops Q S (fuel+1) (l.setIfInBounds i true) a w :=
 mn (some d) hi hd hs hf hr hQ hw hy hS (by rw [ha];exact h)
theorem tF 
  (h:wpAnyH P md ops Q S fuel ((l.setIfInBounds i true).setIfInBounds (i+1) true) a' w) (hi:ops[(i+1)]?=some oi:=by rfl) (hd:oi.dst=some d:=by rfl)
  (hy:∀ w,S w→(execOp a.eval oi).run P w=.ok (.value (.bool false)) w:=by intro wx hSw;(repeat (have hL:=And.left hSw;replace hSw:=And.right hSw));go_simp;try (first | (with_reducible rfl) | omega | (simp;done) | (simp;omega)))
  (ha:a.put (some d) (.bool false)=a':=by (try simp only [Act.put,PZ]);try exact rfl) (hs:Region.noSelect ops=true:=by kernel_rfl) (hf:Region.free md ops (l.setIfInBounds i true) (i+1)=true:=by kernel_rfl) (hr:(Region.ready md ops (l.setIfInBounds i true)).contains (i+1)=true:=by kernel_rfl)
  (hQ:∀ c a w,Q (.panic c) (a.put (some d) (.bool false)) w→Q (.panic c) a w:=by exact fun _ _ _ h=>h) (hw:Region.wanted oi (yielded ops a.tmps)=true:=by kernel_rfl) (hS:S w:=by assumption) :
  wpAnyH P md ops Q S (fuel+1) (l.setIfInBounds i true) a w :=
 mn (some d) hi hd hs hf hr hQ hw hy hS (by rw [ha];exact h)
theorem tX {v:Value} 
  (h:wpAnyH P md ops Q S fuel ((l.setIfInBounds i true).setIfInBounds (i+1) true) a' w) (hi:ops[(i+1)]?=some oi:=by rfl) (hd:oi.dst=some d:=by rfl)
  (hy:∀ w,S w→(execOp a.eval oi).run P w=.ok (.value v) w:=by intro wx hSw;have hCw:=Hcs wx hSw;(repeat (have hL:=And.left hSw;replace hSw:=And.right hSw));(repeat (have hL:=And.left hCw;replace hCw:=And.right hCw));go_simp;try (with_reducible rfl))
  (ha:a.put (some d) v=a':=by (try simp only [Act.put,PZ]);try exact rfl) (hs:Region.noSelect ops=true:=by kernel_rfl) (hf:Region.free md ops (l.setIfInBounds i true) (i+1)=true:=by kernel_rfl) (hr:(Region.ready md ops (l.setIfInBounds i true)).contains (i+1)=true:=by kernel_rfl)
  (hQ:∀ c a w,Q (.panic c) (a.put (some d) v) w→Q (.panic c) a w:=by exact fun _ _ _ h=>h) (hw:Region.wanted oi (yielded ops a.tmps)=true:=by kernel_rfl) (hS:S w:=by assumption) :
  wpAnyH P md ops Q S (fuel+1) (l.setIfInBounds i true) a w :=
 mn (some d) hi hd hs hf hr hQ hw hy hS (by rw [ha];exact h)
theorem tX0 {v:Value} 
  (h:wpAnyH P md ops Q S fuel ((l).setIfInBounds 0 true) a' w) (hi:ops[0]?=some oi:=by rfl) (hd:oi.dst=some d:=by rfl)
  (hy:∀ w,S w→(execOp a.eval oi).run P w=.ok (.value v) w:=by intro wx hSw;have hCw:=Hcs wx hSw;(repeat (have hL:=And.left hSw;replace hSw:=And.right hSw));(repeat (have hL:=And.left hCw;replace hCw:=And.right hCw));go_simp;try (with_reducible rfl))
  (ha:a.put (some d) v=a':=by (try simp only [Act.put,PZ]);try exact rfl) (hs:Region.noSelect ops=true:=by kernel_rfl) (hf:Region.free md ops (l) 0=true:=by kernel_rfl) (hr:(Region.ready md ops (l)).contains 0=true:=by kernel_rfl)
  (hQ:∀ c a w,Q (.panic c) (a.put (some d) v) w→Q (.panic c) a w:=by exact fun _ _ _ h=>h) (hw:Region.wanted oi (yielded ops a.tmps)=true:=by kernel_rfl) (hS:S w:=by assumption) :
  wpAnyH P md ops Q S (fuel+1) (l) a w :=
 mn (some d) hi hd hs hf hr hQ hw hy hS (by rw [ha];exact h)
theorem tY {v:Value} 
  (h:wpAnyH P md ops Q S fuel ((l.setIfInBounds i true).setIfInBounds (i+1) true) a' w) (hi:ops[(i+1)]?=some oi:=by rfl) (hd:oi.dst=some d:=by rfl)
  (hy:∀ w,S w→(execOp a.eval oi).run P w=.ok (.value v) w:=by intro wx hSw;have hCw:=Hcs wx hSw;clear hSw;(repeat (have hL:=And.left hCw;replace hCw:=And.right hCw));go_simp;try (with_reducible rfl))
  (ha:a.put (some d) v=a':=by (try simp only [Act.put,PZ]);try exact rfl) (hs:Region.noSelect ops=true:=by kernel_rfl) (hf:Region.free md ops (l.setIfInBounds i true) (i+1)=true:=by kernel_rfl) (hr:(Region.ready md ops (l.setIfInBounds i true)).contains (i+1)=true:=by kernel_rfl)
  (hQ:∀ c a w,Q (.panic c) (a.put (some d) v) w→Q (.panic c) a w:=by exact fun _ _ _ h=>h) (hw:Region.wanted oi (yielded ops a.tmps)=true:=by kernel_rfl) (hS:S w:=by assumption) :
  wpAnyH P md ops Q S (fuel+1) (l.setIfInBounds i true) a w :=
 mn (some d) hi hd hs hf hr hQ hw hy hS (by rw [ha];exact h)
theorem tQ (i d:Nat) {v:Value} 
  (h:wpAnyH P md ops Q S fuel (l.setIfInBounds i true) a' w) (hi:ops[i]?=some oi:=by rfl) (hd:oi.dst=some d:=by rfl)
  (hy:∀ w,S w→(execOp a.eval oi).run P w=.ok (.value v) w:=by intro wx hSw;(repeat (have hL:=And.left hSw;replace hSw:=And.right hSw));go_simp;try (with_reducible rfl))
  (ha:a.put (some d) v=a':=by (try simp only [Act.put,PZ]);try exact rfl) (hs:Region.noSelect ops=true:=by kernel_rfl) (hf:Region.free md ops l i=true:=by kernel_rfl) (hr:(Region.ready md ops l).contains i=true:=by kernel_rfl)
  (hQ:∀ c a w,Q (.panic c) (a.put (some d) v) w→Q (.panic c) a w:=by exact fun _ _ _ h=>h) (hw:Region.wanted oi (yielded ops a.tmps)=true:=by kernel_rfl) (hS:S w:=by assumption) :
  wpAnyH P md ops Q S (fuel+1) l a w :=
 mn (some d) hi hd hs hf hr hQ hw hy hS (by rw [ha];exact h)
theorem tTq (i d:Nat) 
  (h:wpAnyH P md ops Q S fuel (l.setIfInBounds i true) a' w) (hi:ops[i]?=some oi:=by rfl) (hd:oi.dst=some d:=by rfl)
  (hy:∀ w,S w→(execOp a.eval oi).run P w=.ok (.value (.bool true)) w:=by intro wx hSw;(repeat (have hL:=And.left hSw;replace hSw:=And.right hSw));go_simp;try (first | (with_reducible rfl) | omega | (simp;done) | (simp;omega)))
  (ha:a.put (some d) (.bool true)=a':=by (try simp only [Act.put,PZ]);try exact rfl) (hs:Region.noSelect ops=true:=by kernel_rfl) (hf:Region.free md ops l i=true:=by kernel_rfl) (hr:(Region.ready md ops l).contains i=true:=by kernel_rfl)
  (hQ:∀ c a w,Q (.panic c) (a.put (some d) (.bool true)) w→Q (.panic c) a w:=by exact fun _ _ _ h=>h) (hw:Region.wanted oi (yielded ops a.tmps)=true:=by kernel_rfl) (hS:S w:=by assumption) :
  wpAnyH P md ops Q S (fuel+1) l a w :=
 mn (some d) hi hd hs hf hr hQ hw hy hS (by rw [ha];exact h)
theorem tXq (i d:Nat) {v:Value} 
  (h:wpAnyH P md ops Q S fuel (l.setIfInBounds i true) a' w) (hi:ops[i]?=some oi:=by rfl) (hd:oi.dst=some d:=by rfl)
  (hy:∀ w,S w→(execOp a.eval oi).run P w=.ok (.value v) w:=by intro wx hSw;have hCw:=Hcs wx hSw;(repeat (have hL:=And.left hSw;replace hSw:=And.right hSw));(repeat (have hL:=And.left hCw;replace hCw:=And.right hCw));go_simp;try (with_reducible rfl))
  (ha:a.put (some d) v=a':=by (try simp only [Act.put,PZ]);try exact rfl) (hs:Region.noSelect ops=true:=by kernel_rfl) (hf:Region.free md ops l i=true:=by kernel_rfl) (hr:(Region.ready md ops l).contains i=true:=by kernel_rfl)
  (hQ:∀ c a w,Q (.panic c) (a.put (some d) v) w→Q (.panic c) a w:=by exact fun _ _ _ h=>h) (hw:Region.wanted oi (yielded ops a.tmps)=true:=by kernel_rfl) (hS:S w:=by assumption) :
  wpAnyH P md ops Q S (fuel+1) l a w :=
 mn (some d) hi hd hs hf hr hQ hw hy hS (by rw [ha];exact h)
end
structure Rnd.Small (R:Rnd):Prop where
 q:R.nQ≤1048576
 d:R.nD≤1048576
 s:R.nS≤1048576
 l:∀ i,i<R.nS→R.L i≤1048576
theorem wW:(Tryz.prog.info? 27).map (fun i=>(i.zero,i.size,i.bytes))=some (some (.slice none 0 0),1,24):=by kernel_rfl
def sZ (n:Nat):Array Value:=madeCells #[.slice none 0 0] n
theorem uZ (n:Nat) (hn:n≤1048576) (w:World):(Instr.makeSlice 43 (.int .i64 (n:Int)) (.int .i64 (n:Int))).run Tryz.prog w=.ok (.slice (some ⟨w.heap.size,0,none⟩) n n) (w.alloc (.cells (sZ n) 27)):=by
 obtain ⟨i0,hi,hz0,hz1,hz2⟩:=info_parts wW
 have:=run_make (P:=Tryz.prog) w 43 27 i0 (.slice none 0 0) Tryz.underlying43 hi hz0 .i64 .i64 (n:Int) (n:Int) (by omega) (by omega) (by rw [hz2];omega) (by omega)
 rw [this,hz1]
 simp [sZ,Value.cells]
theorem uq (h:w.heap[g]?=some (.cells (sZ n) 27 (0,0))):ja g 27 n (fun _=>.slice none 0 0) n w :=
 ⟨_,h,by simp [sZ,size_madeCells],fun i hi=>yb _ n i hi⟩
theorem ja.ext {f':Nat→Value} (h:ja g t n f k w) (e:∀ i,i<k→f i=f' i):ja g t n f' k w:=by
 obtain ⟨arr,h1,h2,h3⟩:=h
 exact ⟨arr,h1,h2,fun i hi=>by rw [←e i hi];exact h3 i hi⟩
structure Pkt where
 id:Int
 inn:Int
 refs:Int
 k:Int
 d:Int
 s:Int
 p:Int
 b:ByteArray
def Pkt.cells (x:Pkt):Array Value:=#[.int .i64 x.id,.int .i64 x.inn,.int .i64 x.refs,.int .i64 x.k,.int .i64 x.d,.int .i64 x.s,.int .i64 x.p,.string x.b]
theorem Pkt.iY (x:Pkt):x.cells.size=8:=rfl
def pI (w:World) (a:Option Addr) (n:Nat) (K:Nat→Pkt):Prop:=∀ i,i<n→∃ g o,a=some ⟨g,o,none⟩∧∀ j,j<8→w.cell? ⟨g,o+i*8+j,none⟩=(K i).cells[j]?
theorem pI.nil (w:World) (a:Option Addr) (K:Nat→Pkt):pI w a 0 K:=fun i hi=>by omega
theorem pI.up {a:Option Addr} {K:Nat→Pkt} (h:pI w a n K) (hb:Below w.heap.size w w2):pI w2 a n K:=by
 intro i hi
 obtain ⟨g,o,ha,hc⟩:=h i hi
 refine ⟨g,o,ha,fun j hj=>?_⟩
 have h2:=hc j hj
 have h3:j<(K i).cells.size:=by rw [Pkt.iY];exact hj
 exact G7
theorem pI.cell {o:Nat} {K:Nat→Pkt} (h:pI w (some ⟨g,o,none⟩) n K) (hi:i<n):∀ j,j<8→w.cell? ⟨g,o+i*8+j,none⟩=(K i).cells[j]?:=by
 obtain ⟨g',o',ha,hc⟩:=h i hi
 cases ha
 exact hc
structure Lng where
 st:Bool
 aT:Option Addr
 nT:Nat
 cT:Nat
 t:Nat→Int
 aU:Option Addr
 nU:Nat
 cU:Nat
 uA:Nat→Option Addr
 uL:Nat→Nat
 uC:Nat→Nat
 uz:Nat→Nat→Int
 R:Rnd
def Lng.cells (l:Lng):Array Value:=#[.bool l.st,.slice l.aT l.nT l.cT,.slice l.aU l.nU l.cU,.slice l.R.aQ l.R.nQ l.R.cQ,.slice l.R.aD l.R.nD l.R.cD,.int .i64 l.R.turn,.bool l.R.fresh,.slice l.R.aS l.R.nS l.R.cS]
theorem Lng.iY (l:Lng):l.cells.size=8:=rfl
structure zo (w:World) (l:Lng):Prop where
 t:iP w l.aT l.nT fun i=>.int .i64 (l.t i)
 u:iP w l.aU l.nU fun i=>.slice (l.uA i) (l.uL i) (l.uC i)
 z:∀ i,i<l.nU→iP w (l.uA i) (l.uL i) fun j=>.int .i64 (l.uz i j)
 r:mN w l.R
theorem zo.up {l:Lng} (h:zo w l) (hb:Below w.heap.size w w2):zo w2 l:=⟨h.t.up hb,h.u.up hb,fun i hi=>(h.z i hi).up hb,h.r.up hb⟩
def Fj (w:World) (a:Option Addr) (n:Nat) (L:Nat→Lng):Prop:=∀ i,i<n→∃ g o,a=some ⟨g,o,none⟩∧∀ j,j<8→w.cell? ⟨g,o+i*8+j,none⟩=(L i).cells[j]?
theorem Fj.up {a:Option Addr} {L:Nat→Lng} (h:Fj w a n L) (hb:Below w.heap.size w w2):Fj w2 a n L:=by
 intro i hi
 obtain ⟨g,o,ha,hc⟩:=h i hi
 refine ⟨g,o,ha,fun j hj=>?_⟩
 have h2:=hc j hj
 have h3:j<(L i).cells.size:=by rw [Lng.iY];exact hj
 exact G7
structure Lng.Small (l:Lng):Prop where
 t:l.nT≤1048576
 u:l.nU≤1048576
 z:∀ i,i<l.nU→l.uL i≤1048576
 r:l.R.Small
structure Swg where
 C:Cfg
 now:Int
 nx:Int
 aE:Option Addr
 nE:Nat
 cE:Nat
 e:Nat→Ent
 N:Cnt
 aK:Option Addr
 nK:Nat
 cK:Nat
 K:Nat→Pkt
 aL:Option Addr
 nL:Nat
 cL:Nat
 L:Nat→Lng
 dr:Int
 lst:Int
def Swg.cells (S:Swg):Array Value:=#[.int .i64 S.C.p,.int .i64 S.C.c,.int .i64 S.C.xo,.int .i64 S.C.xn,.int .i64 S.C.hd,.int .i64 S.C.lo,.int .i64 S.C.dl,.int .i64 S.now,.int .i64 S.nx,.slice S.aE S.nE S.cE,.slice S.N.aU S.N.nU S.N.cU,.int .i64 S.N.lo,.slice S.N.aP S.N.nP S.N.cP,.slice S.aK S.nK S.cK,.slice S.aL S.nL S.cL,.int .i64 S.dr,.int .i64 S.lst]
structure lr (w:World) (S:Swg):Prop where
 e:lD w S.aE S.nE S.e
 n:my w S.N
 k:pI w S.aK S.nK S.K
 l:Fj w S.aL S.nL S.L
 ls:∀ i,i<S.nL→zo w (S.L i)
theorem lr.up {S:Swg} (h:lr w S) (hb:Below w.heap.size w w2):lr w2 S:=⟨h.e.up hb,h.n.up hb,h.k.up hb,h.l.up hb,fun i hi=>(h.ls i hi).up hb⟩
structure Swg.Small (S:Swg):Prop where
 e:S.nE≤1048576
 n:S.N.Small
 k:S.nK≤1048576
 b:∀ i,i<S.nK→(S.K i).b.size≤1048576
 l:S.nL≤1048576
 ls:∀ i,i<S.nL→(S.L i).Small
def Pkt.cl (x:Pkt):Int:=(x.b.size+9+9) / 10
def Pkt.nR (x:Pkt):Prop:=x.k=1∧mc x.k x.d x.s x.p x.b.size=true
theorem Pkt.nR.le {x:Pkt} (h:x.nR):x.b.size≤40:=Cg h.2
theorem Pkt.nR.pr {x:Pkt} (h:x.nR):0≤x.p∧x.p≤2:=by
 have h2:=h.2
 have h1:=h.1
 unfold mc at h2
 simp only [decide_eq_true_eq] at h2
 omega
theorem Pkt.nR.cl {x:Pkt} (h:x.nR):1≤x.cl∧x.cl≤5:=by
 have:=h.le
 unfold Pkt.cl
 omega
structure lQ (nx p:Int) (n:Nat) (K:Nat→Pkt):Prop where
 le:n≤1000
 one:∀ i,i<n→(1≤(K i).id∧(K i).id≤nx-1)∧(0≤(K i).inn∧(K i).inn≤p-1)∧(K i).nR
 up:∀ i,i<n→0<i→(K (i-1)).id<(K i).id
theorem oa {f:Nat→Int} (h:∀ i,i<n→0<i→f (i-1)<f i):∀ j i,i<j→j<n→f i<f j:=by
 intro j
 induction j with
 | zero=>intro i hi;omega
 | succ j ih =>
  intro i hi hj
  have h1:=h (j+1) hj (by omega)
  rw [Nat.add_sub_cancel] at h1
  by_cases e:i=j
  ·
   subst e;exact h1
  have:=ih i (by omega) (by omega)
  omega
theorem nr {f:Nat→Int} (h:∀ i,i<n→0<i→f (i-1)<f i) {j:Nat} (hi:i<n) (hj:j<n) (e:f i=f j):i=j:=by
 have a:=oa h j i
 have b:=oa h i j
 omega
def pD (n:Nat) (z:Nat→Int) (prio:Int) (m:Nat) (K:Nat→Pkt):Prop :=
 ∀ i,i<n→(∃ j,j<m∧(K j).id=z i∧(K j).p=prio)∧(0<i→z (i-1)<z i)
theorem pD.le {prio p:Int} {K:Nat→Pkt} (h:pD n z prio m K) (hK:lQ nx p m K):n≤m:=by
 have up:=fun i hi h0=>(h i hi).2 h0
 have key:∀ k,k≤n→∀ j,j<m→(0<k→(K j).id=z (k-1))→k≤j+1:=by
  intro k
  induction k with
  | zero=>intro _ j hj _;omega
  | succ k ih =>
   intro hk j hj e
   have e1:=e (by omega)
   rw [Nat.add_sub_cancel] at e1
   by_cases h0:k=0
   ·
    omega
   obtain ⟨⟨j',hj',e2,_⟩,hr⟩:=h (k-1) (by omega)
   have hlt:=(h k (by omega)).2 (by omega)
   have:=ih (by omega) j' hj' (fun _=>e2)
   have hjj:j'<j:=by
    have hu:=oa hK.up j' j
    by_cases c:j'<j
    ·
     exact c
    by_cases c2:j=j'
    ·
     subst c2;omega
    have:=hu (by omega) hj'
    omega
   omega
 by_cases h0:n=0
 ·
  omega
 obtain ⟨⟨j,hj,e,_⟩,_⟩:=h (n-1) (by omega)
 have:=key n (Nat.le_refl _) j hj (fun _=>e)
 omega
structure nN (m:Nat) (K:Nat→Pkt) (l:Lng):Prop where
 r:l.R.Ok
 n:l.R.nQ=2
 q0:l.R.q 0=2
 q1:l.R.q 1=4
 u:l.nU=2
 z:∀ c,c<2→pD (l.uL c) (l.uz c) (c:Int) m K∧l.uL c=l.R.L c∧∀ i,i<l.uL c→∀ j,j<m→(K j).id=l.uz c i→l.R.z c i=(K j).cl
 t:pD l.nT l.t 2 m K
def occ (z:Nat→Int) (x:Int):Nat→Nat
 | 0=>0
 | n+1=>occ z x n+if z n=x then 1 else 0
def rC (l:Lng) (x:Int):Nat→Nat
 | 0=>0
 | c+1=>rC l x c+occ (l.uz c) x (l.uL c)
def lS (L:Nat→Lng) (x:Int):Nat→Nat
 | 0=>0
 | i+1=>lS L x i+(occ (L i).t x (L i).nT+rC (L i) x (L i).nU)
def jI (K:Nat→Pkt) (p:Int):Nat→Int
 | 0=>0
 | n+1=>jI K p n+if (K n).p=2∧(K n).inn=p then (K n).cl else 0
def iM (K:Nat→Pkt):Nat→Int
 | 0=>0
 | n+1=>iM K n+if (K n).p=2 then 0 else (K n).cl
structure Swg.Fl (S:Swg):Prop where
 now:0≤S.now∧S.now≤1000000000
 nx:1≤S.nx∧S.nx≤1000000000
 dr:0≤S.dr∧S.dr≤1000000000
 lst:0≤S.lst∧S.lst≤1000000000
def Swg.seen (S:Swg):Prop:=mA S.nE S.e∧∀ i,i<S.nE→(S.e i).p<S.C.p∧(S.e i).t≤S.now
def Swg.C9 (S:Swg):Prop:=∀ j,j<S.nK→1≤(S.K j).refs∧(S.K j).refs=lS S.L (S.K j).id S.nL
def Swg.Dx (S:Swg):Prop:=S.N.lo=iM S.K S.nK∧∀ i,i<S.N.nU→S.N.u i=jI S.K i S.nK
structure Swg.Ok (S:Swg):Prop where
 n:Cnt.Ok S.C S.N
 nums:S.Fl
 seen:S.seen
 k:lQ S.nx S.C.p S.nK S.K
 nl:(S.nL:Int)=S.C.p
 l:∀ i,i<S.nL→nN S.nK S.K (S.L i)
 refs:S.C9
 held:S.Dx
open Classical in
theorem ju (p:Prop):∃ ok:Bool,ok=true↔p:=⟨decide p,by simp⟩
theorem xN {p:Int} {K:Nat→Pkt} {q:Int} (h:lQ nx p m K):∀ n,n≤m→0≤jI K q n∧jI K q n≤5*(n:Int):=by
 intro n
 induction n with
 | zero=>intro _;exact ⟨Int.le_refl _,Int.le_refl _⟩
 | succ n ih =>
  intro hn
  have:=ih (by omega)
  have hc:=(h.one n (by omega)).2.2.cl
  show 0≤jI K q n+_∧jI K q n+_≤_
  split <;> omega
theorem pN {p:Int} {K:Nat→Pkt} (h:lQ nx p m K):∀ n,n≤m→0≤iM K n∧iM K n≤5*(n:Int):=by
 intro n
 induction n with
 | zero=>intro _;exact ⟨Int.le_refl _,Int.le_refl _⟩
 | succ n ih =>
  intro hn
  have:=ih (by omega)
  have hc:=(h.one n (by omega)).2.2.cl
  show 0≤iM K n+_∧iM K n+_≤_
  split <;> omega
theorem rh (z:Nat→Int) (x:Int):∀ n,occ z x n≤n:=by
 intro n
 induction n with
 | zero=>exact Nat.le_refl _
 | succ n ih =>
  show occ z x n+_≤_
  split <;> omega
theorem sl:∀ {n},0<occ z x n↔∃ i,i<n∧z i=x:=by
 intro n
 induction n with
 | zero =>
  constructor
  ·
   intro h;exact absurd h (Nat.lt_irrefl 0)
  rintro ⟨i,hi,_⟩;omega
 | succ n ih =>
  show 0<occ z x n+_↔_
  by_cases e:z n=x
  ·
   rw [if_pos e]
   constructor
   ·
    intro _;exact ⟨n,by omega,e⟩
   intro _;omega
  rw [if_neg e,Nat.add_zero,ih]
  constructor
  ·
   rintro ⟨i,hi,h⟩;exact ⟨i,by omega,h⟩
  rintro ⟨i,hi,h⟩
  refine ⟨i,?_,h⟩
  by_cases e2:i=n
  ·
   subst e2;exact absurd h e
  omega
theorem Dh (h:∀ i,i<n→0<i→z (i-1)<z i):∀ k,k≤n→occ z x k≤1:=by
 intro k
 induction k with
 | zero=>intro _;exact Nat.zero_le _
 | succ k ih =>
  intro hk
  show occ z x k+_≤1
  by_cases e:z k=x
  ·
   rw [if_pos e]
   have:occ z x k=0:=by
    by_cases c:0<occ z x k
    ·
     obtain ⟨i,hi,e2⟩:=sl.1 c
     have:=oa h k i hi (by omega)
     omega
    omega
   omega
  rw [if_neg e]
  exact ih (by omega)
