import Derived.Test.YtjaobmbcmjgjgaaGreatDoorProg
import Derived.Below
import Derived.BigQuiet
import Derived.Deep.QuietTactic
import Derived.Deep.RegionHeld3
import Derived.Laws.BitsAllLaws
import Derived.Laws.BytesArg
import Derived.Laws.MakeOwn
import Derived.WalkKit
import Derived.WalkLawsBesides
import Derived.WalkSpells
namespace Go.Proofs.YtjaobmbcmjgjgaaGreatDoor
open Go.RowKit
set_option linter.unusedVariables false
theorem aa {p:Prop} (h:p:=by
 go_wp2
 go_ret
 exact ⟨by simp;omega,rfl⟩):p:=h
theorem wR {a b:ByteArray} (h:a=b):Ending.returned (.string a)=.returned (.string b):=by rw [h]
theorem fO {a b:Bool} (h:a=b):Ending.returned (.bool a)=.returned (.bool b):=by rw [h]
theorem iM {k:IntKind} {a b:Int} (h:a=b):Ending.returned (.int k a)=.returned (.int k b):=by rw [h]
theorem fT (n lo hi:Int) (w:World) :
  Calls Tryz.prog 46 #[.int .i64 n,.int .i64 lo,.int .i64 hi] w fun e w'=>e=.returned (.bool (decide (lo≤n∧n≤hi)))∧w'=w:=by
 by_cases h1:lo≤n
 ·
  by_cases h2:n≤hi
  ·
   go_enter Tryz.func46,Tryz.ntmps46
   go_wp2
   go_ret
   exact ⟨by simp [h1,h2],rfl⟩
  go_enter Tryz.func46,Tryz.ntmps46
  exact aa
 go_enter Tryz.func46,Tryz.ntmps46
 exact aa
theorem fF {w:World} {g:Nat} {cs:Array Value} {t:TypeId} {fr:Nat × Nat} (h:w.heap[g]?=some (.cells cs t fr)) (i:Nat):w.cell? ⟨g,i,none⟩=cs[i]?:=by simp [World.cell?,h]
theorem fZ {w:World} {g:Nat} {cs:Array Value} {t:TypeId} (h:w.heap[g]?=some (.cells cs t (0,0))) (i:Nat):w.frozen? ⟨g,i,none⟩=false:=by simp [World.frozen?,h]
theorem fG {w:World} {g:Nat} {o:Obj} (h:w.heap[g]?=some o):g<w.heap.size:=(Array.getElem?_eq_some_iff.1 h).1
theorem gv {w:World} {g i:Nat} {cs:Array Value} {t:TypeId} {fr:Nat × Nat} (h:w.heap[g]?=some (.cells cs t fr)) (v:Value):(w.setCell ⟨g,i,none⟩ v).heap[g]?=some (.cells (cs.setIfInBounds i v) t fr):=by
 simp [World.setCell,Array.getElem?_modify,h]
theorem fS {w:World} {g k i:Nat} (hn:k≠g) (v:Value):(w.setCell ⟨g,i,none⟩ v).heap[k]?=w.heap[k]?:=Below.heap_setCell w ⟨g,i,none⟩ v k hn
theorem fK (w:World) (o:Obj):(w.alloc o).heap[w.heap.size]?=some o:=by
 show (w.heap.push o)[w.heap.size]?=_
 simp
theorem fY {w:World} (o:Obj) {k:Nat} (h:k<w.heap.size):(w.alloc o).heap[k]?=w.heap[k]?:=Below.heap_alloc w o k h
theorem vV {w:World} {base g n cap:Nat} {e:TypeId} {xs:List Value} (h:w.ownsRow base e 1 (.slice (some ⟨g,0,none⟩) n cap) n xs) (i:Nat) (hi:i<n):w.cell? ⟨g,i,none⟩=xs[i]?:=by
 obtain ⟨hl,h | ⟨g',cap',cur,hv,hg,hblk,hn,hc,hs,ht⟩⟩:=h
 ·
  cases h.1
 cases hv
 rw [fF hblk,←ht,List.getElem?_take_of_lt (by omega)]
 simp
theorem k7 {w w':World} {base n B:Nat} {e:TypeId} {size:Nat} {v:Value} {xs:List Value} (h:w.ownsRow base e size v n xs) (hb:Below B w w') (hB:w.heap.size≤B):w'.ownsRow base e size v n xs:=by
 obtain ⟨hl,h | ⟨g',cap',cur,hv,hg,hblk,hr⟩⟩:=h
 ·
  exact ⟨hl,.inl h⟩
 exact ⟨hl,.inr ⟨g',cap',cur,hv,hg,by rw [hb.block g' (Nat.lt_of_lt_of_le (fG hblk) hB)];exact hblk,hr⟩⟩
theorem iI {w:World} {a:Addr} {v:Value} (h:w.cell? a=some v):a.block<w.heap.size:=by
 unfold World.cell? at h
 split at h
 ·
  rename_i heq
  exact (Array.getElem?_eq_some_iff.1 heq).1
 cases h
theorem boxed {w wi:World} {C:Array Value} {t:TypeId} (h:Below (w.heap.size+1) (w.alloc (.cells C t)) wi):∀ o,wi.cell? ⟨w.heap.size,o,none⟩=C[o]?:=by
 intro o
 rw [h.cell (p:=⟨w.heap.size,o,none⟩) (by show w.heap.size<_;omega)]
 exact World.cell?_alloc_mark w C t (0,0) o
theorem under {w wi:World} {o:Obj} (h:Below (w.heap.size+1) (w.alloc o) wi):Below w.heap.size w wi :=
 ((Below.refl _ _).alloc (Nat.le_refl _) _).trans (h.mono (by omega))
theorem upper {w wi:World} {o:Obj} (h:Below (w.heap.size+1) (w.alloc o) wi):w.heap.size+1≤wi.heap.size:=by
 have:=h.size
 simpa using this
theorem first {w wi:World} {o:Obj} (h:Below (w.alloc o).heap.size (w.alloc o) wi):Below (w.heap.size+1) (w.alloc o) wi :=
 h.mono (by simp)
theorem next {w wi wj:World} {o:Obj} (h:Below (w.heap.size+1) (w.alloc o) wi) (k:Below wi.heap.size wi wj):Below (w.heap.size+1) (w.alloc o) wj :=
 h.trans (k.mono (upper h))
set_option linter.unusedSimpArgs false
structure Touch (S:List Nat) (w w':World):Prop where
 os:w'.os=w.os
 tape:w'.tape=w.tape
 output:w'.output=w.output
 size:w.heap.size≤w'.heap.size
 block:∀ k,k<w.heap.size→k∉S→w'.heap[k]?=w.heap[k]?
theorem Touch.refl (S:List Nat) (w:World):Touch S w w:=⟨rfl,rfl,rfl,Nat.le_refl _,fun _ _ _=>rfl⟩
theorem Touch.trans {S:List Nat} {a b c:World} (h:Touch S a b) (k:Touch S b c):Touch S a c :=
 ⟨k.os.trans h.os,k.tape.trans h.tape,k.output.trans h.output,Nat.le_trans h.size k.size,fun i hi hn=>(k.block i (Nat.lt_of_lt_of_le hi h.size) hn).trans (h.block i hi hn)⟩
theorem Touch.mono {S S':List Nat} {a b:World} (h:Touch S a b) (hs:∀ x∈S,x∈S'):Touch S' a b:=⟨h.os,h.tape,h.output,h.size,fun k hk hn=>h.block k hk (fun hm=>hn (hs k hm))⟩
theorem Touch.gY {S:List Nat} {a b:World} (h:Below a.heap.size a b):Touch S a b:=⟨h.os,h.tape,h.output,h.size,fun i hi _=>h.block i hi⟩
theorem Touch.below {S:List Nat} {B:Nat} {a b:World} (h:Touch S a b) (hB:B≤a.heap.size) (hS:∀ x∈S,B≤x):Below B a b :=
 ⟨h.os,h.tape,h.output,h.size,fun k hk=>h.block k (by omega) (fun hm=>by have:=hS k hm;omega)⟩
theorem Touch.set {S:List Nat} {g:Nat} {a b:World} (h:Touch S a b) (hg:g∈S) (i:Nat) (v:Value):Touch S a (b.setCell ⟨g,i,none⟩ v) :=
 h.trans ⟨rfl,rfl,rfl,by simp [World.setCell],fun k _ hn=>fS (by intro e;subst e;exact hn hg) v⟩
def fU (g:Nat) (t:TypeId) (n:Nat) (f:Nat→Value) (k:Nat) (w:World):Prop :=
 ∃ arr:Array Value,w.heap[g]?=some (.cells arr t (0,0))∧n≤arr.size∧∀ i,i<k→arr[i]?=some (f i)
theorem fU.step {g n k:Nat} {t:TypeId} {f:Nat→Value} {w:World} (h:fU g t n f k w) (hk:k<n):fU g t n f (k+1) (w.setCell ⟨g,k,none⟩ (f k)):=by
 obtain ⟨arr,hb,hn,hc⟩:=h
 refine ⟨_,gv hb _,by simpa using hn,fun i hi=>?_⟩
 by_cases e:i=k
 ·
  subst e
  rw [Array.getElem?_setIfInBounds_self_of_lt (by omega)]
 rw [Array.getElem?_setIfInBounds_ne (by omega)]
 exact hc i (by omega)
theorem fU.there {g n k:Nat} {t:TypeId} {f:Nat→Value} {w:World} (h:fU g t n f k w) (i:Nat) (hi:i<n):∃ v,w.cell? ⟨g,i,none⟩=some v:=by
 obtain ⟨arr,hb,hn,hc⟩:=h
 exact ⟨arr[i],by rw [fF hb];simp⟩
theorem fU.free {g n k:Nat} {t:TypeId} {f:Nat→Value} {w:World} (h:fU g t n f k w) (i:Nat):w.frozen? ⟨g,i,none⟩=false:=by
 obtain ⟨arr,hb,hn,hc⟩:=h
 exact fZ hb i
theorem fU.at {g n:Nat} {t:TypeId} {f:Nat→Value} {w:World} (h:fU g t n f n w) (i:Nat) (hi:i<n):w.cell? ⟨g,i,none⟩=some (f i):=by
 obtain ⟨arr,hb,hn,hc⟩:=h
 rw [fF hb];exact hc i hi
theorem fU.iB {g n k:Nat} {t:TypeId} {f:Nat→Value} {w w':World} (h:fU g t n f k w) (hb:w'.heap[g]?=w.heap[g]?):fU g t n f k w':=by
 obtain ⟨arr,h1,h2,h3⟩:=h
 exact ⟨arr,hb.trans h1,h2,h3⟩
theorem fU.lt {g n k:Nat} {t:TypeId} {f:Nat→Value} {w:World} (h:fU g t n f k w):g<w.heap.size:=by
 obtain ⟨arr,h1,h2,h3⟩:=h
 exact fG h1
theorem fU.Bq {g n k:Nat} {t:TypeId} {f f':Nat→Value} {w:World} (h:fU g t n f k w):fU g t n f' 0 w:=by
 obtain ⟨arr,h1,h2,h3⟩:=h
 exact ⟨arr,h1,h2,fun i hi=>by omega⟩
structure kJ (w w':World):Prop where
 os:w'.os=w.os
 tape:w'.tape=w.tape
 output:w'.output=w.output
 heap:w'.heap=w.heap
theorem kJ.refl (w:World):kJ w w:=⟨rfl,rfl,rfl,rfl⟩
theorem kJ.drewN {a b:World} (h:kJ a b) (n:Nat):kJ a (b.drewN n):=⟨h.os,h.tape,h.output,h.heap⟩
theorem kJ.cell {a b:World} (h:kJ a b) (p:Addr):b.cell? p=a.cell? p:=by unfold World.cell?;rw [h.heap]
theorem kJ.below {a b:World} (h:kJ a b) (B:Nat):Below B a b:=⟨h.os,h.tape,h.output,by rw [h.heap];exact Nat.le_refl _,fun k _=>by rw [h.heap]⟩
section
variable {P : Program} {ops : Array Oper} {Q : Exit → Act → World → Prop} {md : Region.Mode} {S : World → Prop}
theorem ka {i:Nat} (d:Option Tmp) {oi:Oper} {v:Value} {fuel:Nat} {listed:Array Bool} {a:Act} {w:World} (hi:ops[i]?=some oi) (hd:oi.dst=d)
  (hs:Region.noSelect ops=true) (hf:Region.free md ops listed i=true) (hr:(Region.ready md ops listed).contains i=true)
  (hQ:∀ c a w,Q (.panic c) (a.put d v) w→Q (.panic c) a w) (hw:Region.wanted oi (yielded ops a.tmps)=true) (hy:∀ w,S w→(execOp a.eval oi).run P w=.ok (.value v) w) (hS:S w)
  (h:wpAnyH P md ops Q S fuel (listed.setIfInBounds i true) (a.put d v) w):wpAnyH P md ops Q S (fuel+1) listed a w:=by
 subst hd
 exact wpAnyH_take hi hs hf hr hQ (Or.inl ⟨hw,hy⟩) hS h
theorem Cu {i:Nat} (d:Option Tmp) {oi:Oper} {fuel:Nat} {listed:Array Bool} {a:Act} {w:World} (hi:ops[i]?=some oi) (hd:oi.dst=d)
  (hs:Region.noSelect ops=true) (hf:Region.free md ops listed i=true) (hr:(Region.ready md ops listed).contains i=true)
  (hQ:∀ c a w,Q (.panic c) (a.put d undef) w→Q (.panic c) a w) (hw:Region.wanted oi (yielded ops a.tmps)=false) (hS:S w)
  (h:wpAnyH P md ops Q S fuel (listed.setIfInBounds i true) (a.put d undef) w):wpAnyH P md ops Q S (fuel+1) listed a w:=by
 subst hd
 exact wpAnyH_take hi hs hf hr hQ (Or.inr ⟨hw,rfl⟩) hS h
end
theorem qo {o:Oper} {a:Act} {K:Act→World→Prop} {Q:Exit→Act→World→Prop} {W W':World} {c:Prop} [Decidable c] {E:Prop} (hc:c) (s x:Operand) (t:TypeId) (vs vx v:Value)
  (ho:o.op=.call { callee:=.builtin .append,args:=#[s,x],argTypes:=#[t,t] }) (hty:o.type=t) (hs:a.eval s=vs) (hx:a.eval x=vx)
  (hr:(Builtin.append_ #[t,t] t #[vs,vx]).run Tryz.prog W=.ok v W') (h:K (a.put o.dst v) W'):if c then o.wp Tryz.prog a W K Q else E:=by
 rw [if_pos hc]
 unfold Oper.wp execOp
 simp only [ho,resolve,invoke,builtin,Sem.run_bind,Sem.run_pure,Result.andThen_ok,List.map_toArray,List.map_cons,List.map_nil,hs,hx,hty]
 simp only [hr,Result.andThen_ok]
 exact h
section
variable {P : Program} {ops : Array Oper} {Q : Exit → Act → World → Prop} {md : Region.Mode} {S : World → Prop}
end
theorem PZ {α:Type _}:(∀ (l:List α) (i:Nat) (a:α),l.toArray.setIfInBounds i a=(l.set i a).toArray)∧(∀ (x:α) (xs:List α) (a:α),(x :: xs).set 0 a=a :: xs) ∧
  (∀ (x:α) (xs:List α) (n:Nat) (a:α),(x :: xs).set (n+1) a=x :: xs.set n a) :=
 ⟨fun _ _ _=>List.setIfInBounds_toArray _ _ _,fun _ _ _=>List.set_cons_zero,fun _ _ _ _=>List.set_cons_succ⟩
section
variable {P : Program} {ops : Array Oper} {Q : Exit → Act → World → Prop} {md : Region.Mode} {S : World → Prop}
theorem tC (i d:Nat) {oi:Oper} {v:Value} {fuel:Nat} {listed:Array Bool} {a:Act} {w:World} (hy:∀ w,S w→(execOp a.eval oi).run P w=.ok (.value v) w)
  (h:wpAnyH P md ops Q S fuel (listed.setIfInBounds i true) (a.put (some d) v) w) (hi:ops[i]?=some oi:=by rfl) (hd:oi.dst=some d:=by rfl)
  (hs:Region.noSelect ops=true:=by kernel_rfl) (hf:Region.free md ops listed i=true:=by kernel_rfl) (hr:(Region.ready md ops listed).contains i=true:=by kernel_rfl)
  (hQ:∀ c a w,Q (.panic c) (a.put (some d) v) w→Q (.panic c) a w:=by exact fun _ _ _ h=>h) (hw:Region.wanted oi (yielded ops a.tmps)=true:=by kernel_rfl) (hS:S w:=by assumption) :
  wpAnyH P md ops Q S (fuel+1) listed a w :=
 ka (some d) hi hd hs hf hr hQ hw hy hS h
theorem tP (i d:Nat) {oi:Oper} {v:Value} {fuel:Nat} {listed:Array Bool} {a a':Act} {w:World}
  (h:wpAnyH P md ops Q S fuel (listed.setIfInBounds i true) a' w) (hi:ops[i]?=some oi:=by rfl) (hd:oi.dst=some d:=by rfl)
  (hy:∀ w,S w→(execOp a.eval oi).run P w=.ok (.value v) w:=by intro wx hSw;go_simp;try (with_reducible rfl))
  (ha:a.put (some d) v=a':=by (try simp only [Act.put,PZ]);try exact rfl) (hs:Region.noSelect ops=true:=by kernel_rfl) (hf:Region.free md ops listed i=true:=by kernel_rfl) (hr:(Region.ready md ops listed).contains i=true:=by kernel_rfl)
  (hQ:∀ c a w,Q (.panic c) (a.put (some d) v) w→Q (.panic c) a w:=by exact fun _ _ _ h=>h) (hw:Region.wanted oi (yielded ops a.tmps)=true:=by kernel_rfl) (hS:S w:=by assumption) :
  wpAnyH P md ops Q S (fuel+1) listed a w :=
 ka (some d) hi hd hs hf hr hQ hw hy hS (by rw [ha];exact h)
theorem sA (i d:Nat) {oi:Oper} {fuel:Nat} {listed:Array Bool} {a a':Act} {w:World}
  (h:wpAnyH P md ops Q S fuel (listed.setIfInBounds i true) a' w) (hi:ops[i]?=some oi:=by rfl) (hd:oi.dst=some d:=by rfl)
  (ha:a.put (some d) undef=a':=by (try simp only [Act.put,PZ]);try exact rfl) (hs:Region.noSelect ops=true:=by kernel_rfl) (hf:Region.free md ops listed i=true:=by kernel_rfl) (hr:(Region.ready md ops listed).contains i=true:=by kernel_rfl)
  (hQ:∀ c a w,Q (.panic c) (a.put (some d) undef) w→Q (.panic c) a w:=by exact fun _ _ _ h=>h) (hw:Region.wanted oi (yielded ops a.tmps)=false:=by kernel_rfl) (hS:S w:=by assumption) :
  wpAnyH P md ops Q S (fuel+1) listed a w :=
 Cu (some d) hi hd hs hf hr hQ hw hS (by rw [ha];exact h)
end
section
variable {P : Program} {ops : Array Oper} {Q : Exit → Act → World → Prop} {md : Region.Mode} {S : World → Prop}
theorem rq1 (i:Nat) {o:Oper} {fuel:Nat} {l:Array Bool} {a:Act} {w:World}
  (h:∀ K':Act→World→Prop,Shut (∀ a w,S w→(S w→wpAnyH P md ops Q S fuel (l.setIfInBounds i true) a w)→K' a w)→if Region.wanted o (yielded ops a.tmps)=true then Oper.wp P o a w K' Q else K' (a.put o.dst undef) w)
  (ho:ops[i]?=some o:=by rfl) (hr:Region.ready md ops l=[i]:=by kernel_rfl):wpAnyH P md ops Q S (fuel+1) l a w :=
 wpAnyH_ready hr (List.cons_ne_nil _ _) (AllReadyH.cons ho h AllReadyH.nil)
theorem rq2 (i j:Nat) {o o2:Oper} {fuel:Nat} {l:Array Bool} {a:Act} {w:World}
  (h:∀ K':Act→World→Prop,Shut (∀ a w,S w→(S w→wpAnyH P md ops Q S fuel (l.setIfInBounds i true) a w)→K' a w)→if Region.wanted o (yielded ops a.tmps)=true then Oper.wp P o a w K' Q else K' (a.put o.dst undef) w)
  (h2:∀ K':Act→World→Prop,Shut (∀ a w,S w→(S w→wpAnyH P md ops Q S fuel (l.setIfInBounds j true) a w)→K' a w)→if Region.wanted o2 (yielded ops a.tmps)=true then Oper.wp P o2 a w K' Q else K' (a.put o2.dst undef) w)
  (ho:ops[i]?=some o:=by rfl) (ho2:ops[j]?=some o2:=by rfl) (hr:Region.ready md ops l=[i,j]:=by kernel_rfl):wpAnyH P md ops Q S (fuel+1) l a w :=
 wpAnyH_ready hr (List.cons_ne_nil _ _) (AllReadyH.cons ho h (AllReadyH.cons ho2 h2 AllReadyH.nil))
theorem dnq {fuel:Nat} {l:Array Bool} {a:Act} {w:World} (h:Q .normal a w) (hr:Region.ready md ops l=[]:=by kernel_rfl):wpAnyH P md ops Q S fuel l a w:=wpAnyH_done hr h fuel
theorem tM (i d:Nat) {oi:Oper} {v:Value} {fuel:Nat} {l:Array Bool} {a a':Act} {w:World}
  (h:wpAnyH P md ops Q S fuel (l.setIfInBounds i true) a' w) (hi:ops[i]?=some oi:=by rfl) (hd:oi.dst=some d:=by rfl)
  (hy:∀ w,S w→(execOp a.eval oi).run P w=.ok (.value v) w:=by intro wx hSw;(try dsimp only at hSw);go_simp;try (with_reducible rfl))
  (ha:a.put (some d) v=a':=by (try simp only [Act.put,PZ]);try exact rfl) (hs:Region.noSelect ops=true:=by kernel_rfl) (hf:Region.free md ops l i=true:=by kernel_rfl) (hr:(Region.ready md ops l).contains i=true:=by kernel_rfl)
  (hQ:∀ c a w,Q (.panic c) (a.put (some d) v) w→Q (.panic c) a w:=by exact fun _ _ _ h=>absurd h.1 (by simp)) (hw:Region.wanted oi (yielded ops a.tmps)=true:=by kernel_rfl) (hS:S w:=by assumption) :
  wpAnyH P md ops Q S (fuel+1) l a w :=
 ka (some d) hi hd hs hf hr hQ hw hy hS (by rw [ha];exact h)
end
theorem j5 (n:Int) (w:World) :
  Calls Tryz.prog 92 #[.int .i64 n] w fun e w'=>e=.returned (.bool (decide (1≤n∧n≤20)))∧w'=w:=by
 go_enter Tryz.func92,Tryz.ntmps92
 go_wp2_with (go_at_call 46;refine (fT _ _ _ _).mono ?_;rintro e w' ⟨rfl,rfl⟩)
 go_ret
 exact ⟨fO (by simp),rfl⟩
theorem mX (n:Int) (w:World) :
  Calls Tryz.prog 138 #[.int .i64 n] w fun e w'=>e=.returned (.bool (decide (1≤n∧n≤20)))∧w'=w:=by
 by_cases h1:1≤n
 ·
  go_enter Tryz.func138,Tryz.ntmps138
  go_wp2
  go_ret
  exact ⟨by simp [h1],rfl⟩
 go_enter Tryz.func138,Tryz.ntmps138
 exact aa
theorem xq (n:Int) (w:World) :
  Calls Tryz.prog 148 #[.int .i64 n] w fun e w'=>e=.returned (.bool (decide (0≤n∧n≤3)))∧w'=w:=by
 by_cases h1:0≤n
 ·
  go_enter Tryz.func148,Tryz.ntmps148
  go_wp2
  go_ret
  exact ⟨fO (by rw [Bool.eq_iff_iff];simp [h1];omega),rfl⟩
 go_enter Tryz.func148,Tryz.ntmps148
 exact aa
theorem iT (n:Int) (w:World) :
  Calls Tryz.prog 103 #[.int .i64 n] w fun e w'=>e=.returned (.bool (decide (0≤n∧n≤1000000000)))∧w'=w:=by
 by_cases h1:0≤n
 ·
  go_enter Tryz.func103,Tryz.ntmps103
  go_wp2
  go_ret
  exact ⟨by simp [h1],rfl⟩
 go_enter Tryz.func103,Tryz.ntmps103
 exact aa
end Go.Proofs.YtjaobmbcmjgjgaaGreatDoor
