import Derived.Test.YtfcfpkibceepgaaGreatProg
import Derived.Below
import Derived.BigQuiet
import Derived.Deep.QuietTactic
import Derived.Deep.RegionHeld3
import Derived.Laws.BitsAllLaws
import Derived.Laws.BytesArg
import Derived.Laws.MakeOwn
import Derived.OwnWalk
import Derived.WalkKit
import Derived.WalkLawsBesides
import Derived.WalkSpells
namespace Go.Proofs.YtfcfpkibceepgaaGreat
open Go.RowKit
set_option linter.unusedVariables false
theorem aa {p:Prop} (h:p:=by
 clear hok h0
 go_enter Tryz.func158,Tryz.ntmps158
 go_wp2_with fail
 go_ret
 exact ⟨fQ HE.out,HA.out _⟩):p:=h
theorem ab {p:Prop} (h:p:=by
 rw [Hid,Bool.eq_iff_iff,hok];simp [n7,h0,hd]):p:=h
theorem ae {p:Prop} (h:p:=by
 go_enter Tryz.func19,Tryz.ntmps19
 go_wp2
 go_ret
 exact ⟨by simp;omega,rfl⟩):p:=h
theorem xm {a b:ByteArray} (h:a=b):Ending.returned (.string a)=.returned (.string b):=by rw [h]
theorem fQ {a b:Bool} (h:a=b):Ending.returned (.bool a)=.returned (.bool b):=by rw [h]
theorem jM {k:IntKind} {a b:Int} (h:a=b):Ending.returned (.int k a)=.returned (.int k b):=by rw [h]
theorem fW (n lo hi:Int) (w:World) :
  Calls Tryz.prog 19 #[.int .i64 n,.int .i64 lo,.int .i64 hi] w fun e w'=>e=.returned (.bool (decide (lo≤n∧n≤hi)))∧w'=w:=by
 by_cases h1:lo≤n
 ·
  by_cases h2:n≤hi
  ·
   go_enter Tryz.func19,Tryz.ntmps19
   go_wp2
   go_ret
   exact ⟨by simp [h1,h2],rfl⟩
  exact ae
 exact ae
theorem fG {w:World} {g:Nat} {cs:Array Value} {t:TypeId} {fr:Nat × Nat} (h:w.heap[g]?=some (.cells cs t fr)) (i:Nat):w.cell? ⟨g,i,none⟩=cs[i]?:=by simp [World.cell?,h]
theorem fX {w:World} {g:Nat} {cs:Array Value} {t:TypeId} (h:w.heap[g]?=some (.cells cs t (0,0))) (i:Nat):w.frozen? ⟨g,i,none⟩=false:=by simp [World.frozen?,h]
theorem fH {w:World} {g:Nat} {o:Obj} (h:w.heap[g]?=some o):g<w.heap.size:=(Array.getElem?_eq_some_iff.1 h).1
theorem gj {w:World} {g i:Nat} {cs:Array Value} {t:TypeId} {fr:Nat × Nat} (h:w.heap[g]?=some (.cells cs t fr)) (v:Value):(w.setCell ⟨g,i,none⟩ v).heap[g]?=some (.cells (cs.setIfInBounds i v) t fr):=by
 simp [World.setCell,Array.getElem?_modify,h]
theorem fO {w:World} {g k i:Nat} (hn:k≠g) (v:Value):(w.setCell ⟨g,i,none⟩ v).heap[k]?=w.heap[k]?:=Below.heap_setCell w ⟨g,i,none⟩ v k hn
theorem fL (w:World) (o:Obj):(w.alloc o).heap[w.heap.size]?=some o:=by
 show (w.heap.push o)[w.heap.size]?=_
 simp
theorem gg {w:World} (o:Obj) {k:Nat} (h:k<w.heap.size):(w.alloc o).heap[k]?=w.heap[k]?:=Below.heap_alloc w o k h
theorem AR {w:World} {base g n cap:Nat} {e:TypeId} {xs:List Value} (h:w.ownsRow base e 1 (.slice (some ⟨g,0,none⟩) n cap) n xs) (i:Nat) (hi:i<n):w.cell? ⟨g,i,none⟩=xs[i]?:=by
 obtain ⟨hl,h | ⟨g',cap',cur,hv,hg,hblk,hn,hc,hs,ht⟩⟩:=h
 ·
  cases h.1
 cases hv
 rw [fG hblk,←ht,List.getElem?_take_of_lt (by omega)]
 simp
theorem kT {w w':World} {base n B:Nat} {e:TypeId} {size:Nat} {v:Value} {xs:List Value} (h:w.ownsRow base e size v n xs) (hb:Below B w w') (hB:w.heap.size≤B):w'.ownsRow base e size v n xs:=by
 obtain ⟨hl,h | ⟨g',cap',cur,hv,hg,hblk,hr⟩⟩:=h
 ·
  exact ⟨hl,.inl h⟩
 exact ⟨hl,.inr ⟨g',cap',cur,hv,hg,by rw [hb.block g' (Nat.lt_of_lt_of_le (fH hblk) hB)];exact hblk,hr⟩⟩
theorem iu {w:World} {a:Addr} {v:Value} (h:w.cell? a=some v):a.block<w.heap.size:=by
 unfold World.cell? at h
 split at h
 ·
  rename_i heq
  exact (Array.getElem?_eq_some_iff.1 heq).1
 cases h
theorem boxed {w wi:World} {C:Array Value} {t:TypeId} (h:Below (w.heap.size+1) (w.alloc (.cells C t)) wi):∀ o,wi.cell? ⟨w.heap.size,o,none⟩=C[o]?:=by
 intro o
 rw [h.cell (p:=⟨w.heap.size,o,none⟩) (by show w.heap.size<_;omega)]
 exact World.cell?_alloc_mark w C t (0,0) o
theorem under {w wi:World} {o:Obj} (h:Below (w.heap.size+1) (w.alloc o) wi):Below w.heap.size w wi :=
 ((Below.refl _ _).alloc (Nat.le_refl _) _).trans (h.mono (by omega))
theorem upper {w wi:World} {o:Obj} (h:Below (w.heap.size+1) (w.alloc o) wi):w.heap.size+1≤wi.heap.size:=by
 have:=h.size
 simpa using this
theorem first {w wi:World} {o:Obj} (h:Below (w.alloc o).heap.size (w.alloc o) wi):Below (w.heap.size+1) (w.alloc o) wi :=
 h.mono (by simp)
theorem next {w wi wj:World} {o:Obj} (h:Below (w.heap.size+1) (w.alloc o) wi) (k:Below wi.heap.size wi wj):Below (w.heap.size+1) (w.alloc o) wj :=
 h.trans (k.mono (upper h))
set_option linter.unusedSimpArgs false
structure Touch (S:List Nat) (w w':World):Prop where
 os:w'.os=w.os
 tape:w'.tape=w.tape
 output:w'.output=w.output
 size:w.heap.size≤w'.heap.size
 block:∀ k,k<w.heap.size→k∉S→w'.heap[k]?=w.heap[k]?
theorem Touch.refl (S:List Nat) (w:World):Touch S w w:=⟨rfl,rfl,rfl,Nat.le_refl _,fun _ _ _=>rfl⟩
theorem Touch.trans {S:List Nat} {a b c:World} (h:Touch S a b) (k:Touch S b c):Touch S a c :=
 ⟨k.os.trans h.os,k.tape.trans h.tape,k.output.trans h.output,Nat.le_trans h.size k.size,fun i hi hn=>(k.block i (Nat.lt_of_lt_of_le hi h.size) hn).trans (h.block i hi hn)⟩
theorem Touch.mono {S S':List Nat} {a b:World} (h:Touch S a b) (hs:∀ x∈S,x∈S'):Touch S' a b:=⟨h.os,h.tape,h.output,h.size,fun k hk hn=>h.block k hk (fun hm=>hn (hs k hm))⟩
theorem Touch.gY {S:List Nat} {a b:World} (h:Below a.heap.size a b):Touch S a b:=⟨h.os,h.tape,h.output,h.size,fun i hi _=>h.block i hi⟩
theorem Touch.below {S:List Nat} {B:Nat} {a b:World} (h:Touch S a b) (hB:B≤a.heap.size) (hS:∀ x∈S,B≤x):Below B a b :=
 ⟨h.os,h.tape,h.output,h.size,fun k hk=>h.block k (by omega) (fun hm=>by have:=hS k hm;omega)⟩
theorem Touch.set {S:List Nat} {g:Nat} {a b:World} (h:Touch S a b) (hg:g∈S) (i:Nat) (v:Value):Touch S a (b.setCell ⟨g,i,none⟩ v) :=
 h.trans ⟨rfl,rfl,rfl,by simp [World.setCell],fun k _ hn=>fO (by intro e;subst e;exact hn hg) v⟩
def fV (g:Nat) (t:TypeId) (n:Nat) (f:Nat→Value) (k:Nat) (w:World):Prop :=
 ∃ arr:Array Value,w.heap[g]?=some (.cells arr t (0,0))∧n≤arr.size∧∀ i,i<k→arr[i]?=some (f i)
theorem fV.step {g n k:Nat} {t:TypeId} {f:Nat→Value} {w:World} (h:fV g t n f k w) (hk:k<n):fV g t n f (k+1) (w.setCell ⟨g,k,none⟩ (f k)):=by
 obtain ⟨arr,hb,hn,hc⟩:=h
 refine ⟨_,gj hb _,by simpa using hn,fun i hi=>?_⟩
 by_cases e:i=k
 ·
  subst e
  rw [Array.getElem?_setIfInBounds_self_of_lt (by omega)]
 rw [Array.getElem?_setIfInBounds_ne (by omega)]
 exact hc i (by omega)
theorem fV.there {g n k:Nat} {t:TypeId} {f:Nat→Value} {w:World} (h:fV g t n f k w) (i:Nat) (hi:i<n):∃ v,w.cell? ⟨g,i,none⟩=some v:=by
 obtain ⟨arr,hb,hn,hc⟩:=h
 exact ⟨arr[i],by rw [fG hb];simp⟩
theorem fV.free {g n k:Nat} {t:TypeId} {f:Nat→Value} {w:World} (h:fV g t n f k w) (i:Nat):w.frozen? ⟨g,i,none⟩=false:=by
 obtain ⟨arr,hb,hn,hc⟩:=h
 exact fX hb i
theorem fV.at {g n:Nat} {t:TypeId} {f:Nat→Value} {w:World} (h:fV g t n f n w) (i:Nat) (hi:i<n):w.cell? ⟨g,i,none⟩=some (f i):=by
 obtain ⟨arr,hb,hn,hc⟩:=h
 rw [fG hb];exact hc i hi
theorem fV.ir {g n k:Nat} {t:TypeId} {f:Nat→Value} {w w':World} (h:fV g t n f k w) (hb:w'.heap[g]?=w.heap[g]?):fV g t n f k w':=by
 obtain ⟨arr,h1,h2,h3⟩:=h
 exact ⟨arr,hb.trans h1,h2,h3⟩
theorem fV.lt {g n k:Nat} {t:TypeId} {f:Nat→Value} {w:World} (h:fV g t n f k w):g<w.heap.size:=by
 obtain ⟨arr,h1,h2,h3⟩:=h
 exact fH h1
theorem fV.Bm {g n k:Nat} {t:TypeId} {f f':Nat→Value} {w:World} (h:fV g t n f k w):fV g t n f' 0 w:=by
 obtain ⟨arr,h1,h2,h3⟩:=h
 exact ⟨arr,h1,h2,fun i hi=>by omega⟩
structure Same (w w':World):Prop where
 os:w'.os=w.os
 tape:w'.tape=w.tape
 output:w'.output=w.output
 heap:w'.heap=w.heap
theorem Same.refl (w:World):Same w w:=⟨rfl,rfl,rfl,rfl⟩
theorem Same.drewN {a b:World} (h:Same a b) (n:Nat):Same a (b.drewN n):=⟨h.os,h.tape,h.output,h.heap⟩
theorem Same.cell {a b:World} (h:Same a b) (p:Addr):b.cell? p=a.cell? p:=by unfold World.cell?;rw [h.heap]
theorem Same.below {a b:World} (h:Same a b) (B:Nat):Below B a b:=⟨h.os,h.tape,h.output,by rw [h.heap];exact Nat.le_refl _,fun k _=>by rw [h.heap]⟩
def fY (w:World) (a:Option Addr) (n:Nat) (v:Nat→Value):Prop:=∀ i,i<n→∃ g o,a=some ⟨g,o,none⟩∧w.cell? ⟨g,o+i,none⟩=some (v i)
theorem fY.up {w w2:World} {a:Option Addr} {n:Nat} {v:Nat→Value} (h:fY w a n v) (hb:Below w.heap.size w w2):fY w2 a n v:=by
 intro i hi
 obtain ⟨g,o,ha,hc⟩:=h i hi
 exact ⟨g,o,ha,(hb.cell (p:=⟨g,o+i,none⟩) (iu hc)).trans hc⟩
theorem fY.iU {w w2:World} {S:List Nat} {a:Option Addr} {n:Nat} {v:Nat→Value} (h:fY w a n v) (hb:Touch S w w2) (hS:∀ b,a=some b→b.block∉S):fY w2 a n v:=by
 intro i hi
 obtain ⟨g,o,ha,hc⟩:=h i hi
 refine ⟨g,o,ha,?_⟩
 rw [World.cell?_of_block (w:=w) (a:=⟨g,o+i,none⟩) (hb.block g (iu hc) (hS _ ha))]
 exact hc
theorem fV.read {g n:Nat} {t:TypeId} {f:Nat→Value} {w:World} (h:fV g t n f n w):fY w (some ⟨g,0,none⟩) n f :=
 fun i hi=>⟨g,0,rfl,by rw [Nat.zero_add];exact h.at i hi⟩
theorem fY.nil (w:World) (a:Option Addr) (v:Nat→Value):fY w a 0 v:=fun i hi=>by omega
section
variable {P : Program} {ops : Array Oper} {Q : Exit → Act → World → Prop} {md : Region.Mode} {S : World → Prop}
theorem jZ {i:Nat} (d:Option Tmp) {oi:Oper} {v:Value} {fuel:Nat} {listed:Array Bool} {a:Act} {w:World} (hi:ops[i]?=some oi) (hd:oi.dst=d)
  (hs:Region.noSelect ops=true) (hf:Region.free md ops listed i=true) (hr:(Region.ready md ops listed).contains i=true)
  (hQ:∀ c a w,Q (.panic c) (a.put d v) w→Q (.panic c) a w) (hw:Region.wanted oi (yielded ops a.tmps)=true) (hy:∀ w,S w→(execOp a.eval oi).run P w=.ok (.value v) w) (hS:S w)
  (h:wpAnyH P md ops Q S fuel (listed.setIfInBounds i true) (a.put d v) w):wpAnyH P md ops Q S (fuel+1) listed a w:=by
 subst hd
 exact wpAnyH_take hi hs hf hr hQ (Or.inl ⟨hw,hy⟩) hS h
theorem CF {i:Nat} (d:Option Tmp) {oi:Oper} {fuel:Nat} {listed:Array Bool} {a:Act} {w:World} (hi:ops[i]?=some oi) (hd:oi.dst=d)
  (hs:Region.noSelect ops=true) (hf:Region.free md ops listed i=true) (hr:(Region.ready md ops listed).contains i=true)
  (hQ:∀ c a w,Q (.panic c) (a.put d undef) w→Q (.panic c) a w) (hw:Region.wanted oi (yielded ops a.tmps)=false) (hS:S w)
  (h:wpAnyH P md ops Q S fuel (listed.setIfInBounds i true) (a.put d undef) w):wpAnyH P md ops Q S (fuel+1) listed a w:=by
 subst hd
 exact wpAnyH_take hi hs hf hr hQ (Or.inr ⟨hw,rfl⟩) hS h
end
theorem uK {o:Oper} {a:Act} {K:Act→World→Prop} {Q:Exit→Act→World→Prop} {W W':World} {c:Prop} [Decidable c] {E:Prop} (hc:c) (s x:Operand) (t:TypeId) (vs vx v:Value)
  (ho:o.op=.call { callee:=.builtin .append,args:=#[s,x],argTypes:=#[t,t] }) (hty:o.type=t) (hs:a.eval s=vs) (hx:a.eval x=vx)
  (hr:(Builtin.append_ #[t,t] t #[vs,vx]).run Tryz.prog W=.ok v W') (h:K (a.put o.dst v) W'):if c then o.wp Tryz.prog a W K Q else E:=by
 rw [if_pos hc]
 unfold Oper.wp execOp
 simp only [ho,resolve,invoke,builtin,Sem.run_bind,Sem.run_pure,Result.andThen_ok,List.map_toArray,List.map_cons,List.map_nil,hs,hx,hty]
 simp only [hr,Result.andThen_ok]
 exact h
section
variable {P : Program} {ops : Array Oper} {Q : Exit → Act → World → Prop} {md : Region.Mode} {S : World → Prop}
theorem takeA {i:Nat} (d:Option Tmp) {oi:Oper} {v:Value} {fuel:Nat} {listed:Array Bool} {a:Act} {w:World} (hy:∀ w,S w→(execOp a.eval oi).run P w=.ok (.value v) w) (hS:S w)
  (h:wpAnyH P md ops Q S fuel (listed.setIfInBounds i true) (a.put d v) w) (hi:ops[i]?=some oi:=by rfl) (hd:oi.dst=d:=by rfl)
  (hs:Region.noSelect ops=true:=by kernel_rfl) (hf:Region.free md ops listed i=true:=by kernel_rfl) (hr:(Region.ready md ops listed).contains i=true:=by kernel_rfl)
  (hQ:∀ c a w,Q (.panic c) (a.put d v) w→Q (.panic c) a w:=by exact fun _ _ _ h=>h) (hw:Region.wanted oi (yielded ops a.tmps)=true:=by kernel_rfl):wpAnyH P md ops Q S (fuel+1) listed a w :=
 jZ d hi hd hs hf hr hQ hw hy hS h
end
theorem PZ {α:Type _}:(∀ (l:List α) (i:Nat) (a:α),l.toArray.setIfInBounds i a=(l.set i a).toArray)∧(∀ (x:α) (xs:List α) (a:α),(x :: xs).set 0 a=a :: xs) ∧
  (∀ (x:α) (xs:List α) (n:Nat) (a:α),(x :: xs).set (n+1) a=x :: xs.set n a) :=
 ⟨fun _ _ _=>List.setIfInBounds_toArray _ _ _,fun _ _ _=>List.set_cons_zero,fun _ _ _ _=>List.set_cons_succ⟩
section
variable {P : Program} {ops : Array Oper} {Q : Exit → Act → World → Prop} {md : Region.Mode} {S : World → Prop}
theorem tC (i d:Nat) {oi:Oper} {v:Value} {fuel:Nat} {listed:Array Bool} {a:Act} {w:World} (hy:∀ w,S w→(execOp a.eval oi).run P w=.ok (.value v) w)
  (h:wpAnyH P md ops Q S fuel (listed.setIfInBounds i true) (a.put (some d) v) w) (hi:ops[i]?=some oi:=by rfl) (hd:oi.dst=some d:=by rfl)
  (hs:Region.noSelect ops=true:=by kernel_rfl) (hf:Region.free md ops listed i=true:=by kernel_rfl) (hr:(Region.ready md ops listed).contains i=true:=by kernel_rfl)
  (hQ:∀ c a w,Q (.panic c) (a.put (some d) v) w→Q (.panic c) a w:=by exact fun _ _ _ h=>h) (hw:Region.wanted oi (yielded ops a.tmps)=true:=by kernel_rfl) (hS:S w:=by assumption) :
  wpAnyH P md ops Q S (fuel+1) listed a w :=
 jZ (some d) hi hd hs hf hr hQ hw hy hS h
theorem tP (i d:Nat) {oi:Oper} {v:Value} {fuel:Nat} {listed:Array Bool} {a a':Act} {w:World}
  (h:wpAnyH P md ops Q S fuel (listed.setIfInBounds i true) a' w) (hi:ops[i]?=some oi:=by rfl) (hd:oi.dst=some d:=by rfl)
  (hy:∀ w,S w→(execOp a.eval oi).run P w=.ok (.value v) w:=by intro wx hSw;go_simp;try (with_reducible rfl))
  (ha:a.put (some d) v=a':=by (try simp only [Act.put,PZ]);try exact rfl) (hs:Region.noSelect ops=true:=by kernel_rfl) (hf:Region.free md ops listed i=true:=by kernel_rfl) (hr:(Region.ready md ops listed).contains i=true:=by kernel_rfl)
  (hQ:∀ c a w,Q (.panic c) (a.put (some d) v) w→Q (.panic c) a w:=by exact fun _ _ _ h=>h) (hw:Region.wanted oi (yielded ops a.tmps)=true:=by kernel_rfl) (hS:S w:=by assumption) :
  wpAnyH P md ops Q S (fuel+1) listed a w :=
 jZ (some d) hi hd hs hf hr hQ hw hy hS (by rw [ha];exact h)
theorem sA (i d:Nat) {oi:Oper} {fuel:Nat} {listed:Array Bool} {a a':Act} {w:World}
  (h:wpAnyH P md ops Q S fuel (listed.setIfInBounds i true) a' w) (hi:ops[i]?=some oi:=by rfl) (hd:oi.dst=some d:=by rfl)
  (ha:a.put (some d) undef=a':=by (try simp only [Act.put,PZ]);try exact rfl) (hs:Region.noSelect ops=true:=by kernel_rfl) (hf:Region.free md ops listed i=true:=by kernel_rfl) (hr:(Region.ready md ops listed).contains i=true:=by kernel_rfl)
  (hQ:∀ c a w,Q (.panic c) (a.put (some d) undef) w→Q (.panic c) a w:=by exact fun _ _ _ h=>h) (hw:Region.wanted oi (yielded ops a.tmps)=false:=by kernel_rfl) (hS:S w:=by assumption) :
  wpAnyH P md ops Q S (fuel+1) listed a w :=
 CF (some d) hi hd hs hf hr hQ hw hS (by rw [ha];exact h)
end
section
variable {P : Program} {ops : Array Oper} {Q : Exit → Act → World → Prop} {md : Region.Mode} {S : World → Prop}
theorem rq1 (i:Nat) {o:Oper} {fuel:Nat} {l:Array Bool} {a:Act} {w:World}
  (h:∀ K':Act→World→Prop,Shut (∀ a w,S w→(S w→wpAnyH P md ops Q S fuel (l.setIfInBounds i true) a w)→K' a w)→if Region.wanted o (yielded ops a.tmps)=true then Oper.wp P o a w K' Q else K' (a.put o.dst undef) w)
  (ho:ops[i]?=some o:=by rfl) (hr:Region.ready md ops l=[i]:=by kernel_rfl):wpAnyH P md ops Q S (fuel+1) l a w :=
 wpAnyH_ready hr (List.cons_ne_nil _ _) (AllReadyH.cons ho h AllReadyH.nil)
theorem rq2 (i j:Nat) {o o2:Oper} {fuel:Nat} {l:Array Bool} {a:Act} {w:World}
  (h:∀ K':Act→World→Prop,Shut (∀ a w,S w→(S w→wpAnyH P md ops Q S fuel (l.setIfInBounds i true) a w)→K' a w)→if Region.wanted o (yielded ops a.tmps)=true then Oper.wp P o a w K' Q else K' (a.put o.dst undef) w)
  (h2:∀ K':Act→World→Prop,Shut (∀ a w,S w→(S w→wpAnyH P md ops Q S fuel (l.setIfInBounds j true) a w)→K' a w)→if Region.wanted o2 (yielded ops a.tmps)=true then Oper.wp P o2 a w K' Q else K' (a.put o2.dst undef) w)
  (ho:ops[i]?=some o:=by rfl) (ho2:ops[j]?=some o2:=by rfl) (hr:Region.ready md ops l=[i,j]:=by kernel_rfl):wpAnyH P md ops Q S (fuel+1) l a w :=
 wpAnyH_ready hr (List.cons_ne_nil _ _) (AllReadyH.cons ho h (AllReadyH.cons ho2 h2 AllReadyH.nil))
theorem dnq {fuel:Nat} {l:Array Bool} {a:Act} {w:World} (h:Q .normal a w) (hr:Region.ready md ops l=[]:=by kernel_rfl):wpAnyH P md ops Q S fuel l a w:=wpAnyH_done hr h fuel
theorem tM (i d:Nat) {oi:Oper} {v:Value} {fuel:Nat} {l:Array Bool} {a a':Act} {w:World}
  (h:wpAnyH P md ops Q S fuel (l.setIfInBounds i true) a' w) (hi:ops[i]?=some oi:=by rfl) (hd:oi.dst=some d:=by rfl)
  (hy:∀ w,S w→(execOp a.eval oi).run P w=.ok (.value v) w:=by intro wx hSw;(try dsimp only at hSw);go_simp;try (with_reducible rfl))
  (ha:a.put (some d) v=a':=by (try simp only [Act.put,PZ]);try exact rfl) (hs:Region.noSelect ops=true:=by kernel_rfl) (hf:Region.free md ops l i=true:=by kernel_rfl) (hr:(Region.ready md ops l).contains i=true:=by kernel_rfl)
  (hQ:∀ c a w,Q (.panic c) (a.put (some d) v) w→Q (.panic c) a w:=by exact fun _ _ _ h=>absurd h.1 (by simp)) (hw:Region.wanted oi (yielded ops a.tmps)=true:=by kernel_rfl) (hS:S w:=by assumption) :
  wpAnyH P md ops Q S (fuel+1) l a w :=
 jZ (some d) hi hd hs hf hr hQ hw hy hS (by rw [ha];exact h)
end
theorem nB (x:Int) (h0:-9223372036854775808≤x) (h1:x≤9223372036854775807):IntKind.i64.wrap x=x:=by
 rw [IntKind.wrap_i64];omega
structure Rnd where
 aQ:Option Addr
 nQ:Nat
 cQ:Nat
 q:Nat→Int
 aD:Option Addr
 nD:Nat
 cD:Nat
 d:Nat→Int
 turn:Int
 fresh:Bool
 aS:Option Addr
 nS:Nat
 cS:Nat
 A:Nat→Option Addr
 L:Nat→Nat
 C:Nat→Nat
 z:Nat→Nat→Int
def Rnd.cells (R:Rnd):Array Value:=#[.slice R.aQ R.nQ R.cQ,.slice R.aD R.nD R.cD,.int .i64 R.turn,.bool R.fresh,.slice R.aS R.nS R.cS]
structure iY (w:World) (R:Rnd):Prop where
 q:fY w R.aQ R.nQ fun i=>.int .i64 (R.q i)
 d:fY w R.aD R.nD fun i=>.int .i64 (R.d i)
 s:fY w R.aS R.nS fun i=>.slice (R.A i) (R.L i) (R.C i)
 z:∀ i,i<R.nS→fY w (R.A i) (R.L i) fun j=>.int .i64 (R.z i j)
theorem iY.up {w w2:World} {R:Rnd} (h:iY w R) (hb:Below w.heap.size w w2):iY w2 R :=
 ⟨h.q.up hb,h.d.up hb,h.s.up hb,fun i hi=>(h.z i hi).up hb⟩
structure Rnd.Fit (R:Rnd):Prop where
 q:R.nQ≤maxLen
 d:R.nD≤maxLen
 s:R.nS≤maxLen
 l:∀ i,i<R.nS→R.L i≤maxLen
def kO (n:Nat) (z:Nat→Int):Prop:=n≤1000∧∀ j,j<n→1≤z j∧z j≤5
def n7 (q d:Int) (n:Nat) (begun:Bool):Prop:=if n=0 then d=0 else 0≤d∧d<5+(if begun then q else 0)
def qc (q d:Int) (n:Nat) (z:Nat→Int) (begun:Bool):Prop:=(1≤q∧q≤10)∧kO n z∧n7 q d n begun
def Rnd.begun (R:Rnd) (i:Nat):Bool:=decide ((i:Int)=R.turn) && !R.fresh
structure Rnd.Ok (R:Rnd):Prop where
 n:1≤R.nQ∧R.nQ≤4
 d:R.nD=R.nQ
 s:R.nS=R.nQ
 t:0≤R.turn∧R.turn<R.nQ
 c:∀ i,i<R.nQ→qc (R.q i) (R.d i) (R.L i) (R.z i) (R.begun i)
open Classical in
theorem vq (p:Prop):∃ ok:Bool,ok=true↔p:=⟨decide p,by simp⟩
theorem xL (n:Int) (w:World) :
  Calls Tryz.prog 162 #[.int .i64 n] w fun e w'=>e=.returned (.bool (decide (1≤n∧n≤5)))∧w'=w:=by
 by_cases h1:1≤n
 ·
  go_enter Tryz.func162,Tryz.ntmps162
  go_wp2
  go_ret
  exact ⟨by simp [h1],rfl⟩
 go_enter Tryz.func162,Tryz.ntmps162
 go_wp2
 go_ret
 exact ⟨by simp;omega,rfl⟩
theorem u6 (a:Option Addr) (n cap:Nat) (z:Nat→Int) (w:World) (hn:n≤maxLen) (h:fY w a n fun j=>.int .i64 (z j)) (ok:Bool) (hok:ok=true↔kO n z) :
  Calls Tryz.prog 157 #[.slice a n cap] w fun e w'=>e=.returned (.bool ok)∧Same w w':=by
 have HO:Hid (ok=true↔kO n z):=hok
 have HR:Hid (fY w a n fun j=>.int .i64 (z j)):=h
 have hm:(n:Int)≤9223372036854775807:=by unfold maxLen at hn;omega
 clear h hok
 by_cases h8:1000<n
 ·
  have h8':(1000:Int)<n:=by omega
  have HF:Hid (ok=false):=by
   show ok=false
   rw [Bool.eq_false_iff]
   intro e
   have:=(HO.out.1 e).1
   omega
  go_enter Tryz.func157,Tryz.ntmps157
  go_wp2_with fail
  go_ret
  exact ⟨fQ HF.out.symm,Same.refl _⟩
 have h8':¬ (1000:Int)<n:=by omega
 go_enter Tryz.func157,Tryz.ntmps157
 go_wp2_with fail
 go_loopw [10] (fun i wr=>∃ k:Nat,k≤n∧i=.int .i64 k∧(∀ j,j<k→1≤z j∧z j≤5)∧Same w wr) (fun i _=>n-(intOf i).toNat)
 case atStart=>exact ⟨0,Nat.zero_le _,rfl,fun i hi=>by omega,Same.refl _⟩
 obtain ⟨k,hk,rfl,hall,hS⟩:=hrel
 have HA:Hid (∀ j,j<k→1≤z j∧z j≤5):=hall
 clear hall
 by_cases hlt:k<n
 ·
  have hlt':(k:Int)<n:=by omega
  obtain ⟨g,o,rfl,c0⟩:=HR.out k hlt
  have c1:=(hS.cell ⟨g,o+k,none⟩).trans c0
  dsimp only at c1
  clear c0
  go_wp2_with fail
  refine (xL _ _).mono ?_
  rintro e w' ⟨rfl,rfl⟩
  by_cases hz:1≤z k∧z k≤5
  ·
   have HZ:Hid (1≤z k∧z k≤5):=hz
   rw [decide_eq_true hz]
   clear hz
   go_wp2_with fail
   go_roundw
   case rel=>exact ⟨k+1,by omega,by go_num,fun j hj=>by
    by_cases e:j=k
    ·
     subst e;exact HZ.out
    ·
     exact HA.out j (by omega),hS⟩
   case measure=>simp [intOf];omega
  have HF:Hid (ok=false):=by
   show ok=false
   rw [Bool.eq_false_iff]
   intro e
   exact hz ((HO.out.1 e).2 k hlt)
  rw [decide_eq_false hz]
  clear hz
  go_wp2_with fail
  go_ret
  exact ⟨fQ HF.out.symm,hS⟩
 obtain rfl:k=n:=by omega
 have HT:Hid (ok=true):=HO.out.2 ⟨by omega,HA.out⟩
 go_wp2_with fail
 go_ret
 exact ⟨fQ HT.out.symm,hS⟩
theorem sd (q d:Int) (a:Option Addr) (n cap:Nat) (b:Bool) (w:World) (hn:n≤maxLen) (h1:1≤q) (h2:q≤10) (ok:Bool) (hok:ok=true↔n7 q d n b) :
  Calls Tryz.prog 158 #[.agg #[.int .i64 q,.int .i64 d,.slice a n cap],.bool b] w fun e w'=>e=.returned (.bool ok)∧Below w.heap.size w w':=by
 have hm:(n:Int)≤9223372036854775807:=by unfold maxLen at hn;omega
 have HA:Hid (∀ ob,Below w.heap.size w (w.alloc ob)):=fun ob=>(Below.refl _ _).alloc (Nat.le_refl _) _
 have hw:IntKind.i64.wrap (5+q)=5+q:=nB _ (by omega) (by omega)
 by_cases h0:n=0
 ·
  subst h0
  have HE:Hid (decide (d=0)=ok):=by
   rw [Hid,Bool.eq_iff_iff,hok];simp [n7]
  clear hok
  go_enter Tryz.func158,Tryz.ntmps158
  go_wp2_with fail
  go_ret
  exact ⟨fQ (by rw [←HE.out];rfl),HA.out _⟩
 have h0':((n:Int) == 0)=false:=by simp;omega
 cases b
 ·
  by_cases hd:0≤d
  ·
   have HE:Hid (decide (d<5)=ok):=ab
   exact aa
  have HE:Hid (false=ok):=ab
  exact aa
 by_cases hd:0≤d
 ·
  have HE:Hid (decide (d<5+q)=ok):=ab
  exact aa
 have HE:Hid (false=ok):=ab
 exact aa
theorem rJ:(Tryz.prog.info? 2).map (fun i=>(i.zero,i.size,i.bytes))=some (some (.int .i64 0),1,8):=by kernel_rfl
def jL (n:Nat):Array Value:=madeCells #[.int .i64 0] n
theorem vF (v:Value) (n i:Nat) (h:i<n):(madeCells #[v] n)[i]?=some v:=by
 unfold madeCells
 simp [h]
 rw [Nat.mod_one];rfl
theorem nh (n:Nat) (hn:n≤1048576) (w:World):(Instr.makeSlice 25 (.int .i64 (n:Int)) (.int .i64 (n:Int))).run Tryz.prog w=.ok (.slice (some ⟨w.heap.size,0,none⟩) n n) (w.alloc (.cells (jL n) 2)):=by
 obtain ⟨i0,hi,hz0,hz1,hz2⟩:=info_parts rJ
 have:=run_make (P:=Tryz.prog) w 25 2 i0 (.int .i64 0) Tryz.underlying25 hi hz0 .i64 .i64 (n:Int) (n:Int) (by omega) (by omega) (by rw [hz2];omega) (by omega)
 rw [this,hz1]
 simp [jL,Value.cells]
theorem m9 {w:World} {g n:Nat} (h:w.heap[g]?=some (.cells (jL n) 2 (0,0))):fV g 2 n (fun _=>.int .i64 0) n w :=
 ⟨_,h,by simp [jL,size_madeCells],fun i hi=>vF _ n i hi⟩
theorem kM (a:Option Addr) (n cap:Nat) (f:Nat→Int) (w:World) (hn:n≤1048576) (h:fY w a n fun i=>.int .i64 (f i)) :
  Calls Tryz.prog 61 #[.slice a n cap] w fun e w'=>e=.returned (.slice (some ⟨w.heap.size,0,none⟩) n n)∧fV w.heap.size 2 n (fun i=>.int .i64 (f i)) n w'∧Below w.heap.size w w':=by
 have mk:=nh n hn
 go_enter Tryz.func61,Tryz.ntmps61
 go_wp2_with fail
 clear mk
 go_loopw [4] (fun i wr=>∃ k:Nat,k≤n∧i=.int .i64 k∧fV w.heap.size 2 n (fun i=>.int .i64 (f i)) k wr∧Below w.heap.size w wr) (fun i _=>n-(intOf i).toNat)
 case atStart=>exact ⟨0,Nat.zero_le _,rfl,(m9 (fL w _)).Bm,(Below.refl _ _).alloc (Nat.le_refl _) _⟩
 obtain ⟨k,hk,rfl,hR,hB⟩:=hrel
 by_cases hlt:k<n
 ·
  have hlt':(k:Int)<n:=by omega
  obtain ⟨g,o,rfl,hc⟩:=h k hlt
  have p1:=(hB.cell (p:=⟨g,o+k,none⟩) (iu hc)).trans hc
  dsimp only at p1
  obtain ⟨v0,hv0⟩:=hR.there k hlt
  have hf:=hR.free k
  clear h hc
  go_wp2_with fail
  go_roundw
  case rel=>exact ⟨k+1,by omega,by go_num,hR.step hlt,hB.setCell (Nat.le_refl _) _⟩
  case measure=>simp [intOf];omega
 obtain rfl:k=n:=by omega
 clear h
 go_wp2_with fail
 go_ret
 exact ⟨rfl,hR,hB⟩
theorem tl (g n cap m:Nat) (f:Nat→Value) (w:World) (h:fV g 2 n f n w) (hn:n≤1048576) (hm:m≤100000000) :
  Calls Tryz.prog 85 #[.slice (some ⟨g,0,none⟩) n cap,.int .i64 m] w fun e w'=>e=.returned (.int .i64 (m+n:Nat))∧fV g 2 n (fun i=>.int .i64 (m+i:Nat)) n w'∧Touch [g] w w':=by
 go_enter Tryz.func85,Tryz.ntmps85
 go_wp2_with fail
 go_loopw [1,5] (fun x i wr=>∃ k:Nat,k≤n∧i=.int .i64 k∧x=.int .i64 (m+k:Nat)∧fV g 2 n (fun i=>.int .i64 (m+i:Nat)) k wr∧Touch [g] w wr) (fun _ i _=>n-(intOf i).toNat)
 case atStart=>exact ⟨0,Nat.zero_le _,rfl,rfl,h.Bm,Touch.refl _ _⟩
 obtain ⟨k,hk,rfl,rfl,hR,hT⟩:=hrel
 by_cases hlt:k<n
 ·
  obtain ⟨v,hv⟩:=hR.there k hlt
  have hf:=hR.free k
  have hlt':(k:Int)<n:=by omega
  go_wp2_with fail
  go_roundw
  case rel=>exact ⟨k+1,by omega,by go_num,by go_num,hR.step hlt,hT.set (by simp) k _⟩
  case measure=>simp [intOf];omega
 obtain rfl:k=n:=by omega
 go_wp2_with fail
 go_ret
 exact ⟨rfl,hR,hT⟩
theorem uh (g n cap m:Nat) (w:World) (h:fV g 2 n (fun i=>.int .i64 (m+i:Nat)) n w) (hn:n≤1048576) (hm:m≤100000000) :
  Calls Tryz.prog 88 #[.slice (some ⟨g,0,none⟩) n cap,.int .i64 m] w fun e w'=>e=.returned (.int .i64 (m+n:Nat))∧w=w':=by
 go_enter Tryz.func88,Tryz.ntmps88
 go_wp2_with fail
 go_loop [1,5] (fun x i=>∃ k:Nat,k≤n∧i=.int .i64 k∧x=.int .i64 (m+k:Nat)) (fun _ i=>n-(intOf i).toNat)
 case atStart=>exact ⟨0,Nat.zero_le _,rfl,rfl⟩
 obtain ⟨k,hk,rfl,rfl⟩:=hrel
 by_cases hlt:k<n
 ·
  have hc:=h.at k hlt
  have hlt':(k:Int)<n:=by omega
  go_wp2_with fail
  go_round
  case rel=>exact ⟨k+1,by omega,by go_num,by go_num⟩
  case measure=>simp [intOf];omega
 obtain rfl:k=n:=by omega
 go_wp2_with fail
 go_ret
 exact ⟨rfl,rfl⟩
theorem k9 (a1 a2:Option Addr) (n c1 c2:Nat) (f:Nat→Int) (w:World) (hn:n≤1048576) (h1:∀ i,i<n→∃ g o,a1=some ⟨g,o,none⟩∧w.cell? ⟨g,o+i,none⟩=some (.int .i64 (f i))) (h2:∀ i,i<n→∃ g o,a2=some ⟨g,o,none⟩∧w.cell? ⟨g,o+i,none⟩=some (.int .i64 (f i))) :
  Calls Tryz.prog 81 #[.slice a1 n c1,.slice a2 n c2] w fun e w'=>e=.returned (.bool true)∧Same w w':=by
 go_enter Tryz.func81,Tryz.ntmps81
 go_wp2_with fail
 go_loopw [5] (fun i wr=>∃ k:Nat,k≤n∧i=.int .i64 k∧Same w wr) (fun i _=>n-(intOf i).toNat)
 case atStart=>exact ⟨0,Nat.zero_le _,rfl,Same.refl _⟩
 obtain ⟨k,hk,rfl,hS⟩:=hrel
 by_cases hlt:k<n
 ·
  obtain ⟨g1,o1,rfl,e1⟩:=h1 k hlt
  obtain ⟨g2,o2,rfl,e2⟩:=h2 k hlt
  rw [←hS.cell] at e1 e2
  clear h1 h2
  have hlt':(k:Int)<n:=by omega
  go_wp2_with fail
  go_quiet (fail)
  go_wp2_with fail
  go_roundw
  case rel=>exact ⟨k+1,by omega,by go_num,hS.drewN _⟩
  case measure=>simp [intOf];omega
 obtain rfl:k=n:=by omega
 go_wp2_with fail
 go_ret
 exact ⟨rfl,hS⟩
section
variable {P : Program} {ops : Array Oper} {Q : Exit → Act → World → Prop} {md : Region.Mode} {S : World → Prop}
theorem t0 {d:Nat} {oi:Oper} {v:Value} {fuel:Nat} {l:Array Bool} {a a':Act} {w:World}
  (h:wpAnyH P md ops Q S fuel ((l).setIfInBounds 0 true) a' w) (hi:ops[0]?=some oi:=by rfl) (hd:oi.dst=some d:=by rfl)
  (hy:∀ w,S w→(execOp a.eval oi).run P w=.ok (.value v) w:=by intro wx hSw;(repeat (have hL:=And.left hSw;replace hSw:=And.right hSw));go_simp;try (with_reducible rfl))
  (ha:a.put (some d) v=a':=by (try simp only [Act.put,PZ]);try exact rfl) (hs:Region.noSelect ops=true:=by kernel_rfl) (hf:Region.free md ops (l) 0=true:=by kernel_rfl) (hr:(Region.ready md ops (l)).contains 0=true:=by kernel_rfl)
  (hQ:∀ c a w,Q (.panic c) (a.put (some d) v) w→Q (.panic c) a w:=by exact fun _ _ _ h=>h) (hw:Region.wanted oi (yielded ops a.tmps)=true:=by kernel_rfl) (hS:S w:=by assumption) :
  wpAnyH P md ops Q S (fuel+1) (l) a w :=
 jZ (some d) hi hd hs hf hr hQ hw hy hS (by rw [ha];exact h)
theorem tN {i d:Nat} {oi:Oper} {v:Value} {fuel:Nat} {l:Array Bool} {a a':Act} {w:World}
  (h:wpAnyH P md ops Q S fuel ((l.setIfInBounds i true).setIfInBounds (i+1) true) a' w) (hi:ops[(i+1)]?=some oi:=by rfl) (hd:oi.dst=some d:=by rfl)
  (hy:∀ w,S w→(execOp a.eval oi).run P w=.ok (.value v) w:=by intro wx hSw;(repeat (have hL:=And.left hSw;replace hSw:=And.right hSw));go_simp;try (with_reducible rfl))
  (ha:a.put (some d) v=a':=by (try simp only [Act.put,PZ]);try exact rfl) (hs:Region.noSelect ops=true:=by kernel_rfl) (hf:Region.free md ops (l.setIfInBounds i true) (i+1)=true:=by kernel_rfl) (hr:(Region.ready md ops (l.setIfInBounds i true)).contains (i+1)=true:=by kernel_rfl)
  (hQ:∀ c a w,Q (.panic c) (a.put (some d) v) w→Q (.panic c) a w:=by exact fun _ _ _ h=>h) (hw:Region.wanted oi (yielded ops a.tmps)=true:=by kernel_rfl) (hS:S w:=by assumption) :
  wpAnyH P md ops Q S (fuel+1) (l.setIfInBounds i true) a w :=
 jZ (some d) hi hd hs hf hr hQ hw hy hS (by rw [ha];exact h)
theorem sN {i d:Nat} {oi:Oper} {fuel:Nat} {l:Array Bool} {a a':Act} {w:World}
  (h:wpAnyH P md ops Q S fuel ((l.setIfInBounds i true).setIfInBounds (i+1) true) a' w) (hi:ops[(i+1)]?=some oi:=by rfl) (hd:oi.dst=some d:=by rfl)
  (ha:a.put (some d) undef=a':=by (try simp only [Act.put,PZ]);try exact rfl) (hs:Region.noSelect ops=true:=by kernel_rfl) (hf:Region.free md ops (l.setIfInBounds i true) (i+1)=true:=by kernel_rfl) (hr:(Region.ready md ops (l.setIfInBounds i true)).contains (i+1)=true:=by kernel_rfl)
  (hQ:∀ c a w,Q (.panic c) (a.put (some d) undef) w→Q (.panic c) a w:=by exact fun _ _ _ h=>h) (hw:Region.wanted oi (yielded ops a.tmps)=false:=by kernel_rfl) (hS:S w:=by assumption) :
  wpAnyH P md ops Q S (fuel+1) (l.setIfInBounds i true) a w :=
 CF (some d) hi hd hs hf hr hQ hw hS (by rw [ha];exact h)
theorem tT {i d:Nat} {oi:Oper} {fuel:Nat} {l:Array Bool} {a a':Act} {w:World}
  (h:wpAnyH P md ops Q S fuel ((l.setIfInBounds i true).setIfInBounds (i+1) true) a' w) (hi:ops[(i+1)]?=some oi:=by rfl) (hd:oi.dst=some d:=by rfl)
  (hy:∀ w,S w→(execOp a.eval oi).run P w=.ok (.value (.bool true)) w:=by intro wx hSw;(repeat (have hL:=And.left hSw;replace hSw:=And.right hSw));go_simp;try (first | (with_reducible rfl) | omega | (simp;done) | (simp;omega)))
  (ha:a.put (some d) (.bool true)=a':=by (try simp only [Act.put,PZ]);try exact rfl) (hs:Region.noSelect ops=true:=by kernel_rfl) (hf:Region.free md ops (l.setIfInBounds i true) (i+1)=true:=by kernel_rfl) (hr:(Region.ready md ops (l.setIfInBounds i true)).contains (i+1)=true:=by kernel_rfl)
  (hQ:∀ c a w,Q (.panic c) (a.put (some d) (.bool true)) w→Q (.panic c) a w:=by exact fun _ _ _ h=>h) (hw:Region.wanted oi (yielded ops a.tmps)=true:=by kernel_rfl) (hS:S w:=by assumption) :
  wpAnyH P md ops Q S (fuel+1) (l.setIfInBounds i true) a w :=
 jZ (some d) hi hd hs hf hr hQ hw hy hS (by rw [ha];exact h)
theorem tF {i d:Nat} {oi:Oper} {fuel:Nat} {l:Array Bool} {a a':Act} {w:World}
  (h:wpAnyH P md ops Q S fuel ((l.setIfInBounds i true).setIfInBounds (i+1) true) a' w) (hi:ops[(i+1)]?=some oi:=by rfl) (hd:oi.dst=some d:=by rfl)
  (hy:∀ w,S w→(execOp a.eval oi).run P w=.ok (.value (.bool false)) w:=by intro wx hSw;(repeat (have hL:=And.left hSw;replace hSw:=And.right hSw));go_simp;try (first | (with_reducible rfl) | omega | (simp;done) | (simp;omega)))
  (ha:a.put (some d) (.bool false)=a':=by (try simp only [Act.put,PZ]);try exact rfl) (hs:Region.noSelect ops=true:=by kernel_rfl) (hf:Region.free md ops (l.setIfInBounds i true) (i+1)=true:=by kernel_rfl) (hr:(Region.ready md ops (l.setIfInBounds i true)).contains (i+1)=true:=by kernel_rfl)
  (hQ:∀ c a w,Q (.panic c) (a.put (some d) (.bool false)) w→Q (.panic c) a w:=by exact fun _ _ _ h=>h) (hw:Region.wanted oi (yielded ops a.tmps)=true:=by kernel_rfl) (hS:S w:=by assumption) :
  wpAnyH P md ops Q S (fuel+1) (l.setIfInBounds i true) a w :=
 jZ (some d) hi hd hs hf hr hQ hw hy hS (by rw [ha];exact h)
theorem tX {i d:Nat} {oi:Oper} {v:Value} {fuel:Nat} {l:Array Bool} {a a':Act} {w:World}
  (h:wpAnyH P md ops Q S fuel ((l.setIfInBounds i true).setIfInBounds (i+1) true) a' w) (hi:ops[(i+1)]?=some oi:=by rfl) (hd:oi.dst=some d:=by rfl)
  (hy:∀ w,S w→(execOp a.eval oi).run P w=.ok (.value v) w:=by intro wx hSw;have hCw:=Hcs.out wx hSw;(repeat (have hL:=And.left hSw;replace hSw:=And.right hSw));(repeat (have hL:=And.left hCw;replace hCw:=And.right hCw));go_simp;try (with_reducible rfl))
  (ha:a.put (some d) v=a':=by (try simp only [Act.put,PZ]);try exact rfl) (hs:Region.noSelect ops=true:=by kernel_rfl) (hf:Region.free md ops (l.setIfInBounds i true) (i+1)=true:=by kernel_rfl) (hr:(Region.ready md ops (l.setIfInBounds i true)).contains (i+1)=true:=by kernel_rfl)
  (hQ:∀ c a w,Q (.panic c) (a.put (some d) v) w→Q (.panic c) a w:=by exact fun _ _ _ h=>h) (hw:Region.wanted oi (yielded ops a.tmps)=true:=by kernel_rfl) (hS:S w:=by assumption) :
  wpAnyH P md ops Q S (fuel+1) (l.setIfInBounds i true) a w :=
 jZ (some d) hi hd hs hf hr hQ hw hy hS (by rw [ha];exact h)
theorem tX0 {d:Nat} {oi:Oper} {v:Value} {fuel:Nat} {l:Array Bool} {a a':Act} {w:World}
  (h:wpAnyH P md ops Q S fuel ((l).setIfInBounds 0 true) a' w) (hi:ops[0]?=some oi:=by rfl) (hd:oi.dst=some d:=by rfl)
  (hy:∀ w,S w→(execOp a.eval oi).run P w=.ok (.value v) w:=by intro wx hSw;have hCw:=Hcs.out wx hSw;(repeat (have hL:=And.left hSw;replace hSw:=And.right hSw));(repeat (have hL:=And.left hCw;replace hCw:=And.right hCw));go_simp;try (with_reducible rfl))
  (ha:a.put (some d) v=a':=by (try simp only [Act.put,PZ]);try exact rfl) (hs:Region.noSelect ops=true:=by kernel_rfl) (hf:Region.free md ops (l) 0=true:=by kernel_rfl) (hr:(Region.ready md ops (l)).contains 0=true:=by kernel_rfl)
  (hQ:∀ c a w,Q (.panic c) (a.put (some d) v) w→Q (.panic c) a w:=by exact fun _ _ _ h=>h) (hw:Region.wanted oi (yielded ops a.tmps)=true:=by kernel_rfl) (hS:S w:=by assumption) :
  wpAnyH P md ops Q S (fuel+1) (l) a w :=
 jZ (some d) hi hd hs hf hr hQ hw hy hS (by rw [ha];exact h)
theorem tY {i d:Nat} {oi:Oper} {v:Value} {fuel:Nat} {l:Array Bool} {a a':Act} {w:World}
  (h:wpAnyH P md ops Q S fuel ((l.setIfInBounds i true).setIfInBounds (i+1) true) a' w) (hi:ops[(i+1)]?=some oi:=by rfl) (hd:oi.dst=some d:=by rfl)
  (hy:∀ w,S w→(execOp a.eval oi).run P w=.ok (.value v) w:=by intro wx hSw;have hCw:=Hcs.out wx hSw;clear hSw;(repeat (have hL:=And.left hCw;replace hCw:=And.right hCw));go_simp;try (with_reducible rfl))
  (ha:a.put (some d) v=a':=by (try simp only [Act.put,PZ]);try exact rfl) (hs:Region.noSelect ops=true:=by kernel_rfl) (hf:Region.free md ops (l.setIfInBounds i true) (i+1)=true:=by kernel_rfl) (hr:(Region.ready md ops (l.setIfInBounds i true)).contains (i+1)=true:=by kernel_rfl)
  (hQ:∀ c a w,Q (.panic c) (a.put (some d) v) w→Q (.panic c) a w:=by exact fun _ _ _ h=>h) (hw:Region.wanted oi (yielded ops a.tmps)=true:=by kernel_rfl) (hS:S w:=by assumption) :
  wpAnyH P md ops Q S (fuel+1) (l.setIfInBounds i true) a w :=
 jZ (some d) hi hd hs hf hr hQ hw hy hS (by rw [ha];exact h)
theorem tQ (i d:Nat) {oi:Oper} {v:Value} {fuel:Nat} {l:Array Bool} {a a':Act} {w:World}
  (h:wpAnyH P md ops Q S fuel (l.setIfInBounds i true) a' w) (hi:ops[i]?=some oi:=by rfl) (hd:oi.dst=some d:=by rfl)
  (hy:∀ w,S w→(execOp a.eval oi).run P w=.ok (.value v) w:=by intro wx hSw;(repeat (have hL:=And.left hSw;replace hSw:=And.right hSw));go_simp;try (with_reducible rfl))
  (ha:a.put (some d) v=a':=by (try simp only [Act.put,PZ]);try exact rfl) (hs:Region.noSelect ops=true:=by kernel_rfl) (hf:Region.free md ops l i=true:=by kernel_rfl) (hr:(Region.ready md ops l).contains i=true:=by kernel_rfl)
  (hQ:∀ c a w,Q (.panic c) (a.put (some d) v) w→Q (.panic c) a w:=by exact fun _ _ _ h=>h) (hw:Region.wanted oi (yielded ops a.tmps)=true:=by kernel_rfl) (hS:S w:=by assumption) :
  wpAnyH P md ops Q S (fuel+1) l a w :=
 jZ (some d) hi hd hs hf hr hQ hw hy hS (by rw [ha];exact h)
theorem tXq (i d:Nat) {oi:Oper} {v:Value} {fuel:Nat} {l:Array Bool} {a a':Act} {w:World}
  (h:wpAnyH P md ops Q S fuel (l.setIfInBounds i true) a' w) (hi:ops[i]?=some oi:=by rfl) (hd:oi.dst=some d:=by rfl)
  (hy:∀ w,S w→(execOp a.eval oi).run P w=.ok (.value v) w:=by intro wx hSw;have hCw:=Hcs.out wx hSw;(repeat (have hL:=And.left hSw;replace hSw:=And.right hSw));(repeat (have hL:=And.left hCw;replace hCw:=And.right hCw));go_simp;try (with_reducible rfl))
  (ha:a.put (some d) v=a':=by (try simp only [Act.put,PZ]);try exact rfl) (hs:Region.noSelect ops=true:=by kernel_rfl) (hf:Region.free md ops l i=true:=by kernel_rfl) (hr:(Region.ready md ops l).contains i=true:=by kernel_rfl)
  (hQ:∀ c a w,Q (.panic c) (a.put (some d) v) w→Q (.panic c) a w:=by exact fun _ _ _ h=>h) (hw:Region.wanted oi (yielded ops a.tmps)=true:=by kernel_rfl) (hS:S w:=by assumption) :
  wpAnyH P md ops Q S (fuel+1) l a w :=
 jZ (some d) hi hd hs hf hr hQ hw hy hS (by rw [ha];exact h)
end
structure Rnd.Small (R:Rnd):Prop where
 q:R.nQ≤1048576
 d:R.nD≤1048576
 s:R.nS≤1048576
 l:∀ i,i<R.nS→R.L i≤1048576
theorem ub:(Tryz.prog.info? 25).map (fun i=>(i.zero,i.size,i.bytes))=some (some (.slice none 0 0),1,24):=by kernel_rfl
def yn (n:Nat):Array Value:=madeCells #[.slice none 0 0] n
theorem wO (n:Nat) (hn:n≤1048576) (w:World):(Instr.makeSlice 87 (.int .i64 (n:Int)) (.int .i64 (n:Int))).run Tryz.prog w=.ok (.slice (some ⟨w.heap.size,0,none⟩) n n) (w.alloc (.cells (yn n) 25)):=by
 obtain ⟨i0,hi,hz0,hz1,hz2⟩:=info_parts ub
 have:=run_make (P:=Tryz.prog) w 87 25 i0 (.slice none 0 0) Tryz.underlying87 hi hz0 .i64 .i64 (n:Int) (n:Int) (by omega) (by omega) (by rw [hz2];omega) (by omega)
 rw [this,hz1]
 simp [yn,Value.cells]
theorem wA {w:World} {g n:Nat} (h:w.heap[g]?=some (.cells (yn n) 25 (0,0))):fV g 25 n (fun _=>.slice none 0 0) n w :=
 ⟨_,h,by simp [yn,size_madeCells],fun i hi=>vF _ n i hi⟩
theorem fV.ext {g n k:Nat} {t:TypeId} {f f':Nat→Value} {w:World} (h:fV g t n f k w) (e:∀ i,i<k→f i=f' i):fV g t n f' k w:=by
 obtain ⟨arr,h1,h2,h3⟩:=h
 exact ⟨arr,h1,h2,fun i hi=>by rw [←e i hi];exact h3 i hi⟩
structure qg (w:World) (lo g n k:Nat) (G:Nat→Nat) (L:Nat→Nat) (z:Nat→Nat→Int):Prop where
 top:fV g 25 n (fun i=>.slice (some ⟨G i,0,none⟩) (L i) (L i)) k w
 low:∀ i,i<k→lo<G i
 row:∀ i,i<k→fV (G i) 2 (L i) (fun j=>.int .i64 (z i j)) (L i) w
 inc:∀ i j,i<j→j<k→G i<G j
theorem qg.ir {w w':World} {lo g n k:Nat} {G:Nat→Nat} {L:Nat→Nat} {z:Nat→Nat→Int} (h:qg w lo g n k G L z) (hb:Below w.heap.size w w'):qg w' lo g n k G L z :=
 ⟨h.top.ir (hb.block _ h.top.lt),h.low,fun i hi=>(h.row i hi).ir (hb.block _ (h.row i hi).lt),h.inc⟩
theorem qg.step {w w1:World} {lo g n k:Nat} {G:Nat→Nat} {L:Nat→Nat} {z:Nat→Nat→Int} (h:qg w lo g n k G L z) (hk:k<n) (hlo:lo<w.heap.size) (hg:g≤lo) (hb:Below w.heap.size w w1) (hr:fV w.heap.size 2 (L k) (fun j=>.int .i64 (z k j)) (L k) w1) :
  qg (w1.setCell ⟨g,k,none⟩ (.slice (some ⟨w.heap.size,0,none⟩) (L k) (L k))) lo g n (k+1) (fun i=>if i=k then w.heap.size else G i) L z:=by
 have h1:=h.ir hb
 have hgl:∀ i,i<k→G i<w.heap.size:=fun i hi=>(h.row i hi).lt
 refine ⟨?_,fun i hi=>?_,fun i hi=>?_,fun i j hij hj=>?_⟩
 ·
  have e:fV g 25 n (fun i=>.slice (some ⟨if i=k then w.heap.size else G i,0,none⟩) (L i) (L i)) k w1:=h1.top.ext (fun i hi=>by rw [if_neg (by omega)])
  have s:=e.step hk
  simp only [if_true] at s
  exact s
 ·
  by_cases e:i=k
  ·
   simp only [e,if_true];exact hlo
  simp only [if_neg e];exact h.low i (by omega)
 ·
  by_cases e:i=k
  ·
   subst e
   simp only [if_true]
   exact hr.ir (fO (by omega) _)
  simp only [if_neg e]
  have:=h.low i (by omega)
  exact (h1.row i (by omega)).ir (fO (by omega) _)
 by_cases e:j=k
 ·
  have e2:¬ i=k:=by omega
  simp only [e,if_true,if_neg e2]
  exact hgl i (by omega)
 have e2:¬ i=k:=by omega
 simp only [if_neg e,if_neg e2]
 exact h.inc i j hij (by omega)
theorem pg (a:Option Addr) (n cap:Nat) (A:Nat→Option Addr) (L C:Nat→Nat) (z:Nat→Nat→Int) (w:World) (hn:n≤1048576) (h:fY w a n fun i=>.slice (A i) (L i) (C i)) (hz:∀ i,i<n→fY w (A i) (L i) fun j=>.int .i64 (z i j)) (hl:∀ i,i<n→L i≤1048576) :
  Calls Tryz.prog 102 #[.slice a n cap] w fun e w'=>∃ G,e=.returned (.slice (some ⟨w.heap.size,0,none⟩) n n)∧qg w' w.heap.size w.heap.size n n G L z∧Below w.heap.size w w':=by
 have HR:Hid (fY w a n fun i=>.slice (A i) (L i) (C i)):=h
 have HZ:Hid (∀ i,i<n→fY w (A i) (L i) fun j=>.int .i64 (z i j)):=hz
 have HL:Hid (∀ i,i<n→L i≤1048576):=hl
 have mk:=wO n hn
 clear h hz hl
 go_enter Tryz.func102,Tryz.ntmps102
 go_wp2_with fail
 clear mk
 go_loopw [4] (fun i wr=>∃ (k:Nat) (G:Nat→Nat),k≤n∧i=.int .i64 k∧qg wr w.heap.size w.heap.size n k G L z∧w.heap.size<wr.heap.size∧Below w.heap.size w wr) (fun i _=>n-(intOf i).toNat)
 case atStart=>exact ⟨0,fun _=>0,Nat.zero_le _,rfl,⟨(wA (fL w _)).Bm,fun i hi=>by omega,fun i hi=>by omega,fun i j _ hj=>by omega⟩,by simp,(Below.refl _ _).alloc (Nat.le_refl _) _⟩
 obtain ⟨k,G,hk,rfl,hR,hlt0,hB⟩:=hrel
 by_cases hlt:k<n
 ·
  have hlt':(k:Int)<n:=by omega
  obtain ⟨g,o,rfl,hc⟩:=(HR.out.up hB) k hlt
  dsimp only at hc
  go_wp2_with fail
  refine (kM (A k) (L k) (C k) (z k) _ (HL.out k hlt) ((HZ.out k hlt).up hB)).mono ?_
  rintro e w1 ⟨rfl,hr1,hb1⟩
  have HS:Hid (qg (w1.setCell ⟨w.heap.size,k,none⟩ (.slice (some ⟨wr.heap.size,0,none⟩) (L k) (L k))) w.heap.size w.heap.size n (k+1) (fun i=>if i=k then wr.heap.size else G i) L z):=hR.step hlt hlt0 (Nat.le_refl _) hb1 hr1
  have t1:=(hR.ir hb1).top
  obtain ⟨v0,q0⟩:=t1.there k hlt
  have f0:=t1.free k
  have HB1:Hid (Below w.heap.size w w1):=hB.trans (hb1.mono hB.size)
  have hsz:=hb1.size
  clear hr1 hb1 hR hc t1 hB
  go_wp2_with fail
  go_roundw
  case rel=>exact ⟨k+1,_,by omega,by go_num,HS.out,by simp [World.setCell];omega,HB1.out.setCell (Nat.le_refl _) _⟩
  case measure=>simp [intOf];omega
 obtain rfl:k=n:=by omega
 go_wp2_with fail
 go_ret
 exact ⟨G,rfl,hR,hB⟩
set_option maxHeartbeats 1000000 in
theorem pJ (a1 a2:Option Addr) (n c1 c2:Nat) (A1 A2:Nat→Option Addr) (L C1 C2:Nat→Nat) (z:Nat→Nat→Int) (w:World) (hn:n≤1048576) (hl:∀ i,i<n→L i≤1048576)
  (h1:fY w a1 n fun i=>.slice (A1 i) (L i) (C1 i)) (h2:fY w a2 n fun i=>.slice (A2 i) (L i) (C2 i)) (z1:∀ i,i<n→fY w (A1 i) (L i) fun j=>.int .i64 (z i j)) (z2:∀ i,i<n→fY w (A2 i) (L i) fun j=>.int .i64 (z i j)) :
  Calls Tryz.prog 121 #[.slice a1 n c1,.slice a2 n c2] w fun e w'=>e=.returned (.bool true)∧Same w w':=by
 have H1:Hid (fY w a1 n fun i=>.slice (A1 i) (L i) (C1 i)):=h1
 have H2:Hid (fY w a2 n fun i=>.slice (A2 i) (L i) (C2 i)):=h2
 have HZ1:Hid (∀ i,i<n→fY w (A1 i) (L i) fun j=>.int .i64 (z i j)):=z1
 have HZ2:Hid (∀ i,i<n→fY w (A2 i) (L i) fun j=>.int .i64 (z i j)):=z2
 have HL:Hid (∀ i,i<n→L i≤1048576):=hl
 clear h1 h2 z1 z2 hl
 go_enter Tryz.func121,Tryz.ntmps121
 go_wp2_with fail
 go_loopw [5] (fun i wr=>∃ k:Nat,k≤n∧i=.int .i64 k∧Same w wr) (fun i _=>n-(intOf i).toNat)
 case atStart=>exact ⟨0,Nat.zero_le _,rfl,Same.refl _⟩
 obtain ⟨k,hk,rfl,hS⟩:=hrel
 by_cases hlt:k<n
 ·
  have hlt':(k:Int)<n:=by omega
  have bd:Below w.heap.size w wr.drew:=(hS.below _).drew
  obtain ⟨g,o,rfl,c1⟩:=(H1.out.up (hS.below _)) k hlt
  obtain ⟨g2,o2,rfl,c2⟩:=(H2.out.up (hS.below _)) k hlt
  dsimp only at c1 c2
  go_wp2_with fail
  refine wp_region_held_drew (S:=fun w'=>w'.cell? ⟨g,o+k,none⟩=some (.slice (A1 k) (L k) (C1 k))∧w'.cell? ⟨g2,o2+k,none⟩=some (.slice (A2 k) (L k) (C2 k))) (by kernel_rfl) ⟨c1,c2⟩ (fun hHeld=>?_)
  refine t0 ?_
  iterate 7 refine tN ?_
  refine wpAnyH_ready (rs:=[8]) (by kernel_rfl) (by simp) ?_
  refine AllReadyH.cons rfl (fun K hK=>?_) AllReadyH.nil
  go_simp
  refine (k9 _ _ _ _ _ (z k) _ (HL.out k hlt) ((HZ1.out k hlt).up bd) ((HZ2.out k hlt).up bd)).mono ?_
  rintro e w1 ⟨rfl,hS1⟩
  have c1:=(hS1.cell ⟨g,o+k,none⟩).trans c1
  have c2:=(hS1.cell ⟨g2,o2+k,none⟩).trans c2
  go_wp2_with fail
  refine hK.out _ _ ⟨c1,c2⟩ (fun hHeld=>?_)
  clear hK K
  try simp only [Act.put,PZ]
  refine tN ?_
  refine wpAnyH_done (by kernel_rfl) ?_ _
  have HSm:Hid (Same w w1):=⟨hS1.os.trans hS.os,hS1.tape.trans hS.tape,hS1.output.trans hS.output,hS1.heap.trans hS.heap⟩
  clear hS1 hS c1 c2 hHeld bd
  go_wp2_with fail
  go_roundw
  case rel=>exact ⟨k+1,by omega,by go_num,HSm.out⟩
  case measure=>simp [intOf];omega
 obtain rfl:k=n:=by omega
 go_wp2_with fail
 go_ret
 exact ⟨rfl,hS⟩
end Go.Proofs.YtfcfpkibceepgaaGreat
