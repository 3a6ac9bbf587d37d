import Derived.Test.YtjippgbmmlcgoaaGreatDoorB00
namespace Go.Proofs.YtjippgbmmlcgoaaGreatDoor
open Go.RowKit
set_option linter.unusedVariables false
variable {cs:Array Value} {xs:List Value} {base g i k n:Nat} {o:Obj} {e t:TypeId} {v:Value} {w wi:World}
theorem ie {fr:Nat × Nat} (h:w.heap[g]?=some (.cells cs t fr)) (i:Nat):w.cell? ⟨g,i,none⟩=cs[i]?:=by simp [World.cell?,h]
theorem ix (h:w.heap[g]?=some (.cells cs t (0,0))) (i:Nat):w.frozen? ⟨g,i,none⟩=false:=by simp [World.frozen?,h]
theorem ig (h:w.heap[g]?=some o):g<w.heap.size:=(Array.getElem?_eq_some_iff.1 h).1
theorem iL {fr:Nat × Nat} (h:w.heap[g]?=some (.cells cs t fr)) (v:Value):(w.setCell ⟨g,i,none⟩ v).heap[g]?=some (.cells (cs.setIfInBounds i v) t fr):=by
 simp [World.setCell,Array.getElem?_modify,h]
theorem iE (hn:k≠g) (v:Value):(w.setCell ⟨g,i,none⟩ v).heap[k]?=w.heap[k]?:=Below.heap_setCell w ⟨g,i,none⟩ v k hn
theorem im (w:World) (o:Obj):(w.alloc o).heap[w.heap.size]?=some o:=by
 show (w.heap.push o)[w.heap.size]?=_
 simp
theorem iH (o:Obj) (h:k<w.heap.size):(w.alloc o).heap[k]?=w.heap[k]?:=Below.heap_alloc w o k h
theorem yP {cap:Nat} (h:w.ownsRow base e 1 (.slice (some ⟨g,0,none⟩) n cap) n xs) (i:Nat) (hi:i<n):w.cell? ⟨g,i,none⟩=xs[i]?:=by
 obtain ⟨hl,h | ⟨g',cap',cur,hv,hg,hblk,hn,hc,hs,ht⟩⟩:=h
 ·
  cases h.1
 cases hv
 rw [ie hblk,←ht,List.getElem?_take_of_lt (by omega)]
 simp
theorem mq {w':World} {B:Nat} {size:Nat} (h:w.ownsRow base e size v n xs) (hb:Below B w w') (hB:w.heap.size≤B):w'.ownsRow base e size v n xs:=by
 obtain ⟨hl,h | ⟨g',cap',cur,hv,hg,hblk,hr⟩⟩:=h
 ·
  exact ⟨hl,.inl h⟩
 exact ⟨hl,.inr ⟨g',cap',cur,hv,hg,by rw [hb.block g' (Nat.lt_of_lt_of_le (ig hblk) hB)];exact hblk,hr⟩⟩
theorem kQ {a:Addr} (h:w.cell? a=some v):a.block<w.heap.size:=by
 unfold World.cell? at h
 split at h
 ·
  rename_i heq
  exact (Array.getElem?_eq_some_iff.1 heq).1
 cases h
theorem boxed {C:Array Value} (h:Below (w.heap.size+1) (w.alloc (.cells C t)) wi):∀ o,wi.cell? ⟨w.heap.size,o,none⟩=C[o]?:=by
 intro o
 rw [h.cell (p:=⟨w.heap.size,o,none⟩) (by show w.heap.size<_;omega)]
 exact World.cell?_alloc_mark w C t (0,0) o
theorem under (h:Below (w.heap.size+1) (w.alloc o) wi):Below w.heap.size w wi :=
 ((Below.refl _ _).alloc (Nat.le_refl _) _).trans (h.mono (by omega))
theorem upper (h:Below (w.heap.size+1) (w.alloc o) wi):w.heap.size+1≤wi.heap.size:=by
 have:=h.size
 simpa using this
theorem first (h:Below (w.alloc o).heap.size (w.alloc o) wi):Below (w.heap.size+1) (w.alloc o) wi :=
 h.mono (by simp)
theorem next {wj:World} (h:Below (w.heap.size+1) (w.alloc o) wi) (k:Below wi.heap.size wi wj):Below (w.heap.size+1) (w.alloc o) wj :=
 h.trans (k.mono (upper h))
