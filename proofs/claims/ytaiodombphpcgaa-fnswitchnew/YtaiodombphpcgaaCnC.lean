/- Counts: how they read; measured, copied, held against each other, marked. -/
import Derived.Test.YtaiodombphpcgaaCnA
import Derived.Test.YtaiodombphpcgaaZs
namespace Go.Proofs.Ytaiodombphpcgaa
open Go.RowKit
set_option linter.unusedVariables false
set_option linter.unusedSimpArgs false

structure Cnt where
  aU : Option Addr
  nU : Nat
  cU : Nat
  u : Nat → Int
  lo : Int
  aP : Option Addr
  nP : Nat
  cP : Nat
  p : Nat → Bool
def Cnt.cells (N : Cnt) : Array Value := #[.slice N.aU N.nU N.cU, .int .i64 N.lo, .slice N.aP N.nP N.cP]
structure RdCnt (w : World) (N : Cnt) : Prop where
  u : RdRow w N.aU N.nU fun i => .int .i64 (N.u i)
  p : RdRow w N.aP N.nP fun i => .bool (N.p i)
theorem RdCnt.up {w w2 : World} {N : Cnt} (h : RdCnt w N) (hb : Below w.heap.size w w2) : RdCnt w2 N := ⟨h.u.up hb, h.p.up hb⟩
structure Cnt.Fit (N : Cnt) : Prop where
  u : N.nU ≤ maxLen
  p : N.nP ≤ maxLen
structure Cnt.Small (N : Cnt) : Prop where
  u : N.nU ≤ 1048576
  p : N.nP ≤ 1048576
theorem Cnt.Small.fit {N : Cnt} (h : N.Small) : N.Fit := ⟨by have := h.u; unfold maxLen; omega, by have := h.p; unfold maxLen; omega⟩
/-- what reads the same -/
structure AlikeC (A B : Cnt) : Prop where
  nU : B.nU = A.nU
  u : B.u = A.u
  lo : B.lo = A.lo
  nP : B.nP = A.nP
  p : B.p = A.p
theorem AlikeC.refl (A : Cnt) : AlikeC A A := ⟨rfl, rfl, rfl, rfl, rfl⟩
theorem AlikeC.symm {A B : Cnt} (h : AlikeC A B) : AlikeC B A := ⟨h.nU.symm, h.u.symm, h.lo.symm, h.nP.symm, h.p.symm⟩
theorem AlikeC.trans {A B C : Cnt} (h : AlikeC A B) (k : AlikeC B C) : AlikeC A C := ⟨k.nU.trans h.nU, k.u.trans h.u, k.lo.trans h.lo, k.nP.trans h.nP, k.p.trans h.p⟩
theorem AlikeC.small {A B : Cnt} (h : AlikeC A B) (hs : A.Small) : B.Small := ⟨by rw [h.nU]; exact hs.u, by rw [h.nP]; exact hs.p⟩
/-- counts that keep to their limits -/
structure Cnt.Ok (C : Cfg) (N : Cnt) : Prop where
  c : C.Ok
  nU : (N.nU : Int) = C.p
  nP : (N.nP : Int) = C.p
  lo : 0 ≤ N.lo ∧ N.lo ≤ C.lo
  u : ∀ i, i < N.nU → 0 ≤ N.u i ∧ N.u i ≤ C.xo + C.hd
theorem AlikeC.ok {C : Cfg} {A B : Cnt} (h : AlikeC A B) : Cnt.Ok C B ↔ Cnt.Ok C A :=
  ⟨fun k => ⟨k.c, by rw [← h.nU]; exact k.nU, by rw [← h.nP]; exact k.nP, by rw [← h.lo]; exact k.lo, by rw [← h.u, ← h.nU]; exact k.u⟩,
   fun k => ⟨k.c, by rw [h.nU]; exact k.nU, by rw [h.nP]; exact k.nP, by rw [h.lo]; exact k.lo, by rw [h.u, h.nU]; exact k.u⟩⟩
/-- a slice that owns its row, or has none -/
def VT (t : TypeId) (w : World) (base : Nat) (a : Option Addr) (n : Nat) (F : Nat → Value) : Prop := n = 0 ∨ ∃ g, a = some ⟨g, 0, none⟩ ∧ base ≤ g ∧ RowTo g t n F n w
def blkV (a : Option Addr) (n : Nat) : List Nat := if n = 0 then [] else (a.map (·.block)).toList
theorem VT.read {t : TypeId} {w : World} {base : Nat} {a : Option Addr} {n : Nat} {f : Nat → Value} (h : VT t w base a n f) : RdRow w a n f := by
  rcases h with rfl | ⟨g, rfl, _, hr⟩
  · exact RdRow.nil _ _ _
  · exact hr.read
theorem VT.up {t : TypeId} {w w' : World} {base : Nat} {a : Option Addr} {n : Nat} {f : Nat → Value} (h : VT t w base a n f) (hb : Below w.heap.size w w') : VT t w' base a n f :=
  h.imp id (by rintro ⟨g, ha, hg, hr⟩; exact ⟨g, ha, hg, hr.keep (hb.block _ hr.lt)⟩)
theorem VT.mono {t : TypeId} {w : World} {base base' : Nat} {a : Option Addr} {n : Nat} {f : Nat → Value} (h : VT t w base a n f) (hb : base' ≤ base) : VT t w base' a n f :=
  h.imp id (by rintro ⟨g, ha, hg, hr⟩; exact ⟨g, ha, by omega, hr⟩)
theorem blkV_mem {g n : Nat} (h : n ≠ 0) : g ∈ blkV (some ⟨g, 0, none⟩) n := by unfold blkV; rw [if_neg h]; simp
theorem VT.touchS {t : TypeId} {w w' : World} {base : Nat} {a : Option Addr} {n : Nat} {f : Nat → Value} {S : List Nat} (h : VT t w base a n f) (ht : Touch S w w') (hp : ∀ x ∈ blkV a n, x ∉ S) : VT t w' base a n f := by
  rcases h with h | ⟨g, rfl, hg, hr⟩
  · exact .inl h
  · by_cases h0 : n = 0
    · exact .inl h0
    exact .inr ⟨g, rfl, hg, hr.keep (ht.block g hr.lt (hp g (blkV_mem h0)))⟩
theorem VT.blk {t : TypeId} {w : World} {base : Nat} {a : Option Addr} {n : Nat} {f : Nat → Value} (h : VT t w base a n f) : ∀ x ∈ blkV a n, base ≤ x ∧ x < w.heap.size := by
  intro x hx
  unfold blkV at hx
  split at hx
  · simp at hx
  · rcases h with h | ⟨g, rfl, hg, hr⟩
    · contradiction
    · simp at hx; subst hx; exact ⟨hg, hr.lt⟩
theorem VT.type {t : TypeId} {w : World} {base : Nat} {a : Option Addr} {n : Nat} {f : Nat → Value} (h : VT t w base a n f) : ∀ x ∈ blkV a n, ∃ cs, w.heap[x]? = some (.cells cs t (0, 0)) := by
  intro x hx
  unfold blkV at hx
  split at hx
  · simp at hx
  · rcases h with h | ⟨g, rfl, hg, hr⟩
    · contradiction
    · simp at hx
      subst hx
      obtain ⟨cs, hc, _⟩ := hr
      exact ⟨cs, hc⟩
theorem VT.apart {t t' : TypeId} {w : World} {base base' : Nat} {a a' : Option Addr} {n n' : Nat} {f f' : Nat → Value} (h : VT t w base a n f) (k : VT t' w base' a' n' f') (hne : t ≠ t') : ∀ x ∈ blkV a n, x ∉ blkV a' n' := by
  intro x hx hy
  obtain ⟨cs, h1⟩ := h.type x hx
  obtain ⟨cs', h2⟩ := k.type x hy
  rw [h1] at h2
  simp at h2
  exact hne h2.2
theorem VT.of {t : TypeId} {w : World} {base g n : Nat} {f : Nat → Value} (hb : base ≤ g) (h : RowTo g t n f n w) : VT t w base (some ⟨g, 0, none⟩) n f := .inr ⟨g, rfl, hb, h⟩
theorem VT.boxOut {t t' : TypeId} {w : World} {base : Nat} {a : Option Addr} {n g : Nat} {f : Nat → Value} {cs : Array Value} (h : VT t w base a n f) (hne : t ≠ t') (hg : w.heap[g]? = some (.cells cs t' (0, 0))) : g ∉ blkV a n := by
  intro hx
  obtain ⟨cs', h1⟩ := h.type g hx
  rw [hg] at h1
  simp at h1
  exact hne h1.2.symm
/-- counts that own their rows -/
structure OwnCn (w : World) (base : Nat) (N : Cnt) : Prop where
  u : VT 2 w base N.aU N.nU fun i => .int .i64 (N.u i)
  p : VT 4 w base N.aP N.nP fun i => .bool (N.p i)
theorem OwnCn.rd {w : World} {base : Nat} {N : Cnt} (h : OwnCn w base N) : RdCnt w N := ⟨h.u.read, h.p.read⟩
theorem OwnCn.up {w w' : World} {base : Nat} {N : Cnt} (h : OwnCn w base N) (hb : Below w.heap.size w w') : OwnCn w' base N := ⟨h.u.up hb, h.p.up hb⟩
theorem OwnCn.mono {w : World} {base base' : Nat} {N : Cnt} (h : OwnCn w base N) (hb : base' ≤ base) : OwnCn w base' N := ⟨h.u.mono hb, h.p.mono hb⟩
theorem OwnCn.touch {w w' : World} {base : Nat} {N : Cnt} {S : List Nat} (h : OwnCn w base N) (ht : Touch S w w') (hS : ∀ x ∈ S, x < base) : OwnCn w' base N :=
  ⟨h.u.touchS ht (fun x hx hy => by have := (h.u.blk x hx).1; have := hS x hy; omega), h.p.touchS ht (fun x hx hy => by have := (h.p.blk x hx).1; have := hS x hy; omega)⟩
theorem OwnCn.touchHi {w0 w w' : World} {base base0 : Nat} {N : Cnt} {S : List Nat} (h : OwnCn w base N) (h0 : OwnCn w0 base0 N) (ht : Touch S w w') (hS : ∀ x ∈ S, w0.heap.size ≤ x) : OwnCn w' base N :=
  ⟨h.u.touchS ht (fun x hx hy => by have := (h0.u.blk x hx).2; have := hS x hy; omega), h.p.touchS ht (fun x hx hy => by have := (h0.p.blk x hx).2; have := hS x hy; omega)⟩
def Cnt.copy (N : Cnt) (gU gP : Nat) : Cnt := { N with aU := some ⟨gU, 0, none⟩, cU := N.nU, aP := some ⟨gP, 0, none⟩, cP := N.nP }
theorem copy_alike (N : Cnt) (gU gP : Nat) : AlikeC N (N.copy gU gP) := ⟨rfl, rfl, rfl, rfl, rfl⟩
theorem copy_smallC {N : Cnt} {gU gP : Nat} (h : N.Small) : (N.copy gU gP).Small := ⟨h.u, h.p⟩
end Go.Proofs.Ytaiodombphpcgaa
