/- Counts: how they read; measured, copied, held against each other, marked. -/
import Derived.Test.YtalbkpofiobmiaaCnA
import Derived.Test.YtalbkpofiobmiaaBoolS
namespace Go.Proofs.Ytalbkpofiobmiaa
open Go.RowKit
set_option linter.unusedVariables false
set_option linter.unusedSimpArgs false

structure Cnt where
  aU : Option Addr
  nU : Nat
  cU : Nat
  u : Nat → Int
  lo : Int
  aP : Option Addr
  nP : Nat
  cP : Nat
  p : Nat → Bool
def Cnt.cells (N : Cnt) : Array Value := #[.slice N.aU N.nU N.cU, .int .i64 N.lo, .slice N.aP N.nP N.cP]
structure RdCnt (w : World) (N : Cnt) : Prop where
  u : RdRow w N.aU N.nU fun i => .int .i64 (N.u i)
  p : RdRow w N.aP N.nP fun i => .bool (N.p i)
theorem RdCnt.up {w w2 : World} {N : Cnt} (h : RdCnt w N) (hb : Below w.heap.size w w2) : RdCnt w2 N := ⟨h.u.up hb, h.p.up hb⟩
structure Cnt.Fit (N : Cnt) : Prop where
  u : N.nU ≤ maxLen
  p : N.nP ≤ maxLen
structure Cnt.Small (N : Cnt) : Prop where
  u : N.nU ≤ 1048576
  p : N.nP ≤ 1048576
theorem Cnt.Small.fit {N : Cnt} (h : N.Small) : N.Fit := ⟨by have := h.u; unfold maxLen; omega, by have := h.p; unfold maxLen; omega⟩
/-- what reads the same -/
structure AlikeC (A B : Cnt) : Prop where
  nU : B.nU = A.nU
  u : B.u = A.u
  lo : B.lo = A.lo
  nP : B.nP = A.nP
  p : B.p = A.p
theorem AlikeC.refl (A : Cnt) : AlikeC A A := ⟨rfl, rfl, rfl, rfl, rfl⟩
theorem AlikeC.symm {A B : Cnt} (h : AlikeC A B) : AlikeC B A := ⟨h.nU.symm, h.u.symm, h.lo.symm, h.nP.symm, h.p.symm⟩
theorem AlikeC.trans {A B C : Cnt} (h : AlikeC A B) (k : AlikeC B C) : AlikeC A C := ⟨k.nU.trans h.nU, k.u.trans h.u, k.lo.trans h.lo, k.nP.trans h.nP, k.p.trans h.p⟩
theorem AlikeC.small {A B : Cnt} (h : AlikeC A B) (hs : A.Small) : B.Small := ⟨by rw [h.nU]; exact hs.u, by rw [h.nP]; exact hs.p⟩
/-- counts that keep to their limits -/
structure Cnt.Ok (C : Cfg) (N : Cnt) : Prop where
  c : C.Ok
  nU : (N.nU : Int) = C.p
  nP : (N.nP : Int) = C.p
  lo : 0 ≤ N.lo ∧ N.lo ≤ C.lo
  u : ∀ i, i < N.nU → 0 ≤ N.u i ∧ N.u i ≤ C.xo + C.hd
theorem AlikeC.ok {C : Cfg} {A B : Cnt} (h : AlikeC A B) : Cnt.Ok C B ↔ Cnt.Ok C A :=
  ⟨fun k => ⟨k.c, by rw [← h.nU]; exact k.nU, by rw [← h.nP]; exact k.nP, by rw [← h.lo]; exact k.lo, by rw [← h.u, ← h.nU]; exact k.u⟩,
   fun k => ⟨k.c, by rw [h.nU]; exact k.nU, by rw [h.nP]; exact k.nP, by rw [h.lo]; exact k.lo, by rw [h.u, h.nU]; exact k.u⟩⟩
theorem toConfig_any (C : Cfg) (w : World) :
    Calls Try.prog 10 #[.agg C.cells] w fun e w' => e = .returned (.agg C.cells) ∧ Below w.heap.size w w' := by
  unfold Cfg.cells
  go_enter Try.func10, Try.ntmps10
  go_wp2_with fail
  refine bodyPost_ret (v := .agg #[.int .i64 C.p, .int .i64 C.c, .int .i64 C.xo, .int .i64 C.xn, .int .i64 C.hd, .int .i64 C.lo, .int .i64 C.dl]) (by simp [results, Try.results10, go_sem]) rfl ⟨rfl, ?_⟩
  go_grown
theorem szCounts_any (N : Cnt) (w : World) (hf : N.Fit) :
    Calls Try.prog 12 #[.agg N.cells, .int .i64 1048576] w fun e w' => (∃ r : Int, e = .returned (.int .i64 r) ∧ (r = -1 ∨ 0 ≤ r ∧ N.Small)) ∧ Below w.heap.size w w' := by
  have HA : Hid (∀ o, Below w.heap.size w (w.alloc o)) := fun o => (Below.refl _ _).alloc (Nat.le_refl _) _
  have HF : Hid N.Fit := hf
  clear hf
  unfold Cnt.cells
  go_enter Try.func12, Try.ntmps12
  go_wp2_with fail
  refine (szInts_any N.aU N.nU N.cU 1048576 _ HF.out.u (by omega) (by omega)).mono ?_
  rintro e w1 ⟨⟨r, rfl, hr⟩, rfl⟩
  rcases hr with rfl | ⟨r0, r1, hn1⟩
  · go_wp2_with fail
    go_ret
    exact ⟨⟨_, rfl, .inl rfl⟩, HA.out _⟩
  have hr0 : ¬ r < 0 := by omega
  go_wp2_with fail
  refine (szBools_any N.aP N.nP N.cP r _ HF.out.p r0 r1).mono ?_
  rintro e w2 ⟨⟨r2, rfl, hr2⟩, rfl⟩
  rcases hr2 with rfl | ⟨r20, r21, hn2⟩
  · go_wp2_with fail
    go_ret
    exact ⟨⟨_, rfl, .inl rfl⟩, HA.out _⟩
  have hr20 : ¬ r2 < 0 := by omega
  have HS : Hid N.Small := ⟨hn1, hn2⟩
  go_wp2_with fail
  go_ret
  exact ⟨⟨_, rfl, .inr ⟨r20, HS.out⟩⟩, HA.out _⟩

/-- a slice that owns its row, or has none -/
def VT (t : TypeId) (w : World) (base : Nat) (a : Option Addr) (n : Nat) (F : Nat → Value) : Prop := n = 0 ∨ ∃ g, a = some ⟨g, 0, none⟩ ∧ base ≤ g ∧ RowTo g t n F n w
def blkV (a : Option Addr) (n : Nat) : List Nat := if n = 0 then [] else (a.map (·.block)).toList
theorem VT.read {t : TypeId} {w : World} {base : Nat} {a : Option Addr} {n : Nat} {f : Nat → Value} (h : VT t w base a n f) : RdRow w a n f := by
  rcases h with rfl | ⟨g, rfl, _, hr⟩
  · exact RdRow.nil _ _ _
  · exact hr.read
theorem VT.up {t : TypeId} {w w' : World} {base : Nat} {a : Option Addr} {n : Nat} {f : Nat → Value} (h : VT t w base a n f) (hb : Below w.heap.size w w') : VT t w' base a n f :=
  h.imp id (by rintro ⟨g, ha, hg, hr⟩; exact ⟨g, ha, hg, hr.keep (hb.block _ hr.lt)⟩)
theorem VT.mono {t : TypeId} {w : World} {base base' : Nat} {a : Option Addr} {n : Nat} {f : Nat → Value} (h : VT t w base a n f) (hb : base' ≤ base) : VT t w base' a n f :=
  h.imp id (by rintro ⟨g, ha, hg, hr⟩; exact ⟨g, ha, by omega, hr⟩)
theorem blkV_mem {g n : Nat} (h : n ≠ 0) : g ∈ blkV (some ⟨g, 0, none⟩) n := by unfold blkV; rw [if_neg h]; simp
theorem VT.touchS {t : TypeId} {w w' : World} {base : Nat} {a : Option Addr} {n : Nat} {f : Nat → Value} {S : List Nat} (h : VT t w base a n f) (ht : Touch S w w') (hp : ∀ x ∈ blkV a n, x ∉ S) : VT t w' base a n f := by
  rcases h with h | ⟨g, rfl, hg, hr⟩
  · exact .inl h
  · by_cases h0 : n = 0
    · exact .inl h0
    exact .inr ⟨g, rfl, hg, hr.keep (ht.block g hr.lt (hp g (blkV_mem h0)))⟩
theorem VT.blk {t : TypeId} {w : World} {base : Nat} {a : Option Addr} {n : Nat} {f : Nat → Value} (h : VT t w base a n f) : ∀ x ∈ blkV a n, base ≤ x ∧ x < w.heap.size := by
  intro x hx
  unfold blkV at hx
  split at hx
  · simp at hx
  · rcases h with h | ⟨g, rfl, hg, hr⟩
    · contradiction
    · simp at hx; subst hx; exact ⟨hg, hr.lt⟩
theorem VT.type {t : TypeId} {w : World} {base : Nat} {a : Option Addr} {n : Nat} {f : Nat → Value} (h : VT t w base a n f) : ∀ x ∈ blkV a n, ∃ cs, w.heap[x]? = some (.cells cs t (0, 0)) := by
  intro x hx
  unfold blkV at hx
  split at hx
  · simp at hx
  · rcases h with h | ⟨g, rfl, hg, hr⟩
    · contradiction
    · simp at hx
      subst hx
      obtain ⟨cs, hc, _⟩ := hr
      exact ⟨cs, hc⟩
theorem VT.apart {t t' : TypeId} {w : World} {base base' : Nat} {a a' : Option Addr} {n n' : Nat} {f f' : Nat → Value} (h : VT t w base a n f) (k : VT t' w base' a' n' f') (hne : t ≠ t') : ∀ x ∈ blkV a n, x ∉ blkV a' n' := by
  intro x hx hy
  obtain ⟨cs, h1⟩ := h.type x hx
  obtain ⟨cs', h2⟩ := k.type x hy
  rw [h1] at h2
  simp at h2
  exact hne h2.2
theorem VT.of {t : TypeId} {w : World} {base g n : Nat} {f : Nat → Value} (hb : base ≤ g) (h : RowTo g t n f n w) : VT t w base (some ⟨g, 0, none⟩) n f := .inr ⟨g, rfl, hb, h⟩
theorem VT.boxOut {t t' : TypeId} {w : World} {base : Nat} {a : Option Addr} {n g : Nat} {f : Nat → Value} {cs : Array Value} (h : VT t w base a n f) (hne : t ≠ t') (hg : w.heap[g]? = some (.cells cs t' (0, 0))) : g ∉ blkV a n := by
  intro hx
  obtain ⟨cs', h1⟩ := h.type g hx
  rw [hg] at h1
  simp at h1
  exact hne h1.2.symm
/-- counts that own their rows -/
structure OwnCn (w : World) (base : Nat) (N : Cnt) : Prop where
  u : VT 2 w base N.aU N.nU fun i => .int .i64 (N.u i)
  p : VT 4 w base N.aP N.nP fun i => .bool (N.p i)
theorem OwnCn.rd {w : World} {base : Nat} {N : Cnt} (h : OwnCn w base N) : RdCnt w N := ⟨h.u.read, h.p.read⟩
theorem OwnCn.up {w w' : World} {base : Nat} {N : Cnt} (h : OwnCn w base N) (hb : Below w.heap.size w w') : OwnCn w' base N := ⟨h.u.up hb, h.p.up hb⟩
theorem OwnCn.mono {w : World} {base base' : Nat} {N : Cnt} (h : OwnCn w base N) (hb : base' ≤ base) : OwnCn w base' N := ⟨h.u.mono hb, h.p.mono hb⟩
theorem OwnCn.touch {w w' : World} {base : Nat} {N : Cnt} {S : List Nat} (h : OwnCn w base N) (ht : Touch S w w') (hS : ∀ x ∈ S, x < base) : OwnCn w' base N :=
  ⟨h.u.touchS ht (fun x hx hy => by have := (h.u.blk x hx).1; have := hS x hy; omega), h.p.touchS ht (fun x hx hy => by have := (h.p.blk x hx).1; have := hS x hy; omega)⟩
theorem OwnCn.touchHi {w0 w w' : World} {base base0 : Nat} {N : Cnt} {S : List Nat} (h : OwnCn w base N) (h0 : OwnCn w0 base0 N) (ht : Touch S w w') (hS : ∀ x ∈ S, w0.heap.size ≤ x) : OwnCn w' base N :=
  ⟨h.u.touchS ht (fun x hx hy => by have := (h0.u.blk x hx).2; have := hS x hy; omega), h.p.touchS ht (fun x hx hy => by have := (h0.p.blk x hx).2; have := hS x hy; omega)⟩
def Cnt.copy (N : Cnt) (gU gP : Nat) : Cnt := { N with aU := some ⟨gU, 0, none⟩, cU := N.nU, aP := some ⟨gP, 0, none⟩, cP := N.nP }
theorem copy_alike (N : Cnt) (gU gP : Nat) : AlikeC N (N.copy gU gP) := ⟨rfl, rfl, rfl, rfl, rfl⟩
theorem copy_smallC {N : Cnt} {gU gP : Nat} (h : N.Small) : (N.copy gU gP).Small := ⟨h.u, h.p⟩
set_option maxHeartbeats 1000000 in
theorem toCounts_any (N : Cnt) (w : World) (hs : N.Small) (h : RdCnt w N) :
    Calls Try.prog 14 #[.agg N.cells] w fun e w' => ∃ gU gP, e = .returned (.agg (N.copy gU gP).cells) ∧ OwnCn w' w.heap.size (N.copy gU gP) ∧ Below w.heap.size w w' := by
  obtain ⟨aU, nU, cU, u, lo, aP, nP, cP, p⟩ := N
  have HU : Hid (RdRow w aU nU fun i => .int .i64 (u i)) := h.u
  have HP : Hid (RdRow w aP nP fun i => .bool (p i)) := h.p
  have hs1 : nU ≤ 1048576 := hs.u
  have hs2 : nP ≤ 1048576 := hs.p
  clear h hs
  obtain ⟨w3, hw3⟩ : ∃ w3, w3 = ((w.alloc (.cells #[.slice aU nU cU, .int .i64 lo, .slice aP nP cP] 31)).alloc (.cells #[.slice none 0 0, .int .i64 0, .slice none 0 0] 34)).alloc (.cells #[.slice none 0 0, .int .i64 0, .slice none 0 0] 34) := ⟨_, rfl⟩
  have k1 : w3.heap[w.heap.size]? = some (.cells #[.slice aU nU cU, .int .i64 lo, .slice aP nP cP] 31 (0, 0)) := by
    rw [hw3]; exact (blk_old _ (by simp; omega)).trans ((blk_old _ (by simp)).trans (blk_new _ _))
  have k2 : w3.heap[w.heap.size + 1]? = some (.cells #[.slice none 0 0, .int .i64 0, .slice none 0 0] 34 (0, 0)) := by
    rw [hw3]
    refine (blk_old _ (by simp)).trans ?_
    have := blk_new (w.alloc (.cells #[.slice aU nU cU, .int .i64 lo, .slice aP nP cP] 31)) (.cells #[.slice none 0 0, .int .i64 0, .slice none 0 0] 34)
    simpa using this
  have k3 : w3.heap[w.heap.size + 1 + 1]? = some (.cells #[.slice none 0 0, .int .i64 0, .slice none 0 0] 34 (0, 0)) := by
    rw [hw3]
    have := blk_new ((w.alloc (.cells #[.slice aU nU cU, .int .i64 lo, .slice aP nP cP] 31)).alloc (.cells #[.slice none 0 0, .int .i64 0, .slice none 0 0] 34)) (.cells #[.slice none 0 0, .int .i64 0, .slice none 0 0] 34)
    simpa using this
  have B3 : Below w.heap.size w w3 := by rw [hw3]; go_grown
  have z3 : w.heap.size + 3 = w3.heap.size := by rw [hw3]; simp
  have HZ3 : Hid (w.heap.size + 3 = w3.heap.size) := z3
  clear z3
  have c1 := blk_cell k1
  unfold Cnt.cells Cnt.copy
  dsimp only
  go_enter Try.func14, Try.ntmps14
  go_wp2_with fail
  rw [← hw3]
  clear hw3
  refine (toInts_any aU nU cU u _ hs1 (HU.out.up B3)).mono ?_
  rintro e w4 ⟨rfl, hr4, hb4⟩
  have k14 := (hb4.block _ (blk_lt k1)).trans k1
  have k24 := (hb4.block _ (blk_lt k2)).trans k2
  have k34 := (hb4.block _ (blk_lt k3)).trans k3
  have B4 := B3.trans (hb4.mono B3.size)
  clear k1 k2 k3 hb4 B3 c1
  have c1 := blk_cell k14
  have c3 := blk_cell k34
  have f3 := blk_free k34
  obtain ⟨w5, hw5⟩ : ∃ w5, w5 = (w4.setCell ⟨w.heap.size + 1 + 1, 0, none⟩ (.slice (some ⟨w3.heap.size, 0, none⟩) nU nU)).setCell ⟨w.heap.size + 1 + 1, 1, none⟩ (.int .i64 lo) := ⟨_, rfl⟩
  have hz3 := HZ3.out
  have k15 : w5.heap[w.heap.size]? = some (.cells #[.slice aU nU cU, .int .i64 lo, .slice aP nP cP] 31 (0, 0)) := by rw [hw5]; exact (blk_set_ne (by omega) _).trans ((blk_set_ne (by omega) _).trans k14)
  have k25 : w5.heap[w.heap.size + 1]? = some (.cells #[.slice none 0 0, .int .i64 0, .slice none 0 0] 34 (0, 0)) := by rw [hw5]; exact (blk_set_ne (by omega) _).trans ((blk_set_ne (by omega) _).trans k24)
  have k35 : w5.heap[w.heap.size + 1 + 1]? = some (.cells #[.slice (some ⟨w3.heap.size, 0, none⟩) nU nU, .int .i64 lo, .slice none 0 0] 34 (0, 0)) := by rw [hw5]; exact blk_set (blk_set k34 _) _
  have r5 : RowTo w3.heap.size 2 nU (fun i => .int .i64 (u i)) nU w5 := by rw [hw5]; exact hr4.keep ((blk_set_ne (by omega) _).trans (blk_set_ne (by omega) _))
  have B5 : Below w.heap.size w w5 := by rw [hw5]; exact (B4.setCell (by show _ ≤ w.heap.size + 1 + 1; omega) _).setCell (by show _ ≤ w.heap.size + 1 + 1; omega) _
  have cc : ∀ o, (w4.setCell ⟨w.heap.size + 1 + 1, 0, none⟩ (.slice (some ⟨w3.heap.size, 0, none⟩) nU nU)).cell? ⟨w.heap.size, o, none⟩ = (#[.slice aU nU cU, .int .i64 lo, .slice aP nP cP] : Array Value)[o]? := fun o => blk_cell ((blk_set_ne (by omega) _).trans k14) o
  have cd := blk_cell (blk_set (i := 0) k34 (.slice (some ⟨w3.heap.size, 0, none⟩) nU nU))
  have fd := blk_free (blk_set (i := 0) k34 (.slice (some ⟨w3.heap.size, 0, none⟩) nU nU))
  have c15 := blk_cell k15
  rw [hw5] at c15
  clear hz3 k14 k24 k34 hr4 B4
  go_wp2_with fail
  rw [← hw5]
  clear hw5 cc cd fd c1 c3 f3 c15
  refine (toBools_any aP nP cP p _ hs2 (HP.out.up B5)).mono ?_
  rintro e w6 ⟨rfl, hr6, hb6⟩
  have k26 := (hb6.block _ (blk_lt k25)).trans k25
  have k36 := (hb6.block _ (blk_lt k35)).trans k35
  have r6 := r5.keep (hb6.block _ r5.lt)
  have B6 := B5.trans (hb6.mono B5.size)
  have l5 := r5.lt
  have l52 := blk_lt k35
  clear k15 k25 k35 r5 hb6 B5
  have c3 := blk_cell k36
  have f3 := blk_free k36
  have hz3 := HZ3.out
  obtain ⟨w7, hw7⟩ : ∃ w7, w7 = w6.setCell ⟨w.heap.size + 1 + 1, 2, none⟩ (.slice (some ⟨w5.heap.size, 0, none⟩) nP nP) := ⟨_, rfl⟩
  have k37 : w7.heap[w.heap.size + 1 + 1]? = some (.cells #[.slice (some ⟨w3.heap.size, 0, none⟩) nU nU, .int .i64 lo, .slice (some ⟨w5.heap.size, 0, none⟩) nP nP] 34 (0, 0)) := by rw [hw7]; exact blk_set k36 _
  have k27 : w7.heap[w.heap.size + 1]? = some (.cells #[.slice none 0 0, .int .i64 0, .slice none 0 0] 34 (0, 0)) := by rw [hw7]; exact (blk_set_ne (by omega) _).trans k26
  have rU : RowTo w3.heap.size 2 nU (fun i => .int .i64 (u i)) nU w7 := by rw [hw7]; exact r6.keep (blk_set_ne (by omega) _)
  have rP : RowTo w5.heap.size 4 nP (fun i => .bool (p i)) nP w7 := by rw [hw7]; exact hr6.keep (blk_set_ne (by omega) _)
  have B7 : Below w.heap.size w w7 := by rw [hw7]; exact B6.setCell (by show _ ≤ w.heap.size + 1 + 1; omega) _
  have c37 := blk_cell k37
  have f27 := blk_free k27
  have c27 := blk_cell k27
  rw [hw7] at c37 f27 c27
  have HL : Hid (w.heap.size ≤ w3.heap.size ∧ w.heap.size ≤ w5.heap.size ∧ w.heap.size + 1 < w3.heap.size ∧ w.heap.size + 1 < w5.heap.size) := ⟨by omega, by omega, by omega, by omega⟩
  clear hz3 l5 l52 k26 k36 r6 hr6 B6
  go_wp2_with fail
  have hl := HL.out
  have kB : ((((w6.setCell ⟨w.heap.size + 1 + 1, 2, none⟩ (.slice (some ⟨w5.heap.size, 0, none⟩) nP nP)).setCell ⟨w.heap.size + 1, 0, none⟩ (.slice (some ⟨w3.heap.size, 0, none⟩) nU nU)).setCell ⟨w.heap.size + 1, 1, none⟩ (.int .i64 lo)).setCell ⟨w.heap.size + 1, 2, none⟩ (.slice (some ⟨w5.heap.size, 0, none⟩) nP nP)).heap[w.heap.size + 1]? = some (.cells #[.slice (some ⟨w3.heap.size, 0, none⟩) nU nU, .int .i64 lo, .slice (some ⟨w5.heap.size, 0, none⟩) nP nP] 34 (0, 0)) := by
    rw [← hw7]
    exact blk_set (blk_set (blk_set k27 _) _) _
  have cB := blk_cell kB
  refine bodyPost_ret (v := .agg #[.slice (some ⟨w3.heap.size, 0, none⟩) nU nU, .int .i64 lo, .slice (some ⟨w5.heap.size, 0, none⟩) nP nP]) (by simp [results, Try.results14, go_sem, cB]) rfl ⟨w3.heap.size, w5.heap.size, rfl, ?_⟩
  rw [← hw7]
  have keep : ∀ x y z, (((w7.setCell ⟨w.heap.size + 1, 0, none⟩ x).setCell ⟨w.heap.size + 1, 1, none⟩ y).setCell ⟨w.heap.size + 1, 2, none⟩ z).heap[w3.heap.size]? = w7.heap[w3.heap.size]? ∧ (((w7.setCell ⟨w.heap.size + 1, 0, none⟩ x).setCell ⟨w.heap.size + 1, 1, none⟩ y).setCell ⟨w.heap.size + 1, 2, none⟩ z).heap[w5.heap.size]? = w7.heap[w5.heap.size]? := fun x y z =>
    ⟨(blk_set_ne (by omega) _).trans ((blk_set_ne (by omega) _).trans (blk_set_ne (by omega) _)), (blk_set_ne (by omega) _).trans ((blk_set_ne (by omega) _).trans (blk_set_ne (by omega) _))⟩
  refine ⟨⟨VT.of hl.1 (rU.keep (keep _ _ _).1), VT.of hl.2.1 (rP.keep (keep _ _ _).2)⟩, ((B7.setCell (by show _ ≤ w.heap.size + 1; omega) _).setCell (by show _ ≤ w.heap.size + 1; omega) _).setCell (by show _ ≤ w.heap.size + 1; omega) _⟩
end Go.Proofs.Ytalbkpofiobmiaa
