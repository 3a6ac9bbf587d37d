/- Rounds on their way in the program: rows that may begin behind their block's head. -/
import Derived.Test.YtnfcmiiibkbmfaaPkC
namespace Go.Proofs.Ytnfcmiiibkbmfaa
open Go.RowKit
set_option linter.unusedVariables false
set_option linter.unusedSimpArgs false

/-- n numbers from place o of block g on -/
def RowAt (g o n : Nat) (f : Nat → Value) (w : World) : Prop := ∃ arr : Array Value, w.heap[g]? = some (.cells arr 2 (0, 0)) ∧ o + n ≤ arr.size ∧ ∀ i, i < n → arr[o + i]? = some (f i)
theorem RowAt.lt {g o n : Nat} {f : Nat → Value} {w : World} (h : RowAt g o n f w) : g < w.heap.size := by
  obtain ⟨arr, h1, _⟩ := h
  exact blk_lt h1
theorem RowAt.keep {g o n : Nat} {f : Nat → Value} {w w' : World} (h : RowAt g o n f w) (hb : w'.heap[g]? = w.heap[g]?) : RowAt g o n f w' := by
  obtain ⟨arr, h1, h2⟩ := h
  exact ⟨arr, hb.trans h1, h2⟩
theorem RowAt.read {g o n : Nat} {f : Nat → Value} {w : World} (h : RowAt g o n f w) : RdRow w (some ⟨g, o, none⟩) n f := fun i hi => by
  obtain ⟨arr, h1, h2, h3⟩ := h
  exact ⟨g, o, rfl, (blk_cell h1 _).trans (h3 i hi)⟩
theorem RowAt.drop {g o n : Nat} {f : Nat → Value} {w : World} (h : RowAt g o (n + 1) f w) : RowAt g (o + 1) n (fun j => f (j + 1)) w := by
  obtain ⟨arr, h1, h2, h3⟩ := h
  refine ⟨arr, h1, by omega, fun i hi => ?_⟩
  have := h3 (i + 1) (by omega)
  rwa [show o + 1 + i = o + (i + 1) by omega]
/-- a slice of numbers whose row is its own, wherever in it -/
def VO (w : World) (base : Nat) (a : Option Addr) (n : Nat) (f : Nat → Int) : Prop := n = 0 ∨ ∃ g o, a = some ⟨g, o, none⟩ ∧ base ≤ g ∧ RowAt g o n (fun i => .int .i64 (f i)) w
section
variable {w w' : World} {base base' : Nat} {a : Option Addr} {n : Nat} {f : Nat → Int} {S : List Nat}
theorem VI.o (h : VI w base a n f) : VO w base a n f := by
  rcases h with h | ⟨g, e, hb, arr, h1, h2, h3⟩
  · exact .inl h
  · exact .inr ⟨g, 0, e, hb, arr, h1, by omega, fun i hi => by rw [Nat.zero_add]; exact h3 i hi⟩
theorem VO.read (h : VO w base a n f) : RdRow w a n fun i => .int .i64 (f i) := by
  rcases h with rfl | ⟨g, o, rfl, _, hr⟩
  · exact RdRow.nil _ _ _
  · exact hr.read
theorem VO.up (h : VO w base a n f) (hb : Below w.heap.size w w') : VO w' base a n f :=
  h.imp id (by rintro ⟨g, o, ha, hg, hr⟩; exact ⟨g, o, ha, hg, hr.keep (hb.block _ hr.lt)⟩)
theorem VO.mono (h : VO w base a n f) (hb : base' ≤ base) : VO w base' a n f :=
  h.imp id (by rintro ⟨g, o, ha, hg, hr⟩; exact ⟨g, o, ha, by omega, hr⟩)
theorem blkO_mem {g o n : Nat} (h : n ≠ 0) : g ∈ blkI (some ⟨g, o, none⟩) n := by unfold blkI; rw [if_neg h]; simp
theorem VO.touchS (h : VO w base a n f) (ht : Touch S w w') (hp : ∀ x ∈ blkI a n, x ∉ S) : VO w' base a n f := by
  rcases h with h | ⟨g, o, rfl, hg, hr⟩
  · exact .inl h
  · by_cases h0 : n = 0
    · exact .inl h0
    exact .inr ⟨g, o, rfl, hg, hr.keep (ht.block g hr.lt (hp g (blkO_mem h0)))⟩
theorem VO.blk (h : VO w base a n f) : ∀ x ∈ blkI a n, base ≤ x ∧ x < w.heap.size := by
  intro x hx
  unfold blkI at hx
  split at hx
  · simp at hx
  · rcases h with h | ⟨g, o, rfl, hg, hr⟩
    · contradiction
    · simp at hx; subst hx; exact ⟨hg, hr.lt⟩
theorem notInO (h : VO w base a n f) {g : Nat} {arr : Array Value} {t : TypeId} (ht : t ≠ 2) (hg : w.heap[g]? = some (.cells arr t (0, 0))) : g ∉ blkI a n := by
  intro hx
  unfold blkI at hx
  split at hx
  · simp at hx
  · rename_i h0
    rcases h with h1 | ⟨g', o, rfl, _, arr', h2, _⟩
    · exact h0 h1
    · simp at hx
      subst hx
      rw [hg] at h2
      simp at h2
      exact ht h2.2
end
/-- a round that owns its rows -/
structure OwnRo (w : World) (base : Nat) (R : Rnd) : Prop where
  q : VI w base R.aQ R.nQ R.q
  d : VI w base R.aD R.nD R.d
  s : VS w base R.aS R.nS fun i => .slice (R.A i) (R.L i) (R.C i)
  z : ∀ i, i < R.nS → VO w base (R.A i) (R.L i) (R.z i)
  qd : apartI R.aQ R.nQ R.aD R.nD
  qz : ∀ i, i < R.nS → apartI R.aQ R.nQ (R.A i) (R.L i)
  dz : ∀ i, i < R.nS → apartI R.aD R.nD (R.A i) (R.L i)
  zz : ∀ i j, i < R.nS → j < R.nS → i ≠ j → apartI (R.A i) (R.L i) (R.A j) (R.L j)
theorem OwnRn.o {w : World} {base : Nat} {R : Rnd} (h : OwnRn w base R) : OwnRo w base R := ⟨h.q, h.d, h.s, fun i hi => (h.z i hi).o, h.qd, h.qz, h.dz, h.zz⟩
theorem OwnRo.rd {w : World} {base : Nat} {R : Rnd} (h : OwnRo w base R) : RdRnd w R := ⟨h.q.read, h.d.read, h.s.read, fun i hi => (h.z i hi).read⟩
theorem OwnRo.up {w w' : World} {base : Nat} {R : Rnd} (h : OwnRo w base R) (hb : Below w.heap.size w w') : OwnRo w' base R :=
  ⟨h.q.up hb, h.d.up hb, h.s.up hb, fun i hi => (h.z i hi).up hb, h.qd, h.qz, h.dz, h.zz⟩
theorem OwnRo.mono {w : World} {base base' : Nat} {R : Rnd} (h : OwnRo w base R) (hb : base' ≤ base) : OwnRo w base' R :=
  ⟨h.q.mono hb, h.d.mono hb, h.s.mono hb, fun i hi => (h.z i hi).mono hb, h.qd, h.qz, h.dz, h.zz⟩
/-- all that is written is neither a row of numbers nor of rows of it -/
theorem OwnRo.touchT {w w' : World} {base : Nat} {R : Rnd} {S : List Nat} (h : OwnRo w base R) (ht : Touch S w w') (hS : ∀ g ∈ S, ∀ arr, w.heap[g]? ≠ some (.cells arr 2 (0, 0)) ∧ w.heap[g]? ≠ some (.cells arr 24 (0, 0))) : OwnRo w' base R := by
  have keyI : ∀ {a : Option Addr} {n : Nat} {f : Nat → Int}, VI w base a n f → VI w' base a n f := fun hv => by
    rcases hv with hv | ⟨g, e, hg, arr, h1, h2⟩
    · exact .inl hv
    · exact .inr ⟨g, e, hg, arr, (ht.block g (blk_lt h1) (fun hx => (hS g hx arr).1 h1)).trans h1, h2⟩
  have keyO : ∀ {a : Option Addr} {n : Nat} {f : Nat → Int}, VO w base a n f → VO w' base a n f := fun hv => by
    rcases hv with hv | ⟨g, o, e, hg, arr, h1, h2⟩
    · exact .inl hv
    · exact .inr ⟨g, o, e, hg, arr, (ht.block g (blk_lt h1) (fun hx => (hS g hx arr).1 h1)).trans h1, h2⟩
  refine ⟨keyI h.q, keyI h.d, ?_, fun i hi => keyO (h.z i hi), h.qd, h.qz, h.dz, h.zz⟩
  rcases h.s with hv | ⟨g, e, hg, arr, h1, h2⟩
  · exact .inl hv
  · exact .inr ⟨g, e, hg, arr, (ht.block g (blk_lt h1) (fun hx => (hS g hx arr).2 h1)).trans h1, h2⟩
/-- a round in its box, on its way -/
structure RepO (w : World) (base top gb gD gS : Nat) (X : Rnd) : Prop where
  box : w.heap[gb]? = some (.cells X.cells 27 (0, 0))
  own : OwnRo w base X
  ad : X.aD = some ⟨gD, 0, none⟩
  as_ : X.aS = some ⟨gS, 0, none⟩
  cap : ∀ i, i < X.nS → X.L i ≤ X.C i
  pos : 1 ≤ X.nQ ∧ X.nD = X.nQ ∧ X.nS = X.nQ
  hi : (∀ x ∈ blkI X.aQ X.nQ, x < top) ∧ gD < top ∧ gS < top ∧ gb < top ∧ ∀ i, i < X.nS → ∀ x ∈ blkI (X.A i) (X.L i), x < top
section
variable {w w' : World} {base top gb gD gS : Nat} {X : Rnd}
theorem RepO.up (h : RepO w base top gb gD gS X) (hb : Below w.heap.size w w') : RepO w' base top gb gD gS X :=
  ⟨(hb.block _ (blk_lt h.box)).trans h.box, h.own.up hb, h.ad, h.as_, h.cap, h.pos, h.hi⟩
theorem RepO.rowD (h : RepO w base top gb gD gS X) : RowTo gD 2 X.nQ (fun i => .int .i64 (X.d i)) X.nQ w ∧ base ≤ gD := by
  have hp := h.pos
  rcases h.own.d with h0 | ⟨g, e, hb, hr⟩
  · omega
  · rw [h.ad] at e
    cases e
    rw [hp.2.1] at hr
    exact ⟨hr, hb⟩
theorem RepO.rowS (h : RepO w base top gb gD gS X) : RowTo gS 24 X.nQ (fun i => .slice (X.A i) (X.L i) (X.C i)) X.nQ w ∧ base ≤ gS := by
  have hp := h.pos
  rcases h.own.s with h0 | ⟨g, e, hb, hr⟩
  · omega
  · rw [h.as_] at e
    cases e
    rw [hp.2.2] at hr
    exact ⟨hr, hb⟩
theorem RepO.ne (h : RepO w base top gb gD gS X) : gb ≠ gD ∧ gb ≠ gS ∧ gD ≠ gS := by
  obtain ⟨⟨a1, k1, _⟩, _⟩ := h.rowD
  obtain ⟨⟨a2, k2, _⟩, _⟩ := h.rowS
  have k0 := h.box
  refine ⟨fun e => ?_, fun e => ?_, fun e => ?_⟩
  · rw [e, k1] at k0; simp at k0
  · rw [e, k2] at k0; simp at k0
  · rw [e, k2] at k1; simp at k1
/-- what a cell of the box that is written leaves -/
theorem RepO.boxSet (h : RepO w base top gb gD gS X) {Y : Rnd} (i : Nat) (v : Value) (hc : Y.cells = X.cells.setIfInBounds i v) (hY : Y = { X with turn := Y.turn, fresh := Y.fresh }) : RepO (w.setCell ⟨gb, i, none⟩ v) base top gb gD gS Y := by
  have ht : Touch [gb] w (w.setCell ⟨gb, i, none⟩ v) := (Touch.refl _ _).set (by simp) i v
  have ho := h.own.touchT ht (fun g hg arr => by
    simp at hg
    subst hg
    rw [h.box]
    simp)
  have hbx : (w.setCell ⟨gb, i, none⟩ v).heap[gb]? = some (.cells Y.cells 27 (0, 0)) := by rw [hc]; exact blk_set h.box v
  rw [hY] at hbx ⊢
  exact ⟨hbx, ⟨ho.q, ho.d, ho.s, ho.z, ho.qd, ho.qz, ho.dz, ho.zz⟩, h.ad, h.as_, h.cap, h.pos, h.hi⟩
/-- a deficit written -/
theorem RepO.def (h : RepO w base top gb gD gS X) {c : Nat} (hc : c < X.nQ) (v : Int) : RepO (w.setCell ⟨gD, c, none⟩ (.int .i64 v)) base top gb gD gS (X.defTo c v) := by
  obtain ⟨n1, n2, n3⟩ := h.ne
  obtain ⟨hrow, hbd⟩ := h.rowD
  obtain ⟨hrowS, _⟩ := h.rowS
  have hp := h.pos
  have ht : Touch [gD] w (w.setCell ⟨gD, c, none⟩ (.int .i64 v)) := (Touch.refl _ _).set (by simp) c _
  have hin : gD ∈ blkI X.aD X.nD := by rw [h.ad]; exact blkI_mem (by omega)
  have nin : ∀ {a : Option Addr} {n : Nat}, apartI X.aD X.nD a n → ∀ x ∈ blkI a n, x ∉ [gD] := fun ha x hx hx2 => by
    simp at hx2
    subst hx2
    exact ha _ hin hx
  refine ⟨(blk_set_ne n1 _).trans h.box, ⟨h.own.q.touchS ht (nin h.own.qd.symm), ?_, ?_, fun i hi => (h.own.z i hi).touchS ht (nin (h.own.dz i hi)), h.own.qd, h.own.qz, h.own.dz, h.own.zz⟩, h.ad, h.as_, h.cap, h.pos, h.hi⟩
  · show VI _ base X.aD X.nD (updI X.d c v)
    have hd := h.own.d
    rw [h.ad] at hd ⊢
    exact hd.set (by omega) v
  · show VS _ base X.aS X.nS _
    rcases h.own.s with h0 | ⟨g, e, hb, hr⟩
    · exact .inl h0
    · refine .inr ⟨g, e, hb, hr.keep (blk_set_ne (fun e2 => ?_) _)⟩
      rw [h.as_] at e
      cases e
      exact n3 e2.symm
theorem blkO_sub {g o o' n n' : Nat} (h : n' ≠ 0 → n ≠ 0) : ∀ x ∈ blkI (some ⟨g, o', none⟩) n', x ∈ blkI (some ⟨g, o, none⟩) n := fun x hx => by
  unfold blkI at hx ⊢
  split at hx
  · simp at hx
  · rename_i h0
    rw [if_neg (h h0)]
    exact hx
/-- the first of a class taken away -/
theorem RepO.cut (h : RepO w base top gb gD gS X) {c gz oz o' : Nat} (hc : c < X.nQ) (hA : X.A c = some ⟨gz, oz, none⟩) (hL : X.L c ≠ 0) (ho : X.C c ≠ 1 → o' = oz + 1) :
    RepO (w.setCell ⟨gS, c, none⟩ (.slice (some ⟨gz, o', none⟩) (X.L c - 1) (X.C c - 1))) base top gb gD gS (X.cut c (some ⟨gz, o', none⟩) (X.C c - 1)) := by
  obtain ⟨n1, n2, n3⟩ := h.ne
  obtain ⟨hrowS, hbS⟩ := h.rowS
  obtain ⟨hrow, hbd⟩ := h.rowD
  have hp := h.pos
  have hcs : c < X.nS := by omega
  have hcap := h.cap c hcs
  have ht : Touch [gS] w (w.setCell ⟨gS, c, none⟩ (.slice (some ⟨gz, o', none⟩) (X.L c - 1) (X.C c - 1))) := (Touch.refl _ _).set (by simp) c _
  obtain ⟨arrS, hkS, _⟩ := hrowS
  have keyI : ∀ {a : Option Addr} {n : Nat} {f : Nat → Int}, VI w base a n f → VI (w.setCell ⟨gS, c, none⟩ (.slice (some ⟨gz, o', none⟩) (X.L c - 1) (X.C c - 1))) base a n f := fun hv => hv.touchS ht (fun x hx hx2 => by
    simp at hx2
    subst hx2
    exact notInI hv (by decide) hkS hx)
  have keyO : ∀ {a : Option Addr} {n : Nat} {f : Nat → Int}, VO w base a n f → VO (w.setCell ⟨gS, c, none⟩ (.slice (some ⟨gz, o', none⟩) (X.L c - 1) (X.C c - 1))) base a n f := fun hv => hv.touchS ht (fun x hx hx2 => by
    simp at hx2
    subst hx2
    exact notInO hv (by decide) hkS hx)
  have hLc : updN X.L c (X.L c - 1) c = X.L c - 1 := updN_self _ _ _
  have hZc : updZ X.z c (fun j => X.z c (j + 1)) c = fun j => X.z c (j + 1) := updZ_self _ _ _
  have hsub : ∀ x ∈ blkI (some (⟨gz, o', none⟩ : Addr)) (X.L c - 1), x ∈ blkI (X.A c) (X.L c) := fun x hx => by rw [hA]; exact blkO_sub (fun _ => hL) x hx
  have hz : VO w base (some ⟨gz, o', none⟩) (X.L c - 1) (fun j => X.z c (j + 1)) := by
    by_cases h1 : X.L c - 1 = 0
    · exact .inl h1
    · rcases h.own.z c hcs with h0 | ⟨g, o, e, hb, hr⟩
      · exact absurd h0 hL
      · rw [hA] at e
        cases e
        rw [ho (by omega)]
        have e2 : X.L c = X.L c - 1 + 1 := by omega
        rw [e2] at hr
        exact .inr ⟨_, _, rfl, hb, hr.drop⟩
  refine ⟨(blk_set_ne n2 _).trans h.box, ⟨keyI h.own.q, keyI h.own.d, ?_, fun i hi => ?_, h.own.qd, fun i hi => ?_, fun i hi => ?_, fun i j hi hj hne => ?_⟩, h.ad, h.as_, fun i hi => ?_, h.pos, h.hi.1, h.hi.2.1, h.hi.2.2.1, h.hi.2.2.2.1, fun i hi x hx => ?_⟩
  · rcases h.own.s with h0 | ⟨g, e, hb, arr, k1, k2, k3⟩
    · omega
    have e0 := e
    rw [h.as_] at e0
    cases e0
    refine .inr ⟨gS, e, hb, _, blk_set k1 _, by simpa [Rnd.cut] using k2, fun i hi => ?_⟩
    show _ = some (Value.slice (if i = c then _ else X.A i) (updN X.L c (X.L c - 1) i) (if i = c then _ else X.C i))
    by_cases e1 : i = c
    · subst e1
      rw [hLc]
      simp only [if_true]
      exact Array.getElem?_setIfInBounds_self_of_lt (by omega)
    · rw [Array.getElem?_setIfInBounds_ne (by omega), k3 i hi, if_neg e1, if_neg e1, updN_ne e1]
  · show VO _ base (if i = c then _ else X.A i) (updN X.L c (X.L c - 1) i) (updZ X.z c (fun j => X.z c (j + 1)) i)
    by_cases e : i = c
    · subst e
      rw [hLc, hZc]
      simp only [if_true]
      exact keyO hz
    · rw [updN_ne e, updZ_ne e]
      simp only [if_neg e]
      exact keyO (h.own.z i hi)
  · show apartI X.aQ X.nQ (if i = c then _ else X.A i) (updN X.L c (X.L c - 1) i)
    by_cases e : i = c
    · subst e
      rw [hLc]
      simp only [if_true]
      exact fun x hx hy => h.own.qz i hi x hx (hsub x hy)
    · rw [updN_ne e]
      simp only [if_neg e]
      exact h.own.qz i hi
  · show apartI X.aD X.nD (if i = c then _ else X.A i) (updN X.L c (X.L c - 1) i)
    by_cases e : i = c
    · subst e
      rw [hLc]
      simp only [if_true]
      exact fun x hx hy => h.own.dz i hi x hx (hsub x hy)
    · rw [updN_ne e]
      simp only [if_neg e]
      exact h.own.dz i hi
  · show apartI (if i = c then _ else X.A i) (updN X.L c (X.L c - 1) i) (if j = c then _ else X.A j) (updN X.L c (X.L c - 1) j)
    by_cases e : i = c
    · subst e
      rw [hLc, updN_ne (Ne.symm hne)]
      simp only [if_true, if_neg (Ne.symm hne)]
      exact fun x hx hy => h.own.zz i j hi hj hne x (hsub x hx) hy
    · by_cases e2 : j = c
      · subst e2
        rw [hLc, updN_ne e]
        simp only [if_true, if_neg e]
        exact fun x hx hy => h.own.zz i j hi hj hne x hx (hsub x hy)
      · rw [updN_ne e, updN_ne e2]
        simp only [if_neg e, if_neg e2]
        exact h.own.zz i j hi hj hne
  · show updN X.L c (X.L c - 1) i ≤ (if i = c then X.C c - 1 else X.C i)
    by_cases e : i = c
    · subst e
      rw [hLc, if_pos rfl]
      omega
    · rw [updN_ne e, if_neg e]
      exact h.cap i hi
  · change x ∈ blkI (if i = c then _ else X.A i) (updN X.L c (X.L c - 1) i) at hx
    by_cases e : i = c
    · subst e
      rw [hLc, if_pos rfl] at hx
      exact h.hi.2.2.2.2 i hi x (hsub x hx)
    · rw [updN_ne e, if_neg e] at hx
      exact h.hi.2.2.2.2 i hi x hx
/-- all that is written lies behind it -/
theorem RepO.touchNew {S : List Nat} (h : RepO w base top gb gD gS X) (ht : Touch S w w') (hS : ∀ x ∈ S, top ≤ x) : RepO w' base top gb gD gS X := by
  obtain ⟨h1, h2, h3, h4, h5⟩ := h.hi
  have hp := h.pos
  refine ⟨(ht.block _ (blk_lt h.box) (fun hx => by have := hS _ hx; omega)).trans h.box, ⟨h.own.q.touchS ht (fun x hx hx2 => by have := hS x hx2; have := h1 x hx; omega), h.own.d.touchS ht (fun x hx hx2 => ?_), ?_, fun i hi => (h.own.z i hi).touchS ht (fun x hx hx2 => by have := hS x hx2; have := h5 i hi x hx; omega), h.own.qd, h.own.qz, h.own.dz, h.own.zz⟩, h.ad, h.as_, h.cap, h.pos, h.hi⟩
  · rw [h.ad] at hx
    have : x = gD := by
      unfold blkI at hx
      split at hx
      · simp at hx
      · simpa using hx
    have := hS x hx2
    omega
  · rcases h.own.s with h0 | ⟨g, e, hb, hr⟩
    · exact .inl h0
    · refine .inr ⟨g, e, hb, hr.keep (ht.block g hr.lt (fun hx => ?_))⟩
      have := hS g hx
      rw [h.as_] at e
      cases e
      omega
/-- the cells of the box -/
theorem RepO.cb (h : RepO w base top gb gD gS X) : ∀ o, w.cell? ⟨gb, o, none⟩ = (#[.slice X.aQ X.nQ X.cQ, .slice (some ⟨gD, 0, none⟩) X.nQ X.cD, .int .i64 X.turn, .bool X.fresh, .slice (some ⟨gS, 0, none⟩) X.nQ X.cS] : Array Value)[o]? := fun o => by
  rw [blk_cell h.box, Rnd.cells, h.ad, h.as_, h.pos.2.1, h.pos.2.2]
theorem RepO.cd (h : RepO w base top gb gD gS X) {c : Nat} (hc : c < X.nQ) : w.cell? ⟨gD, c, none⟩ = some (.int .i64 (X.d c)) := h.rowD.1.at c hc
theorem RepO.cs (h : RepO w base top gb gD gS X) {c : Nat} (hc : c < X.nQ) : w.cell? ⟨gS, c, none⟩ = some (.slice (X.A c) (X.L c) (X.C c)) := h.rowS.1.at c hc
end
end Go.Proofs.Ytnfcmiiibkbmfaa
