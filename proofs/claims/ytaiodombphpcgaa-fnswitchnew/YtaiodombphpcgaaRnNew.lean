/- Rounds made anew: lists of numbers copied, and what a round's making has laid so far. -/
import Derived.Test.YtaiodombphpcgaaRnMark
import Derived.Test.YtaiodombphpcgaaRnSOk
import Derived.Test.YtaiodombphpcgaaRnOk
import Derived.Maps.AppendAt
import Derived.Room.AppendFits
import Derived.Lib.AppendZeros
namespace Go.Proofs.Ytaiodombphpcgaa
open Go.RowKit
set_option linter.unusedVariables false
set_option linter.unusedSimpArgs false

def intsV (n : Nat) (f : Nat → Int) : List Value := (List.range n).map fun i => .int .i64 (f i)
theorem intsV_len (n : Nat) (f : Nat → Int) : (intsV n f).length = n := by simp [intsV]
theorem intsV_get {n : Nat} {f : Nat → Int} {j : Nat} {u : Value} (h : (intsV n f)[j]? = some u) : j < n ∧ u = .int .i64 (f j) := by
  have hj : j < n := by
    have := (List.getElem?_eq_some_iff.1 h).1
    rwa [intsV_len] at this
  refine ⟨hj, ?_⟩
  simp [intsV, hj] at h
  exact h.symm
theorem intsV_at {n : Nat} {f : Nat → Int} {j : Nat} (h : j < n) : (intsV n f)[j]? = some (.int .i64 (f j)) := by simp [intsV, h]
theorem own_vi {w : World} {base n : Nat} {v : Value} {f : Nat → Int} (h : w.ownsRow base 2 1 v n (intsV n f)) : ∃ a c, v = .slice a n c ∧ VI w base a n f := by
  rcases h.2 with ⟨rfl, rfl⟩ | ⟨g, cap, cur, rfl, hb, hg, hnc, hcm, hcs, htake⟩
  · exact ⟨none, 0, rfl, .inl rfl⟩
  · refine ⟨_, cap, rfl, .inr ⟨g, rfl, hb, cur, hg, by omega, fun i hi => ?_⟩⟩
    have e : (cur.toList.take (n * 1))[i]? = some (.int .i64 (f i)) := by rw [htake]; exact intsV_at hi
    rw [List.getElem?_take_of_lt (by omega)] at e
    simpa using e
/-- append of a whole row to nothing: its run -/
theorem appendV {W : World} {base : Nat} {v : Value} {g q n c : Nat} {f : Nat → Int} (h : W.ownsRow base 2 1 v 0 []) (hb : base ≤ W.heap.size) (hn : n ≤ 1048576) (hc : ∀ i, i < n → W.cell? ⟨g, q + i, none⟩ = some (.int .i64 (f i))) :
    ∃ a' c' W', (Builtin.append_ #[28, 28] 28 #[v, .slice (some ⟨g, q, none⟩) n c]).run Try.prog W = .ok (.slice a' n c') W' ∧ VI W' base a' n f ∧ W.grownBy W' v.ownBlock ∧ (∀ x ∈ blkI a' n, some x = v.ownBlock ∨ x = W.heap.size) := by
  obtain ⟨i0, hi, hz0, hz1, hz2⟩ := info_parts info2
  obtain ⟨v', w', hr, h2, h3, h4, h5⟩ := run_append_own_at (P := Try.prog) W base 28 28 2 i0 (.int .i64 0) 1 8 Try.underlying28 hi hz0 hz1 hz2 rfl (by decide) v 0 [] h ⟨g, q, none⟩ n c (intsV n f) (by rw [intsV_len]; omega) (fun j u hj => by
    obtain ⟨hjn, rfl⟩ := intsV_get hj
    have e : (⟨g, q, none⟩ : Addr).add j = ⟨g, q + j, none⟩ := by unfold Addr.add; split <;> simp_all
    rw [e]; exact hc j hjn) (fun u hu => by
    obtain ⟨j, _, rfl⟩ := List.mem_map.1 hu
    rfl) (by unfold maxLen; omega) (by omega) hb
  rw [Nat.zero_add, List.nil_append] at h2
  obtain ⟨a', c', rfl, hv⟩ := own_vi h2
  refine ⟨a', c', w', hr, hv, h3, fun x hx => ?_⟩
  unfold blkI at hx
  split at hx
  · simp at hx
  · rename_i hn0
    rcases hv with h0 | ⟨g', rfl, _, _⟩
    · exact absurd h0 hn0
    · simp at hx
      subst hx
      rcases h5 with h5 | h5
      · exact .inl h5
      · right
        simpa [Value.ownBlock] using h5
theorem copyOf_any (g q n cap : Nat) (f : Nat → Int) (w : World) (hn : n ≤ 1048576) (h : RdRow w (some ⟨g, q, none⟩) n fun i => .int .i64 (f i)) :
    Calls Try.prog 52 #[.slice (some ⟨g, q, none⟩) n cap] w fun e w' => ∃ a' c', e = .returned (.slice a' n c') ∧ VI w' w.heap.size a' n f ∧ Below w.heap.size w w' := by
  obtain ⟨a', c', W', hr, hv, hg, hp⟩ := appendV (W := w) (base := w.heap.size) (v := .slice none 0 0) (g := g) (q := q) (c := cap) (f := f) (World.ownsRow_nil _ _ _ _) (Nat.le_refl _) hn (fun i hi => by
    obtain ⟨g', o', e, hc⟩ := h i hi
    cases e
    exact hc)
  have hB : Below w.heap.size w W' := (Below.refl _ _).grown hg (Nat.le_refl _) (fun k e => by simp [Value.ownBlock] at e)
  have HV : Hid (VI W' w.heap.size a' n f) := hv
  clear hv hg hp h
  go_enter Try.func52, Try.ntmps52
  go_wp2_with (at_builtin; refine Lib.wpList_append_run _ rfl _ _ _ _ rfl _ _ rfl rfl _ _ hr ?_)
  go_ret
  exact ⟨_, _, rfl, HV.out, hB⟩

/-- a slice of slices that owns its row -/
def VS (w : World) (base : Nat) (a : Option Addr) (n : Nat) (F : Nat → Value) : Prop := n = 0 ∨ ∃ g, a = some ⟨g, 0, none⟩ ∧ base ≤ g ∧ RowTo g 28 n F n w
theorem VS.up {w w' : World} {base : Nat} {a : Option Addr} {n : Nat} {F : Nat → Value} (h : VS w base a n F) (hb : Below w.heap.size w w') : VS w' base a n F :=
  h.imp id (by rintro ⟨g, ha, hg, hr⟩; exact ⟨g, ha, hg, hr.keep (hb.block _ hr.lt)⟩)
theorem VS.mono {w : World} {base base' : Nat} {a : Option Addr} {n : Nat} {F : Nat → Value} (h : VS w base a n F) (hb : base' ≤ base) : VS w base' a n F :=
  h.imp id (by rintro ⟨g, ha, hg, hr⟩; exact ⟨g, ha, by omega, hr⟩)
theorem VS.read {w : World} {base : Nat} {a : Option Addr} {n : Nat} {F : Nat → Value} (h : VS w base a n F) : RdRow w a n F := by
  rcases h with rfl | ⟨g, rfl, _, hr⟩
  · exact RdRow.nil _ _ _
  · exact hr.read
def zRound : Array Value := #[.slice none 0 0, .slice none 0 0, .int .i64 0, .bool false, .slice none 0 0]
/-- what a round's making has laid: the empty row, the quanta, the deficits, the sizes, the round's own place -/
structure Mk (n : Nat) (f : Nat → Int) (w W : World) (E : Option Nat) (Q : Option (Option Addr)) (D S B : Option Nat) : Prop where
  below : Below w.heap.size w W
  e : ∀ g, E = some g → w.heap.size ≤ g ∧ W.heap[g]? = some (.cells #[] 2 (0, 0))
  q : ∀ a, Q = some a → VI W w.heap.size a n f
  d : ∀ g, D = some g → VI W w.heap.size (some ⟨g, 0, none⟩) n (fun _ => 0)
  s : ∀ g, S = some g → VS W w.heap.size (some ⟨g, 0, none⟩) n (fun _ => .slice none 0 0)
  b : ∀ g, B = some g → w.heap.size ≤ g ∧ W.heap[g]? = some (.cells zRound 49 (0, 0))
  qd : ∀ a g, Q = some a → D = some g → apartI a n (some ⟨g, 0, none⟩) n
theorem Mk.start {n : Nat} {f : Nat → Int} {w W : World} (h : Below w.heap.size w W) : Mk n f w W none none none none none :=
  ⟨h, fun _ e => by simp at e, fun _ e => by simp at e, fun _ e => by simp at e, fun _ e => by simp at e, fun _ e => by simp at e, fun _ _ e => by simp at e⟩
theorem Mk.up {n : Nat} {f : Nat → Int} {w W W' : World} {E : Option Nat} {Q : Option (Option Addr)} {D S B : Option Nat} (h : Mk n f w W E Q D S B) (hb : Below W.heap.size W W') : Mk n f w W' E Q D S B where
  below := h.below.trans (hb.mono h.below.size)
  e := fun g e => ⟨(h.e g e).1, (hb.block _ (blk_lt (h.e g e).2)).trans (h.e g e).2⟩
  q := fun a e => (h.q a e).up hb
  d := fun g e => (h.d g e).up hb
  s := fun g e => (h.s g e).up hb
  b := fun g e => ⟨(h.b g e).1, (hb.block _ (blk_lt (h.b g e).2)).trans (h.b g e).2⟩
  qd := h.qd
theorem apart_new {W : World} {base : Nat} {a : Option Addr} {n g : Nat} {f : Nat → Int} (h : VI W base a n f) (hg : W.heap.size ≤ g) : apartI a n (some ⟨g, 0, none⟩) n := by
  intro x hx hy
  have h1 := (h.blk x hx).2
  unfold blkI at hy
  split at hy
  · simp at hy
  · simp at hy; omega
theorem Mk.mkE {n : Nat} {f : Nat → Int} {w W : World} {Q : Option (Option Addr)} {D S B : Option Nat} (h : Mk n f w W none Q D S B) : Mk n f w (W.alloc (.cells #[] 2)) (some W.heap.size) Q D S B := by
  have h' := h.up (W' := W.alloc (.cells #[] 2)) ((Below.refl _ _).alloc (Nat.le_refl _) _)
  exact ⟨h'.below, fun g e => by cases e; exact ⟨h.below.size, blk_new _ _⟩, h'.q, h'.d, h'.s, h'.b, h'.qd⟩
theorem Mk.mkB {n : Nat} {f : Nat → Int} {w W : World} {E : Option Nat} {Q : Option (Option Addr)} {D S : Option Nat} (h : Mk n f w W E Q D S none) : Mk n f w (W.alloc (.cells zRound 49)) E Q D S (some W.heap.size) := by
  have h' := h.up (W' := W.alloc (.cells zRound 49)) ((Below.refl _ _).alloc (Nat.le_refl _) _)
  exact ⟨h'.below, h'.e, h'.q, h'.d, h'.s, fun g e => by cases e; exact ⟨h.below.size, blk_new _ _⟩, h'.qd⟩
theorem Mk.mkD {n : Nat} {f : Nat → Int} {w W : World} {E : Option Nat} {Q : Option (Option Addr)} {S B : Option Nat} (h : Mk n f w W E Q none S B) : Mk n f w (W.alloc (.cells (zInts n) 2)) E Q (some W.heap.size) S B := by
  have h' := h.up (W' := W.alloc (.cells (zInts n) 2)) ((Below.refl _ _).alloc (Nat.le_refl _) _)
  exact ⟨h'.below, h'.e, h'.q, fun g e => by cases e; exact .inr ⟨_, rfl, h.below.size, zInts_row (blk_new _ _)⟩, h'.s, h'.b, fun a g e1 e2 => by cases e2; exact apart_new (h.q a e1) (Nat.le_refl _)⟩
theorem Mk.mkS {n : Nat} {f : Nat → Int} {w W : World} {E : Option Nat} {Q : Option (Option Addr)} {D B : Option Nat} (h : Mk n f w W E Q D none B) : Mk n f w (W.alloc (.cells (zSls n) 28)) E Q D (some W.heap.size) B := by
  have h' := h.up (W' := W.alloc (.cells (zSls n) 28)) ((Below.refl _ _).alloc (Nat.le_refl _) _)
  exact ⟨h'.below, h'.e, h'.q, h'.d, fun g e => by cases e; exact .inr ⟨_, rfl, h.below.size, zSls_row (blk_new _ _)⟩, h'.b, h'.qd⟩
theorem Mk.mkQ {n : Nat} {f : Nat → Int} {w W W' : World} {E D S B : Option Nat} {a : Option Addr} (h : Mk n f w W E none D S B) (hv : VI W' W.heap.size a n f) (hb : Below W.heap.size W W') : Mk n f w W' E (some a) D S B := by
  have h' := h.up hb
  exact ⟨h'.below, h'.e, fun a' e => by cases e; exact hv.mono h.below.size, h'.d, h'.s, h'.b, fun a' g e1 e2 => by
    cases e1
    intro x hx hy
    have h1 := (hv.blk x hx).1
    have h2 := ((h.d g e2).blk x hy).2
    omega⟩
/-- the quanta appended to the empty row: that row's place is used up -/
theorem Mk.mkEQ {n : Nat} {f : Nat → Int} {w W W' : World} {D S B : Option Nat} {a : Option Addr} {gE : Nat} (h : Mk n f w W (some gE) none D S B) (hv : VI W' w.heap.size a n f) (hg : W.grownBy W' (some gE)) (hp : ∀ x ∈ blkI a n, some x = some gE ∨ x = W.heap.size) : Mk n f w W' none (some a) D S B := by
  have hE := h.e gE rfl
  have hd : ∀ g, D = some g → n ≠ 0 → g ≠ gE := fun g e h0 e2 => by
    subst e2
    rcases h.d g e with h1 | ⟨g', e3, _, arr, h2, h3, _⟩
    · exact h0 h1
    · cases e3
      rw [hE.2] at h2
      cases h2
      simp at h3
      exact h0 h3
  have hs : ∀ g, S = some g → n ≠ 0 → g ≠ gE := fun g e h0 e2 => by
    subst e2
    rcases h.s g e with h1 | ⟨g', e3, _, arr, h2, h3, _⟩
    · exact h0 h1
    · cases e3
      rw [hE.2] at h2
      cases h2
  have hbk : ∀ k, k < W.heap.size → k ≠ gE → W'.heap[k]? = W.heap[k]? := fun k hk hne => hg.block k hk (by simpa using hne)
  refine ⟨h.below.grown hg h.below.size (fun k e => by cases e; exact hE.1), fun _ e => by simp at e, fun a' e => by cases e; exact hv, fun g e => ?_, fun g e => ?_, fun g e => ?_, fun a' g e1 e2 => ?_⟩
  · by_cases h0 : n = 0
    · exact .inl h0
    · rcases h.d g e with h1 | ⟨g', e3, hg2, hr⟩
      · exact absurd h1 h0
      · cases e3
        exact .inr ⟨g, rfl, hg2, hr.keep (hbk g hr.lt (hd g e h0))⟩
  · by_cases h0 : n = 0
    · exact .inl h0
    · rcases h.s g e with h1 | ⟨g', e3, hg2, hr⟩
      · exact absurd h1 h0
      · cases e3
        exact .inr ⟨g, rfl, hg2, hr.keep (hbk g hr.lt (hs g e h0))⟩
  · have hb := h.b g e
    refine ⟨hb.1, (hbk g (blk_lt hb.2) ?_).trans hb.2⟩
    rintro rfl
    rw [hE.2] at hb
    have := hb.2
    simp at this
  · cases e1
    intro x hx hy
    have h2 := ((h.d g e2).blk x hy).2
    have h0 : n ≠ 0 := by
      intro h0
      subst h0
      simp [blkI] at hx
    have h3 : x = g := by
      unfold blkI at hy
      rw [if_neg h0] at hy
      simpa using hy
    rcases hp x hx with e | e
    · have e' : x = gE := by simpa using e
      exact hd g e2 h0 (h3 ▸ e')
    · omega
end Go.Proofs.Ytaiodombphpcgaa
