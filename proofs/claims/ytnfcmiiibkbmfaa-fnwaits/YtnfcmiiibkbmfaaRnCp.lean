/- Lists of numbers copied, wherever they lie; what a round's copying has laid. -/
import Derived.Test.YtnfcmiiibkbmfaaRnMkR
namespace Go.Proofs.Ytnfcmiiibkbmfaa
open Go.RowKit
set_option linter.unusedVariables false
set_option linter.unusedSimpArgs false

theorem appendNone {W : World} {v : Value} {c : Nat} {base : Nat} (h : W.ownsRow base 2 1 v 0 []) :
    (Builtin.append_ #[24, 24] 24 #[v, .slice none 0 c]).run Try.prog W = .ok v W := by
  obtain ⟨i0, hi, hz0, hz1, hz2⟩ := info_parts info2
  rcases h.2 with ⟨rfl, _⟩ | ⟨g, cap, cur, rfl, _⟩
  · simp [Builtin.append_, run_underlying Try.underlying24, sizeOf, typeInfo, hi, Builtin.lenOf, Builtin.firstCells, loadCells, loadCellsFrom]
  · simp [Builtin.append_, run_underlying Try.underlying24, sizeOf, typeInfo, hi, Builtin.lenOf, Builtin.firstCells, loadCells, loadCellsFrom, storeCells]
/-- a slice of numbers that a call owns, room behind it and all -/
def OI (w : World) (base : Nat) (a : Option Addr) (n c : Nat) (f : Nat → Int) : Prop := w.ownsRow base 2 1 (.slice a n c) n (intsV n f)
def blkO (a : Option Addr) : List Nat := (a.map (·.block)).toList
theorem blkI_sub {a : Option Addr} {n x : Nat} (h : x ∈ blkI a n) : x ∈ blkO a := by
  unfold blkI at h
  split at h
  · simp at h
  · exact h
theorem OI.vi {w : World} {base : Nat} {a : Option Addr} {n c : Nat} {f : Nat → Int} (h : OI w base a n c f) : VI w base a n f := by
  obtain ⟨a', c', e, hv⟩ := own_vi h
  cases e
  exact hv
theorem OI.up {w w' : World} {base : Nat} {a : Option Addr} {n c : Nat} {f : Nat → Int} (h : OI w base a n c f) (hb : Below w.heap.size w w') : OI w' base a n c f := by
  refine ⟨h.1, h.2.imp id ?_⟩
  rintro ⟨g, cap, cur, e, hg, hbk, hr⟩
  exact ⟨g, cap, cur, e, hg, (hb.block g (blk_lt hbk)).trans hbk, hr⟩
theorem OI.touchT {w w' : World} {base : Nat} {a : Option Addr} {n c : Nat} {f : Nat → Int} {S : List Nat} (h : OI w base a n c f) (ht : Touch S w w') (hS : ∀ g arr, w.heap[g]? = some (.cells arr 2 (0, 0)) → g ∉ S) : OI w' base a n c f := by
  refine ⟨h.1, h.2.imp id ?_⟩
  rintro ⟨g, cap, cur, e, hg, hbk, hr⟩
  exact ⟨g, cap, cur, e, hg, (ht.block g (blk_lt hbk) (hS g cur hbk)).trans hbk, hr⟩
theorem OI.blk {w : World} {base : Nat} {a : Option Addr} {n c : Nat} {f : Nat → Int} (h : OI w base a n c f) : ∀ x ∈ blkO a, base ≤ x ∧ x < w.heap.size := by
  intro x hx
  rcases h.2 with ⟨e, _⟩ | ⟨g, cap, cur, e, hg, hbk, _⟩
  · cases e
    simp [blkO] at hx
  · cases e
    simp [blkO] at hx
    subst hx
    exact ⟨hg, blk_lt hbk⟩
theorem OI.mono {w : World} {base base' : Nat} {a : Option Addr} {n c : Nat} {f : Nat → Int} (h : OI w base a n c f) (hb : base' ≤ base) : OI w base' a n c f := by
  refine ⟨h.1, h.2.imp id ?_⟩
  rintro ⟨g, cap, cur, e, hg, hr⟩
  exact ⟨g, cap, cur, e, by omega, hr⟩
/-- append of a whole row, wherever it lies, to nothing -/
theorem appendA {W : World} {base : Nat} {v : Value} {a : Option Addr} {n c : Nat} {f : Nat → Int} (h : W.ownsRow base 2 1 v 0 []) (hb : base ≤ W.heap.size) (hn : n ≤ 1048576) (hr : RdRow W a n fun i => .int .i64 (f i)) :
    ∃ a' c' W', (Builtin.append_ #[24, 24] 24 #[v, .slice a n c]).run Try.prog W = .ok (.slice a' n c') W' ∧ OI W' base a' n c' f ∧ W.grownBy W' v.ownBlock ∧ (∀ x ∈ blkO a', some x = v.ownBlock ∨ x = W.heap.size) := by
  have fin : ∀ (v' : Value) (W' : World), W'.ownsRow base 2 1 v' n (intsV n f) → (v'.ownBlock = v.ownBlock ∨ v'.ownBlock = some W.heap.size) → ∃ a' c', v' = .slice a' n c' ∧ OI W' base a' n c' f ∧ (∀ x ∈ blkO a', some x = v.ownBlock ∨ x = W.heap.size) := by
    intro v' W' h2 h5
    obtain ⟨a', c', rfl, hv⟩ := own_vi h2
    refine ⟨a', c', rfl, h2, fun x hx => ?_⟩
    cases a' with
    | none => simp [blkO] at hx
    | some ad =>
      simp [blkO] at hx
      subst hx
      rcases h5 with h5 | h5
      · exact .inl (by rw [← h5]; rfl)
      · right
        simpa [Value.ownBlock] using h5
  by_cases h0 : n = 0
  · subst h0
    cases a with
    | none =>
      obtain ⟨a', c', rfl, hv, hx⟩ := fin v W (by simpa [intsV] using h) (.inl rfl)
      exact ⟨a', c', W, appendNone h, hv, ⟨rfl, rfl, rfl, Nat.le_refl _, fun _ _ _ => rfl⟩, hx⟩
    | some ad =>
      obtain ⟨i0, hi, hz0, hz1, hz2⟩ := info_parts info2
      obtain ⟨v', w', hr', h2, h3, h4, h5⟩ := run_append_own_at (P := Try.prog) W base 24 24 2 i0 (.int .i64 0) 1 8 Try.underlying24 hi hz0 hz1 hz2 rfl (by decide) v 0 [] h ad 0 c [] rfl (fun j u hj => by simp at hj) (fun u hu => by simp at hu) (by unfold maxLen; omega) (by omega) hb
      obtain ⟨a', c', rfl, hv, hx⟩ := fin v' w' (by simpa [intsV] using h2) h5
      exact ⟨a', c', w', hr', hv, h3, hx⟩
  · obtain ⟨g, q, rfl, _⟩ := hr 0 (by omega)
    obtain ⟨i0, hi, hz0, hz1, hz2⟩ := info_parts info2
    obtain ⟨v', w', hr', h2, h3, h4, h5⟩ := run_append_own_at (P := Try.prog) W base 24 24 2 i0 (.int .i64 0) 1 8 Try.underlying24 hi hz0 hz1 hz2 rfl (by decide) v 0 [] h ⟨g, q, none⟩ n c (intsV n f) (by rw [intsV_len]; omega) (fun j u hj => by
      obtain ⟨hjn, rfl⟩ := intsV_get hj
      have e : (⟨g, q, none⟩ : Addr).add j = ⟨g, q + j, none⟩ := by unfold Addr.add; split <;> simp_all
      rw [e]
      obtain ⟨g', o', e, hc⟩ := hr j hjn
      cases e
      exact hc) (fun u hu => by
      obtain ⟨j, _, rfl⟩ := List.mem_map.1 hu
      rfl) (by unfold maxLen; omega) (by omega) hb
    rw [Nat.zero_add, List.nil_append] at h2
    obtain ⟨a', c', rfl, hv, hx⟩ := fin v' w' h2 h5
    exact ⟨a', c', w', hr', hv, h3, hx⟩
theorem copyOfA_any (a : Option Addr) (n cap : Nat) (f : Nat → Int) (w : World) (hn : n ≤ 1048576) (h : RdRow w a n fun i => .int .i64 (f i)) :
    Calls Try.prog 33 #[.slice a n cap] w fun e w' => ∃ a' c', e = .returned (.slice a' n c') ∧ OI w' w.heap.size a' n c' f ∧ Below w.heap.size w w' := by
  obtain ⟨a', c', W', hr, hv, hg, hp⟩ := appendA (W := w) (base := w.heap.size) (v := .slice none 0 0) (c := cap) (World.ownsRow_nil _ _ _ _) (Nat.le_refl _) hn h
  have hB : Below w.heap.size w W' := (Below.refl _ _).grown hg (Nat.le_refl _) (fun k e => by simp [Value.ownBlock] at e)
  have HV : Hid (OI W' w.heap.size a' n c' f) := hv
  clear hv hg hp h
  go_enter Try.func33, Try.ntmps33
  go_wp2_with (at_builtin; refine Lib.wpList_append_run _ rfl _ _ _ _ rfl _ _ rfl rfl _ _ hr ?_)
  go_ret
  exact ⟨_, _, rfl, HV.out, hB⟩
theorem apart_old {W W' : World} {base b2 : Nat} {a a' : Option Addr} {n n' : Nat} {f f' : Nat → Int} (h : VI W base a n f) (h' : VI W' b2 a' n' f') (hb : W.heap.size ≤ b2) : apartI a n a' n' := by
  intro x hx hy
  have h1 := (h.blk x hx).2
  have h2 := (h'.blk x hy).1
  omega
theorem apart_oldO {W W' : World} {base b2 : Nat} {a a' : Option Addr} {n n' c' : Nat} {f f' : Nat → Int} (h : VI W base a n f) (h' : OI W' b2 a' n' c' f') (hb : W.heap.size ≤ b2) : ∀ x ∈ blkI a n, x ∉ blkO a' := by
  intro x hx hy
  have h1 := (h.blk x hx).2
  have h2 := (h'.blk x hy).1
  omega
theorem apart_oldOO {W W' : World} {base b2 : Nat} {a a' : Option Addr} {n c n' c' : Nat} {f f' : Nat → Int} (h : OI W base a n c f) (h' : OI W' b2 a' n' c' f') (hb : W.heap.size ≤ b2) : ∀ x ∈ blkO a, x ∉ blkO a' := by
  intro x hx hy
  have h1 := (h.blk x hx).2
  have h2 := (h'.blk x hy).1
  omega
/-- a round whose sizes are copied up to k -/
structure Cp (R : Rnd) (base : Nat) (W : World) (aQ : Option Addr) (aD : Option Addr) (gS : Nat) (A : Nat → Option Addr) (C : Nat → Nat) (k : Nat) : Prop where
  q : VI W base aQ R.nQ R.q
  d : VI W base aD R.nD R.d
  s : VS W base (some ⟨gS, 0, none⟩) R.nS fun i => if i < k then .slice (A i) (R.L i) (C i) else .slice none 0 0
  z : ∀ i, i < k → OI W base (A i) (R.L i) (C i) (R.z i)
  qd : apartI aQ R.nQ aD R.nD
  qz : ∀ i, i < k → ∀ x ∈ blkI aQ R.nQ, x ∉ blkO (A i)
  dz : ∀ i, i < k → ∀ x ∈ blkI aD R.nD, x ∉ blkO (A i)
  zz : ∀ i j, i < k → j < k → i ≠ j → ∀ x ∈ blkO (A i), x ∉ blkO (A j)
theorem Cp.up {R : Rnd} {base : Nat} {W W' : World} {aQ aD : Option Addr} {gS : Nat} {A : Nat → Option Addr} {C : Nat → Nat} {k : Nat} (h : Cp R base W aQ aD gS A C k) (hb : Below W.heap.size W W') : Cp R base W' aQ aD gS A C k :=
  ⟨h.q.up hb, h.d.up hb, h.s.up hb, fun i hi => (h.z i hi).up hb, h.qd, h.qz, h.dz, h.zz⟩
/-- .. and another one -/
theorem Cp.next {R : Rnd} {base : Nat} {W W' : World} {aQ aD : Option Addr} {gS : Nat} {A : Nat → Option Addr} {C : Nat → Nat} {k : Nat} {a' : Option Addr} {c' : Nat} (h : Cp R base W aQ aD gS A C k) (hk : k < R.nS) (hb : Below W.heap.size W W') (hB : base ≤ W.heap.size)
    (hv : OI W' W.heap.size a' (R.L k) c' (R.z k)) : Cp R base (W'.setCell ⟨gS, k, none⟩ (.slice a' (R.L k) c')) aQ aD gS (fun i => if i = k then a' else A i) (fun i => if i = k then c' else C i) (k + 1) := by
  have h1 := h.up hb
  rcases h1.s with h0 | ⟨g, hg, hbg, hr⟩
  · omega
  cases hg
  have ht : Touch [gS] W' (W'.setCell ⟨gS, k, none⟩ (.slice a' (R.L k) c')) := (Touch.refl _ _).set (by simp) k _
  have key : ∀ {a : Option Addr} {n b2 : Nat} {f : Nat → Int}, VI W' b2 a n f → VI (W'.setCell ⟨gS, k, none⟩ (.slice a' (R.L k) c')) b2 a n f := fun hv => hv.touchS ht (fun x hx hx2 => by
    simp at hx2
    subst hx2
    obtain ⟨arr, h2, _⟩ := hr
    exact notInI hv (by decide) h2 hx)
  have keyO : ∀ {a : Option Addr} {n c b2 : Nat} {f : Nat → Int}, OI W' b2 a n c f → OI (W'.setCell ⟨gS, k, none⟩ (.slice a' (R.L k) c')) b2 a n c f := fun hv => hv.touchT ht (fun g arr hg hx2 => by
    simp at hx2
    subst hx2
    obtain ⟨arr', h2, _⟩ := hr
    rw [hg] at h2
    simp at h2)
  refine ⟨key h1.q, key h1.d, .inr ⟨gS, rfl, hbg, ?_⟩, fun i hi => ?_, h.qd, fun i hi => ?_, fun i hi => ?_, fun i j hi hj hne => ?_⟩
  · obtain ⟨arr, h2, h3, h4⟩ := hr
    refine ⟨_, blk_set h2 _, by simpa using h3, fun i hi => ?_⟩
    by_cases e : i = k
    · subst e
      dsimp only
      rw [if_pos (show i < i + 1 by omega), if_pos rfl, if_pos rfl]
      exact Array.getElem?_setIfInBounds_self_of_lt (by omega)
    · rw [Array.getElem?_setIfInBounds_ne (by omega), h4 i hi]
      show some (if i < k then _ else _) = some (if i < k + 1 then _ else _)
      by_cases h5 : i < k
      · rw [if_pos h5, if_pos (by omega), if_neg e, if_neg e]
      · rw [if_neg h5, if_neg (by omega)]
  · by_cases e : i = k
    · subst e
      simp only [if_true]
      exact (keyO hv).mono hB
    · simp only [if_neg e]
      exact keyO (h1.z i (by omega))
  · by_cases e : i = k
    · subst e
      simp only [if_true]
      exact apart_oldO h.q hv (Nat.le_refl _)
    · simp only [if_neg e]
      exact h.qz i (by omega)
  · by_cases e : i = k
    · subst e
      simp only [if_true]
      exact apart_oldO h.d hv (Nat.le_refl _)
    · simp only [if_neg e]
      exact h.dz i (by omega)
  · by_cases e : i = k
    · subst e
      simp only [if_true, if_neg (Ne.symm hne)]
      exact fun x hx hy => apart_oldOO (h.z j (by omega)) hv (Nat.le_refl _) x hy hx
    · by_cases e2 : j = k
      · subst e2
        simp only [if_true, if_neg e]
        exact apart_oldOO (h.z i (by omega)) hv (Nat.le_refl _)
      · simp only [if_neg e, if_neg e2]
        exact h.zz i j (by omega) (by omega) hne
/-- the copy -/
def Rnd.cp (R : Rnd) (aQ : Option Addr) (cQ : Nat) (aD : Option Addr) (cD gS : Nat) (A : Nat → Option Addr) (C : Nat → Nat) : Rnd :=
  ⟨aQ, R.nQ, cQ, R.q, aD, R.nD, cD, R.d, R.turn, R.fresh, some ⟨gS, 0, none⟩, R.nS, R.nS, A, R.L, C, R.z⟩
/-- a round that owns its rows, the sizes' with the room behind them -/
structure OwnRz (w : World) (base : Nat) (R : Rnd) : Prop where
  own : OwnRn w base R
  z : ∀ i, i < R.nS → OI w base (R.A i) (R.L i) (R.C i) (R.z i)
  qz : ∀ i, i < R.nS → ∀ x ∈ blkI R.aQ R.nQ, x ∉ blkO (R.A i)
  dz : ∀ i, i < R.nS → ∀ x ∈ blkI R.aD R.nD, x ∉ blkO (R.A i)
  zz : ∀ i j, i < R.nS → j < R.nS → i ≠ j → ∀ x ∈ blkO (R.A i), x ∉ blkO (R.A j)
theorem Cp.own {R : Rnd} {base : Nat} {W : World} {aQ aD : Option Addr} {gS : Nat} {A : Nat → Option Addr} {C : Nat → Nat} (h : Cp R base W aQ aD gS A C R.nS) (cQ cD : Nat) : OwnRz W base (R.cp aQ cQ aD cD gS A C) :=
  ⟨⟨h.q, h.d, h.s.imp id (by
    rintro ⟨g, ha, hg, hr⟩
    exact ⟨g, ha, hg, hr.ext (fun i hi => by rw [if_pos hi]; rfl)⟩), fun i hi => (h.z i hi).vi, h.qd, fun i hi x hx hy => h.qz i hi x hx (blkI_sub hy), fun i hi x hx hy => h.dz i hi x hx (blkI_sub hy), fun i j hi hj hne x hx hy => h.zz i j hi hj hne x (blkI_sub hx) (blkI_sub hy)⟩, h.z, h.qz, h.dz, h.zz⟩
theorem OwnRz.touch {w w' : World} {base : Nat} {R : Rnd} {S : List Nat} (h : OwnRz w base R) (ht : Touch S w w') (hS : ∀ x ∈ S, x < base) : OwnRz w' base R :=
  ⟨h.own.touch ht hS, fun i hi => by
    refine ⟨(h.z i hi).1, (h.z i hi).2.imp id ?_⟩
    rintro ⟨g, cap, cur, e, hg, hbk, hr⟩
    exact ⟨g, cap, cur, e, hg, (ht.block g (blk_lt hbk) (fun hx => by have := hS g hx; omega)).trans hbk, hr⟩, h.qz, h.dz, h.zz⟩
theorem OwnRz.mono {w : World} {base base' : Nat} {R : Rnd} (h : OwnRz w base R) (hb : base' ≤ base) : OwnRz w base' R := ⟨h.own.mono hb, fun i hi => (h.z i hi).mono hb, h.qz, h.dz, h.zz⟩
theorem OwnRz.up {w w' : World} {base : Nat} {R : Rnd} (h : OwnRz w base R) (hb : Below w.heap.size w w') : OwnRz w' base R := ⟨h.own.up hb, fun i hi => (h.z i hi).up hb, h.qz, h.dz, h.zz⟩
theorem cp_alike {R : Rnd} {aQ aD : Option Addr} {cQ cD gS : Nat} {A : Nat → Option Addr} {C : Nat → Nat} : Alike R (R.cp aQ cQ aD cD gS A C) := ⟨rfl, rfl, rfl, rfl, rfl, rfl, rfl, rfl, rfl⟩
end Go.Proofs.Ytnfcmiiibkbmfaa
