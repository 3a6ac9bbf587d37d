/- A round on its way: what a turn, a grant, a take leave of it. -/
import Derived.Test.YtnfcmiiibkbmfaaPkA
namespace Go.Proofs.Ytnfcmiiibkbmfaa
open Go.RowKit
set_option linter.unusedVariables false
set_option linter.unusedSimpArgs false

/-- kept where all blocks of numbers and of rows are -/
def KeptT (S : List Nat) (w w' : World) : Prop := ∀ (g : Nat) (arr : Array Value) (t : TypeId), t = 2 ∨ t = 24 → g ∉ S → w.heap[g]? = some (.cells arr t (0, 0)) → w'.heap[g]? = w.heap[g]?
theorem RowTo.keptT {g n k : Nat} {t : TypeId} {f : Nat → Value} {w w' : World} {S : List Nat} (h : RowTo g t n f k w) (hk : KeptT S w w') (ht : t = 2 ∨ t = 24) (hg : g ∉ S) : RowTo g t n f k w' := by
  obtain ⟨arr, h1, h2⟩ := h
  exact RowTo.keep ⟨arr, h1, h2⟩ (hk g arr t ht hg h1)
theorem VI.keptT {w w' : World} {base : Nat} {a : Option Addr} {n : Nat} {f : Nat → Int} {S : List Nat} (h : VI w base a n f) (hk : KeptT S w w') (hg : ∀ x ∈ blkI a n, x ∉ S) : VI w' base a n f := by
  by_cases h0 : n = 0
  · exact .inl h0
  rcases h with h1 | ⟨g, rfl, hb, hr⟩
  · exact absurd h1 h0
  · exact .inr ⟨g, rfl, hb, hr.keptT hk (.inl rfl) (hg g (blkI_mem h0))⟩
theorem VS.keptT {w w' : World} {base : Nat} {a : Option Addr} {n : Nat} {F : Nat → Value} {S : List Nat} (h : VS w base a n F) (hk : KeptT S w w') (hg : ∀ x ∈ blkI a n, x ∉ S) : VS w' base a n F := by
  by_cases h0 : n = 0
  · exact .inl h0
  rcases h with h1 | ⟨g, rfl, hb, hr⟩
  · exact absurd h1 h0
  · exact .inr ⟨g, rfl, hb, hr.keptT hk (.inr rfl) (hg g (blkI_mem h0))⟩
theorem OwnRn.keptT {w w' : World} {base : Nat} {R : Rnd} (h : OwnRn w base R) (hk : KeptT [] w w') : OwnRn w' base R :=
  ⟨h.q.keptT hk (fun _ _ => by simp), h.d.keptT hk (fun _ _ => by simp), h.s.keptT hk (fun _ _ => by simp), fun i hi => (h.z i hi).keptT hk (fun _ _ => by simp), h.qd, h.qz, h.dz, h.zz⟩
theorem KeptT.ofTouch {w w' : World} {g : Nat} {cs : Array Value} (ht : Touch [g] w w') (hg : w.heap[g]? = some (.cells cs 27 (0, 0))) : KeptT [] w w' := fun k arr t h1 _ h2 => ht.block k (blk_lt h2) (fun hx => by
  simp at hx
  subst hx
  rw [hg] at h2
  simp at h2
  rcases h1 with rfl | rfl
  · exact absurd h2.2 (by decide)
  · exact absurd h2.2 (by decide))
theorem Rep.up {w w' : World} {base gb gD : Nat} {X : Rnd} (h : Rep w base gb gD X X) (hb : Below w.heap.size w w') : Rep w' base gb gD X X :=
  ⟨(hb.block _ (blk_lt h.box)).trans h.box, h.own.up hb, Alike.refl _, h.ad, h.cap⟩
/-- a new turn laid into the box -/
theorem Rep.turn {w : World} {base gb gD : Nat} {X : Rnd} (h : Rep w base gb gD X X) : Rep (w.setRow gb (turnR X).cells) base gb gD (turnR X) (turnR X) :=
  have o := h.own.keptT (KeptT.ofTouch (setRow_touchR w gb (turnR X).cells) h.box)
  ⟨setRow_blkR h.box, ⟨o.q, o.d, o.s, o.z, o.qd, o.qz, o.dz, o.zz⟩, Alike.refl _, h.ad, h.cap⟩
/-- a deficit written -/
def Rnd.defTo (X : Rnd) (c : Nat) (v : Int) : Rnd := { X with d := updI X.d c v }
theorem VI.set {w : World} {base g c n : Nat} {f : Nat → Int} (h : VI w base (some ⟨g, 0, none⟩) n f) (hc : c < n) (v : Int) : VI (w.setCell ⟨g, c, none⟩ (.int .i64 v)) base (some ⟨g, 0, none⟩) n (updI f c v) := by
  rcases h with h | ⟨g', e, hb, arr, h1, h2, h3⟩
  · omega
  cases e
  refine .inr ⟨g, rfl, hb, _, blk_set h1 _, by simpa using h2, fun i hi => ?_⟩
  by_cases e : i = c
  · subst e
    rw [Array.getElem?_setIfInBounds_self_of_lt (by omega)]
    show some (Value.int .i64 v) = some (Value.int .i64 (updI f i v i))
    rw [updI_self]
  · rw [Array.getElem?_setIfInBounds_ne (by omega)]
    show arr[i]? = some (Value.int .i64 (updI f c v i))
    rw [updI_ne e]
    exact h3 i hi
theorem KeptT.set (w : World) (g c : Nat) (v : Value) : KeptT [g] w (w.setCell ⟨g, c, none⟩ v) := fun k arr t _ hn _ => blk_set_ne (by
  intro e
  subst e
  exact hn (by simp)) v
theorem Rep.def {w : World} {base gb gD c : Nat} {X : Rnd} (h : Rep w base gb gD X X) (hc : c < X.nD) (v : Int) : Rep (w.setCell ⟨gD, c, none⟩ (.int .i64 v)) base gb gD (X.defTo c v) (X.defTo c v) := by
  have hk := KeptT.set w gD c (.int .i64 v)
  have h0 : ¬ X.nD = 0 := by omega
  have hin : gD ∈ blkI X.aD X.nD := by rw [h.ad]; exact blkI_mem h0
  have hdv := h.own.d
  rw [h.ad] at hdv
  have hD : ∃ arr, w.heap[gD]? = some (.cells arr 2 (0, 0)) := by
    rcases hdv with h1 | ⟨g, e, _, arr, h1, _⟩
    · exact absurd h1 h0
    · cases e; exact ⟨arr, h1⟩
  obtain ⟨arr, hD⟩ := hD
  have hnb : ¬ gD = gb := fun e => by
    subst e
    rw [h.box] at hD
    simp at hD
  have hsv : ∀ x ∈ blkI X.aS X.nS, x ∉ [gD] := fun x hx hx2 => by
    simp at hx2
    subst hx2
    by_cases h1 : X.nS = 0
    · unfold blkI at hx; rw [if_pos h1] at hx; simp at hx
    rcases h.own.s with h2 | ⟨g, e, _, a2, h2, _⟩
    · exact h1 h2
    · rw [e] at hx
      unfold blkI at hx
      rw [if_neg h1] at hx
      simp at hx
      subst hx
      rw [hD] at h2
      simp at h2
  have nin : ∀ {a : Option Addr} {n : Nat}, apartI X.aD X.nD a n → ∀ x ∈ blkI a n, x ∉ [gD] := fun ha x hx hx2 => by
    simp at hx2
    subst hx2
    exact ha _ hin hx
  refine ⟨(blk_set_ne (fun e => hnb e.symm) _).trans h.box, ⟨h.own.q.keptT hk (nin h.own.qd.symm), ?_, h.own.s.keptT hk hsv, fun i hi => (h.own.z i hi).keptT hk (nin (h.own.dz i hi)), h.own.qd, h.own.qz, h.own.dz, h.own.zz⟩, Alike.refl _, h.ad, h.cap⟩
  show VI _ base X.aD X.nD (updI X.d c v)
  rw [h.ad]
  exact hdv.set hc v
/-- the turn begun -/
theorem Rep.begun {w : World} {base gb gD : Nat} {X : Rnd} (h : Rep w base gb gD X X) : Rep (w.setCell ⟨gb, 3, none⟩ (.bool false)) base gb gD { X with fresh := false } { X with fresh := false } :=
  have o := h.own.keptT (KeptT.ofTouch ((Touch.refl [gb] w).set (by simp) 3 (.bool false)) h.box)
  ⟨blk_set h.box _, ⟨o.q, o.d, o.s, o.z, o.qd, o.qz, o.dz, o.zz⟩, Alike.refl _, h.ad, h.cap⟩
theorem Picks.skipInv {k : Nat} {R R' : Rnd} {c : Nat} {s : Int} (h : Picks k R R' c s) (h0 : R.L R.now = 0) : ∃ k2, k = k2 + 1 ∧ Picks k2 (turnR R) R' c s := by
  cases h with
  | skip _ h => exact ⟨_, rfl, h⟩
  | short h1 => exact absurd h0 h1
  | take h1 => exact absurd h0 h1
theorem Picks.shortInv {k : Nat} {R R' : Rnd} {c : Nat} {s : Int} (h : Picks k R R' c s) (h0 : R.L R.now ≠ 0) (hd : (grantR R).d R.now < R.z R.now 0) : ∃ k2, k = k2 + 1 ∧ Picks k2 (turnR (grantR R)) R' c s := by
  cases h with
  | skip h1 => exact absurd h1 h0
  | short _ _ h => exact ⟨_, rfl, h⟩
  | take _ h1 => exact absurd hd (by omega)
theorem Picks.takeInv {k : Nat} {R R' : Rnd} {c : Nat} {s : Int} (h : Picks k R R' c s) (h0 : R.L R.now ≠ 0) (hd : R.z R.now 0 ≤ (grantR R).d R.now) : R' = takeR (grantR R) ∧ c = R.now ∧ s = R.z R.now 0 := by
  cases h with
  | skip h1 => exact absurd h1 h0
  | short _ h1 _ => exact absurd hd (by omega)
  | take _ _ => exact ⟨rfl, rfl, rfl⟩
end Go.Proofs.Ytnfcmiiibkbmfaa
