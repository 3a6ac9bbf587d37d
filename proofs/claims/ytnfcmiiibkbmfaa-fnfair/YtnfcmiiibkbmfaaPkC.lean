/- A round on its way: the first of a class taken away. -/
import Derived.Test.YtnfcmiiibkbmfaaPkB
namespace Go.Proofs.Ytnfcmiiibkbmfaa
open Go.RowKit
set_option linter.unusedVariables false
set_option linter.unusedSimpArgs false

def Rnd.cut (R : Rnd) (c : Nat) (a' : Option Addr) (c' : Nat) : Rnd :=
  { R with A := fun i => if i = c then a' else R.A i, L := updN R.L c (R.L c - 1), C := fun i => if i = c then c' else R.C i, z := updZ R.z c (fun j => R.z c (j + 1)) }
structure Cut (X : Rnd) (base gb gD : Nat) (W W2 : World) (c gS : Nat) (a' : Option Addr) (c' : Nat) : Prop where
  own : OwnRn (W2.setCell ⟨gS, c, none⟩ (.slice a' (X.L c - 1) c')) base (X.cut c a' c')
  after : (W2.setCell ⟨gS, c, none⟩ (.slice a' (X.L c - 1) c')).heap[gb]? = some (.cells X.cells 27 (0, 0))
  below : Below base W (W2.setCell ⟨gS, c, none⟩ (.slice a' (X.L c - 1) c'))
  row : RowTo gS 24 X.nS (fun i => .slice (X.A i) (X.L i) (X.C i)) X.nS W2
  box : W2.heap[gb]? = some (.cells X.cells 27 (0, 0))
theorem Rep.cut {W : World} {base gb gD c gS gz : Nat} {X : Rnd} (h : Rep W base gb gD X X) (hc : c < X.nS) (hl : X.L c ≠ 0) (hl2 : X.L c ≤ 1000) (hb : base ≤ W.heap.size) (hS : X.aS = some ⟨gS, 0, none⟩) (hA : X.A c = some ⟨gz, 0, none⟩) (cc q : Nat) (hq : q = 1 ∨ X.L c = 1) :
    ∃ a' c' W2, (Builtin.append_ #[24, 24] 24 #[.slice (some ⟨W.heap.size, 0, none⟩) 0 0, .slice (some ⟨gz, q, none⟩) (X.L c - 1) cc]).run Try.prog (W.alloc (.cells #[] 2)) = .ok (.slice a' (X.L c - 1) c') W2 ∧ Cut X base gb gD W W2 c gS a' c' := by
  have hA1 : Below W.heap.size W (W.alloc (.cells #[] 2)) := (Below.refl _ _).alloc (Nat.le_refl _) _
  have e1 : (W.alloc (.cells #[] 2)).heap.size = W.heap.size + 1 := by simp
  have hz := (h.own.z c hc).read.up hA1
  rw [hA] at hz
  obtain ⟨a', c', W2, hr, hv, h3, h4⟩ := appendV (base := base) (c := cc) (g := gz) (q := q) (n := X.L c - 1) (f := fun j => X.z c (j + 1)) (own_empty hb (blk_new W (.cells #[] 2))) (by omega) (by omega) (fun i hi => by
    rcases hq with rfl | hq
    · obtain ⟨g, o, e, hcl⟩ := hz (i + 1) (by omega)
      cases e
      rw [Nat.zero_add] at hcl
      rw [Nat.add_comm 1 i]
      exact hcl
    · omega)
  refine ⟨a', c', W2, hr, ?_⟩
  have hblk : ∀ k, k < W.heap.size → W2.heap[k]? = W.heap[k]? := fun k hk => (h3.block k (by omega) (fun e => by
    simp [Value.ownBlock] at e
    omega)).trans (hA1.block k hk)
  have hnb : ∀ x ∈ blkI a' (X.L c - 1), W.heap.size ≤ x := fun x hx => by
    rcases h4 x hx with h5 | h5
    · simp [Value.ownBlock] at h5
      omega
    · omega
  rcases h.own.s with h0 | ⟨g, hg, hbg, hrow⟩
  · omega
  rw [hS] at hg
  cases hg
  have hrow2 := hrow.keep (hblk gS hrow.lt)
  have hrow3 := hrow2
  obtain ⟨arr2, hb2, hn2, hc2⟩ := hrow2
  have ht : Touch [gS] W2 (W2.setCell ⟨gS, c, none⟩ (.slice a' (X.L c - 1) c')) := (Touch.refl _ _).set (by simp) c _
  have key2 : ∀ {a : Option Addr} {n : Nat} {f : Nat → Int}, VI W2 base a n f → VI (W2.setCell ⟨gS, c, none⟩ (.slice a' (X.L c - 1) c')) base a n f := fun hv => hv.touchS ht (fun x hx hx2 => by
    simp at hx2
    subst hx2
    exact notInI hv (by decide) hb2 hx)
  have key : ∀ {a : Option Addr} {n : Nat} {f : Nat → Int}, VI W base a n f → VI (W2.setCell ⟨gS, c, none⟩ (.slice a' (X.L c - 1) c')) base a n f := fun hv => key2 (hv.keepB (fun x hx hlt => hblk x hlt))
  have hap : ∀ {a : Option Addr} {n : Nat} {f : Nat → Int}, VI W base a n f → apartI a n a' (X.L c - 1) := fun hv x hx hy => by
    have := hnb x hy
    have := (hv.blk x hx).2
    omega
  have hbox : W2.heap[gb]? = some (.cells X.cells 27 (0, 0)) := (hblk gb (blk_lt h.box)).trans h.box
  have hgb : ¬ gb = gS := fun e => by
    subst e
    rw [hbox] at hb2
    simp at hb2
  have hLc : updN X.L c (X.L c - 1) c = X.L c - 1 := updN_self _ _ _
  have hZc : updZ X.z c (fun j => X.z c (j + 1)) c = fun j => X.z c (j + 1) := updZ_self _ _ _
  refine ⟨⟨key h.own.q, key h.own.d, .inr ⟨gS, hS, hbg, ?_⟩, fun i hi => ?_, h.own.qd, fun i hi => ?_, fun i hi => ?_, fun i j hi hj hne => ?_⟩, (blk_set_ne hgb _).trans hbox, ?_, hrow3, hbox⟩
  · refine ⟨_, blk_set hb2 _, by simpa [Rnd.cut] using hn2, fun i hi => ?_⟩
    show _ = some (Value.slice (if i = c then a' else X.A i) (updN X.L c (X.L c - 1) i) (if i = c then c' else X.C i))
    by_cases e : i = c
    · subst e
      rw [hLc]
      simp only [if_true]
      exact Array.getElem?_setIfInBounds_self_of_lt (by omega)
    · rw [Array.getElem?_setIfInBounds_ne (by omega), hc2 i hi, if_neg e, if_neg e, updN_ne e]
  · show VI _ base (if i = c then a' else X.A i) (updN X.L c (X.L c - 1) i) (updZ X.z c (fun j => X.z c (j + 1)) i)
    by_cases e : i = c
    · subst e
      rw [hLc, hZc]
      simp only [if_true]
      exact key2 hv
    · rw [updN_ne e, updZ_ne e]
      simp only [if_neg e]
      exact key (h.own.z i hi)
  · show apartI X.aQ X.nQ (if i = c then a' else X.A i) (updN X.L c (X.L c - 1) i)
    by_cases e : i = c
    · subst e
      rw [hLc]
      simp only [if_true]
      exact hap h.own.q
    · rw [updN_ne e]
      simp only [if_neg e]
      exact h.own.qz i hi
  · show apartI X.aD X.nD (if i = c then a' else X.A i) (updN X.L c (X.L c - 1) i)
    by_cases e : i = c
    · subst e
      rw [hLc]
      simp only [if_true]
      exact hap h.own.d
    · rw [updN_ne e]
      simp only [if_neg e]
      exact h.own.dz i hi
  · show apartI (if i = c then a' else X.A i) (updN X.L c (X.L c - 1) i) (if j = c then a' else X.A j) (updN X.L c (X.L c - 1) j)
    by_cases e : i = c
    · subst e
      rw [hLc, updN_ne (Ne.symm hne)]
      simp only [if_true, if_neg (Ne.symm hne)]
      exact (hap (h.own.z j hj)).symm
    · by_cases e2 : j = c
      · subst e2
        rw [hLc, updN_ne e]
        simp only [if_true, if_neg e]
        exact hap (h.own.z i hi)
      · rw [updN_ne e, updN_ne e2]
        simp only [if_neg e, if_neg e2]
        exact h.own.zz i j hi hj hne
  · have hB2 : Below base W W2 := ⟨h3.os, h3.tape, h3.output, by have := h3.size; omega, fun k hk => hblk k (by omega)⟩
    exact hB2.trans (ht.below (by have := h3.size; omega) (fun x hx => by simp at hx; subst hx; exact hbg))
theorem Cut.rep {X : Rnd} {base gb gD : Nat} {W W2 : World} {c gS : Nat} {a' : Option Addr} {c' : Nat} (h : Cut X base gb gD W W2 c gS a' c') (h1 : X.L c = 1) (had : X.aD = some ⟨gD, 0, none⟩) (hcap : ∀ i, i < X.nS → X.L i ≤ X.C i) :
    Rep (W2.setCell ⟨gS, c, none⟩ (.slice a' (X.L c - 1) c')) base gb gD (X.cut c a' c') (X.cut c a' c') := by
  refine ⟨h.after, h.own, Alike.refl _, had, fun i hi => ?_⟩
  show updN X.L c (X.L c - 1) i ≤ (if i = c then c' else X.C i)
  by_cases e : i = c
  · subst e
    rw [updN_self, h1]
    omega
  · rw [updN_ne e, if_neg e]
    exact hcap i hi
theorem updI_updI (f : Nat → Int) (c : Nat) (x y : Int) : updI (updI f c x) c y = updI f c y := by
  funext i
  unfold updI
  split <;> rfl
theorem took_alike {X : Rnd} {c : Nat} (hc : X.now = c) (h1 : X.L c ≠ 1) (a' : Option Addr) (c' : Nat) : Alike (takeR X) ((X.defTo c (X.d c - X.z c 0)).cut c a' c') := by
  subst hc
  unfold takeR
  rw [if_neg h1]
  exact ⟨rfl, rfl, rfl, rfl, rfl, rfl, rfl, rfl, rfl⟩
theorem last_alike {X : Rnd} {c : Nat} (hc : X.now = c) (h1 : X.L c = 1) (a' : Option Addr) (c' : Nat) : Alike (takeR X) (turnR (((X.defTo c (X.d c - X.z c 0)).cut c a' c').defTo c 0)) := by
  subst hc
  unfold takeR
  rw [if_pos h1]
  exact alike_turn ⟨rfl, rfl, rfl, updI_updI _ _ _ _, rfl, rfl, rfl, rfl, rfl⟩
theorem out2p {w wi : World} {A B : Array Value} {t s : TypeId} (h : Below (w.heap.size + 2) ((w.alloc (.cells A t)).alloc (.cells B s)) wi) : wi.heap[w.heap.size + 1]? = some (.cells B s (0, 0)) := by
  refine (h.block _ (by omega)).trans ?_
  have := blk_new (w.alloc (.cells A t)) (.cells B s)
  simpa using this
theorem run_cutS (gz q L C : Nat) (w : World) (hL : L ≠ 0) (hq : (if C = 1 then some (⟨gz, 0, none⟩ : Addr) else some ⟨gz, 1, none⟩) = some ⟨gz, q, none⟩) :
    (Instr.slice 24 (.slice (some ⟨gz, 0, none⟩) L C) (some (.int .i64 1)) none none).run Try.prog w = .ok (.slice (some ⟨gz, q, none⟩) (L - 1) (C - 1)) w := by
  have h1 : (1 : Int) ≤ (L : Int) := by omega
  have h2 : (some (⟨gz, 0, none⟩ : Addr)).map (·.add (1 * 1)) = some ⟨gz, 1, none⟩ := rfl
  simp [go_sem, h1]
  exact hq
end Go.Proofs.Ytnfcmiiibkbmfaa
