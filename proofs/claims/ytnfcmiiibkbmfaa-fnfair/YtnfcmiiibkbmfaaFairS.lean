/- Two classes' round on its way: its box, its rows, the quanta. -/
import Derived.Test.YtnfcmiiibkbmfaaFairM
import Derived.Test.YtnfcmiiibkbmfaaRnNewI
namespace Go.Proofs.Ytnfcmiiibkbmfaa
open Go.RowKit
set_option linter.unusedVariables false
set_option linter.unusedSimpArgs false

theorem OwnRo.touchF {w w' : World} {base : Nat} {R : Rnd} {S : List Nat} (h : OwnRo w base R) (ht : Touch S w w') (hS : ∀ x ∈ rBlk R, x ∉ S) : OwnRo w' base R := by
  refine ⟨h.q.touchS ht (fun x hx => hS x (by unfold rBlk; simp [hx])), h.d.touchS ht (fun x hx => hS x (by unfold rBlk; simp [hx])), ?_, fun i hi => (h.z i hi).touchS ht (fun x hx => hS x (by unfold rBlk; exact List.mem_append_right _ (zBlk_mem.2 ⟨i, hi, hx⟩))), h.qd, h.qz, h.dz, h.zz⟩
  rcases h.s with h0 | ⟨g, e, hb, hr⟩
  · exact .inl h0
  · by_cases hn : R.nS = 0
    · exact .inl hn
    refine .inr ⟨g, e, hb, hr.keep (ht.block g hr.lt (hS g ?_))⟩
    unfold rBlk
    have : g ∈ blkI R.aS R.nS := by rw [e]; exact blkI_mem hn
    simp [this]
theorem OwnRo.notBoxF {w : World} {base : Nat} {R : Rnd} (h : OwnRo w base R) {g : Nat} {arr : Array Value} (hg : w.heap[g]? = some (.cells arr 27 (0, 0))) : ∀ x ∈ rBlk R, x ∉ [g] := by
  intro x hx hx2
  simp at hx2
  subst hx2
  unfold rBlk at hx
  rcases List.mem_append.1 hx with hx | hx
  · rcases List.mem_append.1 hx with hx | hx
    · rcases List.mem_append.1 hx with hx | hx
      · exact notInI h.q (by decide) hg hx
      · exact notInI h.d (by decide) hg hx
    · rcases h.s with h0 | ⟨g', e, hb, arr', h1, _⟩
      · unfold blkI at hx; rw [if_pos h0] at hx; simp at hx
      · rw [e] at hx
        unfold blkI at hx
        split at hx
        · simp at hx
        · have hx' : x = g' := by simpa using hx
          rw [← hx', hg] at h1
          simp at h1
  · obtain ⟨i, hi, hx⟩ := zBlk_mem.1 hx
    exact notInO (h.z i hi) (by decide) hg hx
structure FS (w : World) (gq bx : Nat) (q0 q1 : Int) (X : Rnd) (W : World) : Prop where
  bel : Below w.heap.size w W
  row : W.heap[gq]? = some (.cells #[.int .i64 q0, .int .i64 q1] 2 (0, 0))
  box : W.heap[bx]? = some (.cells X.cells 27 (0, 0))
  own : OwnRo W (gq + 1) X
  ok : X.Ok
  lo : w.heap.size ≤ gq ∧ gq < bx
section
variable {w W W' : World} {gq bx : Nat} {q0 q1 : Int} {X : Rnd}
theorem FS.below (h : FS w gq bx q0 q1 X W) (hb : Below W.heap.size W W') : FS w gq bx q0 q1 X W' :=
  ⟨h.bel.trans (hb.mono h.bel.size), (hb.block _ (blk_lt h.row)).trans h.row, (hb.block _ (blk_lt h.box)).trans h.box, h.own.up hb, h.ok, h.lo⟩
theorem FS.lay (h : FS w gq bx q0 q1 X W) {Y : Rnd} (hO : OwnRo W (gq + 1) Y) (hok : Y.Ok) :
    FS w gq bx q0 q1 Y (put5 W bx (.slice Y.aQ Y.nQ Y.cQ) (.slice Y.aD Y.nD Y.cD) (.int .i64 Y.turn) (.bool Y.fresh) (.slice Y.aS Y.nS Y.cS)) := by
  have ht := put5_touch W bx (.slice Y.aQ Y.nQ Y.cQ) (.slice Y.aD Y.nD Y.cD) (.int .i64 Y.turn) (.bool Y.fresh) (.slice Y.aS Y.nS Y.cS)
  have hl := h.lo
  exact ⟨h.bel.trans (ht.below h.bel.size (fun x hx => by simp at hx; omega)), (ht.block _ (blk_lt h.row) (by simp; omega)).trans h.row, put5_blk h.box _ _ _ _ _, hO.touchF ht (hO.notBoxF h.box), hok, h.lo⟩
end
theorem waited_fair {X Y : Rnd} {c : Nat} {s q0 q1 : Int} {k : Nat} (ho : X.Ok) (hF : FairR X q0 q1 0 0) (hc : c < 2) (hs : 1 ≤ s ∧ s ≤ 5) (hk : k < 80) (hL : ∀ j, j < 2 → X.L j ≤ k) (hA : Alike (waitsM X c s true) Y) : waitsP X c s ∧ Y.Ok ∧ FairR Y q0 q1 0 0 ∧ ∀ j, j < 2 → Y.L j ≤ k + 1 := by
  have hn := hF.n
  have hP : waitsP X c s := ⟨ho, ⟨by omega, by omega⟩, hs, by rw [Int.toNat_natCast]; have := hL c hc; omega⟩
  refine ⟨hP, hA.okI.2 (waitsM_okP hP), (hF.like (B := waitsM X c s true) rfl rfl rfl rfl rfl).alike hA, fun j hj => ?_⟩
  rw [hA.l]
  show (if j = ((c : Nat) : Int).toNat then X.L ((c : Nat) : Int).toNat + 1 else X.L j) ≤ k + 1
  rw [Int.toNat_natCast]
  have h1 := hL c hc
  have h2 := hL j hj
  split <;> omega
theorem waitable {X : Rnd} {c : Nat} {s q0 q1 : Int} {k : Nat} (ho : X.Ok) (hF : FairR X q0 q1 0 0) (hc : c < 2) (hs : 1 ≤ s ∧ s ≤ 5) (hk : k < 80) (hL : ∀ j, j < 2 → X.L j ≤ k) : waitsP X c s := by
  have hn := hF.n
  exact ⟨ho, ⟨by omega, by omega⟩, hs, by rw [Int.toNat_natCast]; have := hL c hc; omega⟩
/-- remainders of what is not negative -/
theorem tmod_nat (x n : Nat) (hn : 0 < n) : ∃ r : Nat, (x : Int).tmod (n : Int) = (r : Int) ∧ r < n := by
  refine ⟨x % n, ?_, Nat.mod_lt _ hn⟩
  rw [Int.tmod_eq_emod_of_nonneg (by omega)]
  first | exact (Int.natCast_emod x n).symm | simp
/-- a pick, behind which the shares are right -/
theorem picked_fair {X M Y : Rnd} {x s q0 q1 a b : Int} (ho : X.Ok) (hF : FairR X q0 q1 a b) (l0 : 1 < X.L 0) (l1 : 1 < X.L 1) (hp : PickM X M x s) (hA : Alike M Y) : Y.Ok ∧ 1 ≤ s ∧ s ≤ 5 ∧ 0 < Y.L 0 ∧ 0 < Y.L 1 ∧ ((x = 0 ∧ FairR Y q0 q1 (a + s) b) ∨ (x = 1 ∧ FairR Y q0 q1 a (b + s))) := by
  have hn := hF.n
  rcases hp with ⟨hno, _⟩ | ⟨_, hz, _⟩ | ⟨_, _, k, c, hp, rfl⟩
  · exact absurd ho hno
  · have := hz 0 (by omega)
    omega
  · obtain ⟨h1, h2, h3⟩ := hp.fair hF l0 l1
    obtain ⟨k1, k2, k3, k4, k5⟩ := hp.ok ho
    refine ⟨hA.okI.2 k1, k4, k5, by rw [hA.l]; exact h2, by rw [hA.l]; exact h3, ?_⟩
    rcases h1 with ⟨rfl, h⟩ | ⟨rfl, h⟩
    · exact .inl ⟨rfl, h.alike hA⟩
    · exact .inr ⟨rfl, h.alike hA⟩
end Go.Proofs.Ytnfcmiiibkbmfaa
