/- Rounds that own their rows: marked, and looked at again. -/
import Derived.Test.YtapmhpdcgghihaaRnNew2
namespace Go.Proofs.Ytapmhpdcgghihaa
open Go.RowKit
set_option linter.unusedVariables false
set_option linter.unusedSimpArgs false

theorem notInI {w : World} {base : Nat} {a : Option Addr} {n : Nat} {f : Nat → Int} (h : VI w base a n f) {g : Nat} {arr : Array Value} {t : TypeId} (ht : t ≠ 2) (hg : w.heap[g]? = some (.cells arr t (0, 0))) : g ∉ blkI a n := by
  intro hx
  unfold blkI at hx
  split at hx
  · simp at hx
  · rename_i h0
    rcases h with h1 | ⟨g', rfl, _, arr', h2, _⟩
    · exact h0 h1
    · simp at hx
      subst hx
      rw [hg] at h2
      simp at h2
      exact ht h2.2
theorem VS.touchI {w w' : World} {base : Nat} {a : Option Addr} {n : Nat} {F : Nat → Value} {S : List Nat} (h : VS w base a n F) (ht : Touch S w w') (hS : ∀ g arr, w.heap[g]? = some (.cells arr 22 (0, 0)) → g ∉ S) : VS w' base a n F :=
  h.imp id (by
    rintro ⟨g, ha, hg, hr⟩
    refine ⟨g, ha, hg, hr.keep (ht.block g hr.lt ?_)⟩
    obtain ⟨arr, h2, _⟩ := hr
    exact hS g arr h2)
theorem OwnRn.marksQ {w w' : World} {base : Nat} {R : Rnd} {f : Nat → Int} (h : OwnRn w base R) (hv : VI w' base R.aQ R.nQ f) (ht : Touch (blkI R.aQ R.nQ) w w') : OwnRn w' base { R with q := f } :=
  ⟨hv, h.d.touchS ht h.qd.symm, h.s.touchI ht (fun g arr hg => notInI h.q (by decide) hg), fun i hi => (h.z i hi).touchS ht (h.qz i hi).symm, h.qd, h.qz, h.dz, h.zz⟩
theorem OwnRn.marksD {w w' : World} {base : Nat} {R : Rnd} {f : Nat → Int} (h : OwnRn w base R) (hv : VI w' base R.aD R.nD f) (ht : Touch (blkI R.aD R.nD) w w') : OwnRn w' base { R with d := f } :=
  ⟨h.q.touchS ht h.qd, hv, h.s.touchI ht (fun g arr hg => notInI h.d (by decide) hg), fun i hi => (h.z i hi).touchS ht (h.dz i hi).symm, h.qd, h.qz, h.dz, h.zz⟩
def zBlk (R : Rnd) : List Nat := (List.range R.nS).flatMap fun i => blkI (R.A i) (R.L i)
theorem zBlk_mem {R : Rnd} {x : Nat} : x ∈ zBlk R ↔ ∃ i, i < R.nS ∧ x ∈ blkI (R.A i) (R.L i) := by simp [zBlk]
theorem OwnRn.notZ {w : World} {base : Nat} {R : Rnd} (h : OwnRn w base R) {g : Nat} {arr : Array Value} {t : TypeId} (ht : t ≠ 2) (hg : w.heap[g]? = some (.cells arr t (0, 0))) : g ∉ zBlk R := by
  intro hx
  obtain ⟨i, hi, hx⟩ := zBlk_mem.1 hx
  exact notInI (h.z i hi) ht hg hx
theorem OwnRn.marksZ {w w' : World} {base : Nat} {R : Rnd} {z : Nat → Nat → Int} (h : OwnRn w base R) (hv : ∀ i, i < R.nS → VI w' base (R.A i) (R.L i) (z i)) (ht : Touch (zBlk R) w w') : OwnRn w' base { R with z := z } :=
  ⟨h.q.touchS ht (fun x hx hx2 => by
    obtain ⟨i, hi, hx2⟩ := zBlk_mem.1 hx2
    exact h.qz i hi x hx hx2), h.d.touchS ht (fun x hx hx2 => by
    obtain ⟨i, hi, hx2⟩ := zBlk_mem.1 hx2
    exact h.dz i hi x hx hx2), h.s.touchI ht (fun g arr hg => h.notZ (by decide) hg), hv, h.qd, h.qz, h.dz, h.zz⟩
def Rnd.marked (R : Rnd) (m : Nat) : Rnd := { R with q := fun i => ((m + i : Nat) : Int), d := fun i => ((m + R.nQ + i : Nat) : Int), z := fun i j => ((m + R.nQ + R.nD + sumL R.L i + j : Nat) : Int) }
def Rnd.total (R : Rnd) (m : Nat) : Nat := m + R.nQ + R.nD + sumL R.L R.nS
set_option maxHeartbeats 1000000 in
theorem markRound_any (R : Rnd) (m base : Nat) (w : World) (h : OwnRn w base R) (hs : R.Small) (hl : sumL R.L R.nS ≤ 5000000) (hm : m ≤ 1000) (hb : base ≤ w.heap.size) :
    Calls Try.prog 18 #[.agg R.cells, .int .i64 m] w fun e w' => ∃ T, e = .returned (.int .i64 (R.total m : Nat)) ∧ OwnRn w' base (R.marked m) ∧ Touch T w w' ∧ ∀ w0, OwnRn w0 base R → ∀ x ∈ T, base ≤ x ∧ x < w0.heap.size := by
  obtain ⟨aQ, nQ, cQ, q, aD, nD, cD, d, turn, fresh, aS, nS, cS, A, L, C, z⟩ := R
  obtain ⟨wb, hwb⟩ : ∃ wb, wb = w.alloc (.cells #[.slice aQ nQ cQ, .slice aD nD cD, .int .i64 turn, .bool fresh, .slice aS nS cS] 28) := ⟨_, rfl⟩
  have HB : Hid (Below w.heap.size w wb) := by rw [Hid, hwb]; exact (Below.refl _ _).alloc (Nat.le_refl _) _
  have H0 : Hid (OwnRn wb base ⟨aQ, nQ, cQ, q, aD, nD, cD, d, turn, fresh, aS, nS, cS, A, L, C, z⟩) := h.up HB.out
  have HX0 : Hid (wb.heap[w.heap.size]? = some (.cells #[.slice aQ nQ cQ, .slice aD nD cD, .int .i64 turn, .bool fresh, .slice aS nS cS] 28 (0, 0))) := by rw [Hid, hwb]; exact blk_new _ _
  have cX := blk_cell HX0.out
  have hq1 : nQ ≤ 1048576 := hs.q
  have hd1 : nD ≤ 1048576 := hs.d
  have HSm : Hid (nS ≤ 1048576) := hs.s
  have HLm : Hid (∀ i, i < nS → L i ≤ 1048576) := hs.l
  have hl1 : sumL L nS ≤ 5000000 := hl
  clear h hs hl
  unfold Rnd.cells
  dsimp only
  go_enter Try.func18, Try.ntmps18
  go_wp2_with fail
  rw [← hwb]
  clear hwb
  refine (markVI_any aQ nQ cQ m base q _ H0.out.q hq1 (by omega)).mono ?_
  rintro e w1 ⟨rfl, hv1, ht1⟩
  have H1 : Hid (OwnRn w1 base ⟨aQ, nQ, cQ, fun i => ((m + i : Nat) : Int), aD, nD, cD, d, turn, fresh, aS, nS, cS, A, L, C, z⟩) := H0.out.marksQ hv1 ht1
  have HX1 : Hid (w1.heap[w.heap.size]? = some (.cells #[.slice aQ nQ cQ, .slice aD nD cD, .int .i64 turn, .bool fresh, .slice aS nS cS] 28 (0, 0))) := (ht1.block _ (blk_lt HX0.out) (notInI H0.out.q (by decide) HX0.out)).trans HX0.out
  have HT1 : Hid (Touch (blkI aQ nQ) wb w1) := ht1
  clear hv1 ht1 cX HX0 H0
  have cX := blk_cell HX1.out
  go_wp2_with fail
  refine (markVI_any aD nD cD (m + nQ) base d _ H1.out.d hd1 (by omega)).mono ?_
  rintro e w2 ⟨rfl, hv2, ht2⟩
  have H2 : Hid (OwnRn w2 base ⟨aQ, nQ, cQ, fun i => ((m + i : Nat) : Int), aD, nD, cD, fun i => ((m + nQ + i : Nat) : Int), turn, fresh, aS, nS, cS, A, L, C, z⟩) := H1.out.marksD hv2 ht2
  have HX2 : Hid (w2.heap[w.heap.size]? = some (.cells #[.slice aQ nQ cQ, .slice aD nD cD, .int .i64 turn, .bool fresh, .slice aS nS cS] 28 (0, 0))) := (ht2.block _ (blk_lt HX1.out) (notInI H1.out.d (by decide) HX1.out)).trans HX1.out
  have HT2 : Hid (Touch (blkI aD nD) w1 w2) := ht2
  clear hv2 ht2 cX HX1 H1
  have cX := blk_cell HX2.out
  have HA : Hid (∀ w', Touch (zBlk ⟨aQ, nQ, cQ, fun i => ((m + i : Nat) : Int), aD, nD, cD, fun i => ((m + nQ + i : Nat) : Int), turn, fresh, aS, nS, cS, A, L, C, z⟩) w2 w' → RdRow w' aS nS fun i => .slice (A i) (L i) (C i)) := fun w' ht => (VS.touchI H2.out.s ht (fun g arr hg => H2.out.notZ (by decide) hg)).read
  go_wp2_with fail
  refine (markIntss_any aS nS cS (m + nQ + nD) base A L C z _ _ HSm.out (by omega) (by omega) HLm.out HA.out H2.out.z H2.out.zz (fun i hi x hx => zBlk_mem.2 ⟨i, hi, hx⟩)).mono ?_
  rintro e w3 ⟨rfl, hv3, ht3⟩
  have H3 := H2.out.marksZ hv3 ht3
  have HT : Hid (Touch (blkI aQ nQ ++ blkI aD nD ++ zBlk ⟨aQ, nQ, cQ, fun i => ((m + i : Nat) : Int), aD, nD, cD, fun i => ((m + nQ + i : Nat) : Int), turn, fresh, aS, nS, cS, A, L, C, z⟩) w w3) :=
    ((Touch.ofBelow HB.out).trans (HT1.out.mono (fun x hx => List.mem_append_left _ (List.mem_append_left _ hx)))).trans ((HT2.out.mono (fun x hx => List.mem_append_left _ (List.mem_append_right _ hx))).trans (ht3.mono (fun x hx => List.mem_append_right _ hx)))
  clear hv3 ht3 cX HX2 H2 HA
  go_wp2_with fail
  go_ret
  exact ⟨_, rfl, H3, HT.out, fun w0 h0 x hx => by
    rcases List.mem_append.1 hx with hx | hx
    · rcases List.mem_append.1 hx with hx | hx
      · exact h0.q.blk x hx
      · exact h0.d.blk x hx
    · obtain ⟨i, hi, hx⟩ := zBlk_mem.1 hx
      exact (h0.z i hi).blk x hx⟩
set_option maxHeartbeats 1000000 in
theorem heldRound_any (R : Rnd) (m base : Nat) (w : World) (h : OwnRn w base (R.marked m)) (hs : R.Small) (hl : sumL R.L R.nS ≤ 5000000) (hm : m ≤ 1000) :
    Calls Try.prog 19 #[.agg R.cells, .int .i64 m] w fun e w' => e = .returned (.int .i64 (R.total m : Nat)) ∧ Below w.heap.size w w' := by
  obtain ⟨aQ, nQ, cQ, q, aD, nD, cD, d, turn, fresh, aS, nS, cS, A, L, C, z⟩ := R
  obtain ⟨wb, hwb⟩ : ∃ wb, wb = w.alloc (.cells #[.slice aQ nQ cQ, .slice aD nD cD, .int .i64 turn, .bool fresh, .slice aS nS cS] 28) := ⟨_, rfl⟩
  have HB : Hid (Below w.heap.size w wb) := by rw [Hid, hwb]; exact (Below.refl _ _).alloc (Nat.le_refl _) _
  have H0 : Hid (OwnRn wb base ⟨aQ, nQ, cQ, fun i => ((m + i : Nat) : Int), aD, nD, cD, fun i => ((m + nQ + i : Nat) : Int), turn, fresh, aS, nS, cS, A, L, C, fun i j => ((m + nQ + nD + sumL L i + j : Nat) : Int)⟩) := h.up HB.out
  have HX0 : Hid (wb.heap[w.heap.size]? = some (.cells #[.slice aQ nQ cQ, .slice aD nD cD, .int .i64 turn, .bool fresh, .slice aS nS cS] 28 (0, 0))) := by rw [Hid, hwb]; exact blk_new _ _
  have cX := blk_cell HX0.out
  have hq1 : nQ ≤ 1048576 := hs.q
  have hd1 : nD ≤ 1048576 := hs.d
  have HSm : Hid (nS ≤ 1048576) := hs.s
  have HLm : Hid (∀ i, i < nS → L i ≤ 1048576) := hs.l
  have hl1 : sumL L nS ≤ 5000000 := hl
  have hk1 : ¬ ((m + nQ : Nat) : Int) < 0 := by omega
  have hk2 : ¬ ((m + nQ + nD : Nat) : Int) < 0 := by omega
  have hk3 : ¬ ((m + nQ + nD + sumL L nS : Nat) : Int) < 0 := by omega
  clear h hs hl
  unfold Rnd.cells
  dsimp only
  go_enter Try.func19, Try.ntmps19
  go_wp2_with fail
  rw [← hwb]
  clear hwb
  refine (heldVI_any aQ nQ cQ m base _ H0.out.q hq1 (by omega)).mono ?_
  rintro e w1 ⟨rfl, rfl⟩
  go_wp2_with fail
  refine (heldVI_any aD nD cD (m + nQ) base _ H0.out.d hd1 (by omega)).mono ?_
  rintro e w2 ⟨rfl, rfl⟩
  go_wp2_with fail
  refine (heldIntss_any aS nS cS (m + nQ + nD) base A L C _ HSm.out (by omega) (by omega) HLm.out H0.out.s.read H0.out.z).mono ?_
  rintro e w3 ⟨rfl, rfl⟩
  go_wp2_with fail
  go_ret
  exact ⟨rfl, HB.out⟩
/-- a round is not written where all that is written lies behind it -/
theorem OwnRn.touchHi {w w' w0 : World} {base : Nat} {R : Rnd} {S : List Nat} (h : OwnRn w base R) (h0 : OwnRn w0 base R) (ht : Touch S w w') (hS : ∀ x ∈ S, w0.heap.size ≤ x) : OwnRn w' base R :=
  have key : ∀ {a : Option Addr} {n : Nat} {f : Nat → Int}, VI w base a n f → VI w0 base a n f → VI w' base a n f := fun hv hv0 => hv.touchS ht (fun x hx hx2 => by
    have h1 := (hv0.blk x hx).2
    have h2 := hS x hx2
    omega)
  ⟨key h.q h0.q, key h.d h0.d, by
    rcases h.s with h1 | ⟨g, ha, hg, hr⟩
    · exact .inl h1
    · by_cases hn : R.nS = 0
      · exact .inl hn
      rcases h0.s with h1 | ⟨g2, ha2, _, hr2⟩
      · exact absurd h1 hn
      · rw [ha] at ha2
        cases ha2
        exact .inr ⟨g, ha, hg, hr.keep (ht.block g hr.lt (fun hx => by have := hS g hx; have := hr2.lt; omega))⟩, fun i hi => key (h.z i hi) (h0.z i hi), h.qd, h.qz, h.dz, h.zz⟩
end Go.Proofs.Ytapmhpdcgghihaa
