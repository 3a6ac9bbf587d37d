/- Rounds and lists side by side: marks, and where they lie. -/
import Derived.Test.YtbpimofgipfkaaaPaS
import Derived.Test.YtbpimofgipfkaaaMkO
namespace Go.Proofs.Ytbpimofgipfkaaa
open Go.RowKit
set_option linter.unusedVariables false
set_option linter.unusedSimpArgs false

theorem OwnRo.touchB {w w' : World} {base : Nat} {R : Rnd} {S : List Nat} (h : OwnRo w base R) (ht : Touch S w w') (hS : ∀ x ∈ rBlk R, x ∉ S) : OwnRo w' base R := by
  refine ⟨h.q.touchS ht (fun x hx => hS x (by unfold rBlk; simp [hx])), h.d.touchS ht (fun x hx => hS x (by unfold rBlk; simp [hx])), ?_, fun i hi => (h.z i hi).touchS ht (fun x hx => hS x (by unfold rBlk; exact List.mem_append_right _ (zBlk_mem.2 ⟨i, hi, hx⟩))), h.qd, h.qz, h.dz, h.zz⟩
  rcases h.s with h0 | ⟨g, e, hb, hr⟩
  · exact .inl h0
  · by_cases hn : R.nS = 0
    · exact .inl hn
    refine .inr ⟨g, e, hb, hr.keep (ht.block g hr.lt (hS g ?_))⟩
    unfold rBlk
    have : g ∈ blkI R.aS R.nS := by rw [e]; exact blkI_mem hn
    simp [this]
set_option maxHeartbeats 1000000 in
theorem markRoundP_any (R : Rnd) (m base : Nat) (w : World) (h : OwnRo w base R) (hs : R.Small) (hl : sumL R.L R.nS ≤ 5000000) (hm : m ≤ 1000) (hb : base ≤ w.heap.size) :
    Calls Try.prog 10 #[.agg R.cells, .int .i64 m] w fun e w' => ∃ T, e = .returned (.int .i64 (R.total m : Nat)) ∧ OwnRo w' base (R.marked m) ∧ Touch T w w' ∧ (∀ x ∈ T, x ∈ rBlk R) ∧ ∀ w0, OwnRo w0 base R → ∀ x ∈ T, base ≤ x ∧ x < w0.heap.size := by
  obtain ⟨aQ, nQ, cQ, q, aD, nD, cD, d, turn, fresh, aS, nS, cS, A, L, C, z⟩ := R
  obtain ⟨wb, hwb⟩ : ∃ wb, wb = w.alloc (.cells #[.slice aQ nQ cQ, .slice aD nD cD, .int .i64 turn, .bool fresh, .slice aS nS cS] 27) := ⟨_, rfl⟩
  have HB : Hid (Below w.heap.size w wb) := by rw [Hid, hwb]; exact (Below.refl _ _).alloc (Nat.le_refl _) _
  have H0 : Hid (OwnRo wb base ⟨aQ, nQ, cQ, q, aD, nD, cD, d, turn, fresh, aS, nS, cS, A, L, C, z⟩) := h.up HB.out
  have HX0 : Hid (wb.heap[w.heap.size]? = some (.cells #[.slice aQ nQ cQ, .slice aD nD cD, .int .i64 turn, .bool fresh, .slice aS nS cS] 27 (0, 0))) := by rw [Hid, hwb]; exact blk_new _ _
  have cX := blk_cell HX0.out
  have hq1 : nQ ≤ 1048576 := hs.q
  have hd1 : nD ≤ 1048576 := hs.d
  have HSm : Hid (nS ≤ 1048576) := hs.s
  have HLm : Hid (∀ i, i < nS → L i ≤ 1048576) := hs.l
  have hl1 : sumL L nS ≤ 5000000 := hl
  clear h hs hl
  unfold Rnd.cells
  dsimp only
  go_enter Try.func10, Try.ntmps10
  go_wp2_with fail
  rw [← hwb]
  clear hwb
  refine (markVI_any aQ nQ cQ m base q _ H0.out.q hq1 (by omega)).mono ?_
  rintro e w1 ⟨rfl, hv1, ht1⟩
  have H1 : Hid (OwnRo w1 base ⟨aQ, nQ, cQ, fun i => ((m + i : Nat) : Int), aD, nD, cD, d, turn, fresh, aS, nS, cS, A, L, C, z⟩) := H0.out.marksQ hv1 ht1
  have HX1 : Hid (w1.heap[w.heap.size]? = some (.cells #[.slice aQ nQ cQ, .slice aD nD cD, .int .i64 turn, .bool fresh, .slice aS nS cS] 27 (0, 0))) := (ht1.block _ (blk_lt HX0.out) (notInI H0.out.q (by decide) HX0.out)).trans HX0.out
  have HT1 : Hid (Touch (blkI aQ nQ) wb w1) := ht1
  clear hv1 ht1 cX HX0 H0
  have cX := blk_cell HX1.out
  go_wp2_with fail
  refine (markVI_any aD nD cD (m + nQ) base d _ H1.out.d hd1 (by omega)).mono ?_
  rintro e w2 ⟨rfl, hv2, ht2⟩
  have H2 : Hid (OwnRo w2 base ⟨aQ, nQ, cQ, fun i => ((m + i : Nat) : Int), aD, nD, cD, fun i => ((m + nQ + i : Nat) : Int), turn, fresh, aS, nS, cS, A, L, C, z⟩) := H1.out.marksD hv2 ht2
  have HX2 : Hid (w2.heap[w.heap.size]? = some (.cells #[.slice aQ nQ cQ, .slice aD nD cD, .int .i64 turn, .bool fresh, .slice aS nS cS] 27 (0, 0))) := (ht2.block _ (blk_lt HX1.out) (notInI H1.out.d (by decide) HX1.out)).trans HX1.out
  have HT2 : Hid (Touch (blkI aD nD) w1 w2) := ht2
  clear hv2 ht2 cX HX1 H1
  have cX := blk_cell HX2.out
  have HA : Hid (∀ w', Touch (zBlk ⟨aQ, nQ, cQ, fun i => ((m + i : Nat) : Int), aD, nD, cD, fun i => ((m + nQ + i : Nat) : Int), turn, fresh, aS, nS, cS, A, L, C, z⟩) w2 w' → RdRow w' aS nS fun i => .slice (A i) (L i) (C i)) := fun w' ht => (VS.touchI H2.out.s ht (fun g arr hg => H2.out.notZ (by decide) hg)).read
  go_wp2_with fail
  refine (markIntssO_any aS nS cS (m + nQ + nD) base A L C z _ _ HSm.out (by omega) (by omega) HLm.out HA.out H2.out.z H2.out.zz (fun i hi x hx => zBlk_mem.2 ⟨i, hi, hx⟩)).mono ?_
  rintro e w3 ⟨rfl, hv3, ht3⟩
  have H3 := H2.out.marksZ hv3 ht3
  have HT : Hid (Touch (blkI aQ nQ ++ blkI aD nD ++ zBlk ⟨aQ, nQ, cQ, fun i => ((m + i : Nat) : Int), aD, nD, cD, fun i => ((m + nQ + i : Nat) : Int), turn, fresh, aS, nS, cS, A, L, C, z⟩) w w3) :=
    ((Touch.ofBelow HB.out).trans (HT1.out.mono (fun x hx => List.mem_append_left _ (List.mem_append_left _ hx)))).trans ((HT2.out.mono (fun x hx => List.mem_append_left _ (List.mem_append_right _ hx))).trans (ht3.mono (fun x hx => List.mem_append_right _ hx)))
  clear hv3 ht3 cX HX2 H2 HA
  go_wp2_with fail
  go_ret
  exact ⟨_, rfl, H3, HT.out, fun x hx => by
    unfold rBlk
    rcases List.mem_append.1 hx with hx | hx
    · exact List.mem_append_left _ (List.mem_append_left _ hx)
    · exact List.mem_append_right _ hx, fun w0 h0 x hx => by
    rcases List.mem_append.1 hx with hx | hx
    · rcases List.mem_append.1 hx with hx | hx
      · exact h0.q.blk x hx
      · exact h0.d.blk x hx
    · obtain ⟨i, hi, hx⟩ := zBlk_mem.1 hx
      exact (h0.z i hi).blk x hx⟩
theorem map_intsV (cs : List Int) : cs.map (Value.int .i64) = intsV cs.length (fun i => cs.getD i 0) := by
  refine List.ext_getElem? fun i => ?_
  by_cases hi : i < cs.length
  · rw [intsV_at hi]
    simp [hi]
  · rw [List.getElem?_eq_none (by simpa using hi), List.getElem?_eq_none (by rw [intsV_len]; omega)]
theorem own_viA {w : World} {base c : Nat} {a : Option Addr} {cs : List Int} (h : w.ownsRow base 2 1 (.slice a cs.length c) cs.length (cs.map (.int .i64))) : VI w base a cs.length (fun i => cs.getD i 0) := by
  rw [map_intsV] at h
  obtain ⟨a', c', e, hv⟩ := own_vi h
  cases e
  exact hv
theorem own_blkI {n c : Nat} {a : Option Addr} {x : Nat} (hx : x ∈ blkI a n) : (Value.slice a n c).ownBlock = some x := by
  unfold blkI at hx
  split at hx
  · simp at hx
  · cases a with
    | none => simp at hx
    | some b => simp at hx; rw [hx]; rfl
theorem marked_blk (R : Rnd) (m : Nat) : rBlk (R.marked m) = rBlk R := rfl
theorem iPickedAllV_any (R M : Rnd) (n : Int) (cs : List Int) (N : Nat) (f : Nat → Int) (w : World) (hs : R.Small) (h : RdRnd w R) (hp : PickA R n M cs) (hN : cs.length = N) (hf : (fun i => cs.getD i 0) = f) :
    Calls Try.prog 13 #[.agg R.cells, .int .i64 n] w fun e w' => ∃ R' a c, e = .returned (.tuple #[.agg R'.cells, .slice a N c]) ∧ OwnRo w' w.heap.size R' ∧ VI w' w.heap.size a N f ∧ (∀ x ∈ rBlk R', x ∉ blkI a N) ∧ Below w.heap.size w w' ∧ Alike M R' := by
  subst hN hf
  refine (iPickedAll_any R M n cs w hs h hp).mono ?_
  rintro e w' ⟨R', v, rfl, h1, h2, h3, h4, h5⟩
  obtain ⟨a, c, rfl⟩ := own_formA h2
  exact ⟨R', a, c, rfl, h1, own_viA h2, fun x hx hx2 => h3 x hx (own_blkI hx2), h4, h5⟩
theorem sPickedAllV_any (R M : Rnd) (n : Int) (cs : List Int) (N : Nat) (f : Nat → Int) (w : World) (hs : R.Small) (h : RdRnd w R) (hp : PickA R n M cs) (hN : cs.length = N) (hf : (fun i => cs.getD i 0) = f) :
    Calls Try.prog 12 #[.agg R.cells, .int .i64 n] w fun e w' => ∃ R' a c, e = .returned (.tuple #[.agg R'.cells, .slice a N c]) ∧ OwnRn w' w.heap.size R' ∧ VI w' w.heap.size a N f ∧ Below w.heap.size w w' ∧ Alike M R' := by
  subst hN hf
  refine (sPickedAll_any R M n cs w hs h hp).mono ?_
  rintro e w' ⟨R', v, rfl, h1, h2, h4, h5⟩
  obtain ⟨a, c, rfl⟩ := own_formA h2
  exact ⟨R', a, c, rfl, h1, own_viA h2, h4, h5⟩
end Go.Proofs.Ytbpimofgipfkaaa
