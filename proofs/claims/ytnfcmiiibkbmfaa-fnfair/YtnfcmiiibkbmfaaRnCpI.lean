/- A round copied: the program's copy. -/
import Derived.Test.YtnfcmiiibkbmfaaRnCp
namespace Go.Proofs.Ytnfcmiiibkbmfaa
open Go.RowKit
set_option linter.unusedVariables false
set_option linter.unusedSimpArgs false
set_option maxHeartbeats 4000000 in
theorem copyRound_any (R : Rnd) (w : World) (hs : R.Small) (h : RdRnd w R) :
    Calls Try.prog 25 #[.agg R.cells] w fun e w' => ∃ aq cq ad cd gS A C, e = .returned (.agg (R.cp aq cq ad cd gS A C).cells) ∧ OwnRz w' w.heap.size (R.cp aq cq ad cd gS A C) ∧ Below w.heap.size w w' := by
  obtain ⟨aQ, nQ, cQ, q, aD, nD, cD, d, turn, fresh, aS, nS, cS, A, L, C, z⟩ := R
  have HR : Hid (RdRnd w ⟨aQ, nQ, cQ, q, aD, nD, cD, d, turn, fresh, aS, nS, cS, A, L, C, z⟩) := h
  have HS : Hid (Rnd.Small ⟨aQ, nQ, cQ, q, aD, nD, cD, d, turn, fresh, aS, nS, cS, A, L, C, z⟩) := hs
  have mk := make_sls nS hs.s
  have hnS : (nS : Int) ≤ 1048576 := by have : nS ≤ 1048576 := hs.s; omega
  clear h hs
  unfold Rnd.cells
  dsimp only
  go_enter Try.func25, Try.ntmps25
  go_wp2_with fail
  have HA : Hid (∀ A B C, Below w.heap.size w (((w.alloc A).alloc B).alloc C)) := fun A B C => (((Below.refl _ _).alloc (Nat.le_refl _) _).alloc (by simp) _).alloc (by simp; omega) _
  have e3 : ∀ A B C, (((w.alloc A).alloc B).alloc C).heap.size = w.heap.size + 1 + 1 + 1 := fun A B C => by simp
  refine (copyOfA_any aQ nQ cQ q _ HS.out.q (HR.out.q.up (HA.out _ _ _))).mono ?_
  rintro e w1 ⟨aq, cq, rfl, hVo, hb1⟩
  have hV := hVo.vi
  clear hVo
  obtain ⟨kA, kB, kC, B1, z1⟩ := three_laidR hb1
  rw [e3] at hV
  have cA := blk_cell kA
  have cC := blk_cell kC
  have fC := blk_free kC
  clear hb1 HA
  go_wp2_with fail
  have ht : Touch [w.heap.size + 1 + 1] w1 (w1.setCell ⟨w.heap.size + 1 + 1, 0, none⟩ (.slice aq nQ cq)) := (Touch.refl _ _).set (by simp) 0 _
  have kA' := (ht.block _ (blk_lt kA) (by simp only [List.mem_singleton]; omega)).trans kA
  have kB' := (ht.block _ (blk_lt kB) (by simp only [List.mem_singleton]; omega)).trans kB
  have kC' : (w1.setCell ⟨w.heap.size + 1 + 1, 0, none⟩ (.slice aq nQ cq)).heap[w.heap.size + 1 + 1]? = some (.cells #[.slice aq nQ cq, .slice aD nD cD, .int .i64 turn, .bool fresh, .slice aS nS cS] 27 (0, 0)) := blk_set kC _
  have hV' := hV.touchS ht (fun x hx hx2 => by have := (hV.blk x hx).1; simp at hx2; omega)
  have B1' := B1.trans (ht.below B1.size (fun x hx => by simp at hx; omega))
  have z1' : (w.heap.size + 1 + 1 + 1) ≤ (w1.setCell ⟨w.heap.size + 1 + 1, 0, none⟩ (.slice aq nQ cq)).heap.size := by have := ht.size; omega
  clear kA kB kC cA cC fC hV B1 ht z1
  generalize w1.setCell ⟨w.heap.size + 1 + 1, 0, none⟩ (.slice aq nQ cq) = W at *
  refine (copyOfA_any aD nD cD d _ HS.out.d (HR.out.d.up B1')).mono ?_
  rintro e w2 ⟨ad, cd, rfl, hDo, hb2⟩
  have hD := hDo.vi
  clear hDo
  have hQD := apart_old hV' hD (Nat.le_refl _)
  have hV2 := hV'.up hb2
  have kA2 := (hb2.block _ (blk_lt kA')).trans kA'
  have kB2 := (hb2.block _ (blk_lt kB')).trans kB'
  have kC2 := (hb2.block _ (blk_lt kC')).trans kC'
  have B2 : Below w.heap.size w w2 := B1'.trans (hb2.mono B1'.size)
  have z2 : (w.heap.size + 1 + 1 + 1) ≤ w2.heap.size := Nat.le_trans z1' hb2.size
  replace hD := hD.mono z1'
  have cA := blk_cell kA2
  have cC := blk_cell kC2
  have fC := blk_free kC2
  clear hb2 kA' kB' kC' hV' B1' z1'
  have ht : Touch [w.heap.size + 1 + 1] w2 (w2.setCell ⟨w.heap.size + 1 + 1, 1, none⟩ (.slice ad nD cd)) := (Touch.refl _ _).set (by simp) 1 _
  have hA := (Below.refl (w2.setCell ⟨w.heap.size + 1 + 1, 1, none⟩ (.slice ad nD cd)).heap.size (w2.setCell ⟨w.heap.size + 1 + 1, 1, none⟩ (.slice ad nD cd))).alloc (Nat.le_refl _) (.cells (zSls nS) 24)
  have hz : (w2.setCell ⟨w.heap.size + 1 + 1, 1, none⟩ (.slice ad nD cd)).heap.size = w2.heap.size := by simp [World.setCell]
  have kC3 : (w2.setCell ⟨w.heap.size + 1 + 1, 1, none⟩ (.slice ad nD cd)).heap[w.heap.size + 1 + 1]? = some (.cells #[.slice aq nQ cq, .slice ad nD cd, .int .i64 turn, .bool fresh, .slice aS nS cS] 27 (0, 0)) := blk_set kC2 _
  have kC4 := (hA.block _ (blk_lt kC3)).trans kC3
  have kA4 := (hA.block _ (by rw [hz]; exact blk_lt kA2)).trans ((ht.block _ (blk_lt kA2) (by simp only [List.mem_singleton]; omega)).trans kA2)
  have kB4 := (hA.block _ (by rw [hz]; exact blk_lt kB2)).trans ((ht.block _ (blk_lt kB2) (by simp only [List.mem_singleton]; omega)).trans kB2)
  have kS4 := blk_new (w2.setCell ⟨w.heap.size + 1 + 1, 1, none⟩ (.slice ad nD cd)) (.cells (zSls nS) 24)
  rw [hz] at kS4
  have hV4 := (hV2.touchS ht (fun x hx hx2 => by have := (hV2.blk x hx).1; simp at hx2; omega)).up hA
  have hD4 := (hD.touchS ht (fun x hx hx2 => by have := (hD.blk x hx).1; simp at hx2; omega)).up hA
  have B3 := B2.trans (ht.below B2.size (fun x hx => by simp at hx; omega))
  have B4 := B3.trans (hA.mono B3.size)
  have cA4 := blk_cell kA4
  have cC4 := blk_cell kC4
  have fC4 := blk_free kC4
  clear ht hA kC3 kA2 kB2 kC2 hV2 hD B2 B3
  go_wp2_with fail
  have ht := (Touch.refl [w.heap.size + 1 + 1] ((w2.setCell ⟨w.heap.size + 1 + 1, 1, none⟩ (.slice ad nD cd)).alloc (.cells (zSls nS) 24))).set (g := w.heap.size + 1 + 1) (by simp) 4 (.slice (some ⟨w2.heap.size, 0, none⟩) nS nS)
  have HCp0 : Hid (Cp ⟨aQ, nQ, cQ, q, aD, nD, cD, d, turn, fresh, aS, nS, cS, A, L, C, z⟩ (w.heap.size + 1 + 1 + 1) (((w2.setCell ⟨w.heap.size + 1 + 1, 1, none⟩ (.slice ad nD cd)).alloc (.cells (zSls nS) 24)).setCell ⟨w.heap.size + 1 + 1, 4, none⟩ (.slice (some ⟨w2.heap.size, 0, none⟩) nS nS)) aq ad w2.heap.size A C 0) :=
    ⟨hV4.touchS ht (fun x hx hx2 => by have := (hV4.blk x hx).1; simp at hx2; omega), hD4.touchS ht (fun x hx hx2 => by have := (hD4.blk x hx).1; simp at hx2; omega),
     .inr ⟨_, rfl, z2, ((zSls_row kS4).keep (ht.block _ (blk_lt kS4) (by simp only [List.mem_singleton]; omega))).ext (fun i hi => by simp)⟩, fun i hi => by omega, hQD, fun i hi => by omega, fun i hi => by omega, fun i j hi => by omega⟩
  have HB0 : Hid (Below w.heap.size w (((w2.setCell ⟨w.heap.size + 1 + 1, 1, none⟩ (.slice ad nD cd)).alloc (.cells (zSls nS) 24)).setCell ⟨w.heap.size + 1 + 1, 4, none⟩ (.slice (some ⟨w2.heap.size, 0, none⟩) nS nS))) := B4.trans (ht.below B4.size (fun x hx => by simp at hx; omega))
  have kB5 := (ht.block _ (blk_lt kB4) (by simp only [List.mem_singleton]; omega)).trans kB4
  have kC5 : (((w2.setCell ⟨w.heap.size + 1 + 1, 1, none⟩ (.slice ad nD cd)).alloc (.cells (zSls nS) 24)).setCell ⟨w.heap.size + 1 + 1, 4, none⟩ (.slice (some ⟨w2.heap.size, 0, none⟩) nS nS)).heap[w.heap.size + 1 + 1]? = some (.cells #[.slice aq nQ cq, .slice ad nD cd, .int .i64 turn, .bool fresh, .slice (some ⟨w2.heap.size, 0, none⟩) nS nS] 27 (0, 0)) := blk_set kC4 _
  have HkB0 : Hid (_ = _) := kB5
  have HkC0 : Hid (_ = _) := kC5
  clear ht kB5 kC5 kA4 kB4 kC4 kS4 hV4 hD4 B4 cA4 cC4 fC4 cA cC fC hz hQD mk
  generalize ((w2.setCell ⟨w.heap.size + 1 + 1, 1, none⟩ (.slice ad nD cd)).alloc (.cells (zSls nS) 24)).setCell ⟨w.heap.size + 1 + 1, 4, none⟩ (.slice (some ⟨w2.heap.size, 0, none⟩) nS nS) = W5 at *
  generalize w2.heap.size = gS at *
  go_loopw [23] (fun i wr => ∃ (k : Nat) (A' : Nat → Option Addr) (C' : Nat → Nat), k ≤ nS ∧ i = .int .i64 k ∧ Cp ⟨aQ, nQ, cQ, q, aD, nD, cD, d, turn, fresh, aS, nS, cS, A, L, C, z⟩ (w.heap.size + 1 + 1 + 1) wr aq ad gS A' C' k ∧ Below w.heap.size w wr ∧ (w.heap.size + 1 + 1 + 1) ≤ wr.heap.size ∧ wr.heap[w.heap.size + 1]? = some (.cells #[.slice none 0 0, .slice none 0 0, .int .i64 0, .bool false, .slice none 0 0] 27 (0, 0)) ∧ wr.heap[w.heap.size + 1 + 1]? = some (.cells #[.slice aq nQ cq, .slice ad nD cd, .int .i64 turn, .bool fresh, .slice (some ⟨gS, 0, none⟩) nS nS] 27 (0, 0))) (fun i _ => nS - (intOf i).toNat)
  case atStart => exact ⟨0, A, C, Nat.zero_le _, rfl, HCp0.out, HB0.out, by have := blk_lt HkC0.out; omega, HkB0.out, HkC0.out⟩
  case round =>
    obtain ⟨k, A', C', hk, rfl, hCp, hB, hBs, hkB, hkC⟩ := hrel
    clear HCp0 HB0 HkB0 HkC0
    have HCp : Hid (Cp ⟨aQ, nQ, cQ, q, aD, nD, cD, d, turn, fresh, aS, nS, cS, A, L, C, z⟩ (w.heap.size + 1 + 1 + 1) wr aq ad gS A' C' k) := hCp
    have HB : Hid (Below w.heap.size w wr) := hB
    have HBs : Hid ((w.heap.size + 1 + 1 + 1) ≤ wr.drew.heap.size) := hBs
    have kBd : Hid (wr.drew.heap[w.heap.size + 1]? = some (.cells #[.slice none 0 0, .slice none 0 0, .int .i64 0, .bool false, .slice none 0 0] 27 (0, 0))) := hkB
    have kCd : Hid (wr.drew.heap[w.heap.size + 1 + 1]? = some (.cells #[.slice aq nQ cq, .slice ad nD cd, .int .i64 turn, .bool fresh, .slice (some ⟨gS, 0, none⟩) nS nS] 27 (0, 0))) := hkC
    clear hCp hB hBs
    by_cases hlt : k < nS
    · have hlt' : (k : Int) < nS := by omega
      obtain ⟨gs, os, rfl, hc⟩ := (HR.out.s.up HB.out) k hlt
      dsimp only at hc
      clear hkB hkC
      go_wp2_with fail
      refine wp_region_held_drew (S := fun w' => w'.cell? ⟨w.heap.size + 1 + 1, 4, none⟩ = some (.slice (some ⟨gS, 0, none⟩) nS nS)) (by kernel_rfl) (blk_cell kCd.out 4) (fun hHeld => ?_)
      refine takeD (i := 0) (some 28) (v := ?_) rfl rfl (by kernel_rfl) (by kernel_rfl) (by kernel_rfl) (fun _ _ _ h => h) (by kernel_rfl) ?_ (by assumption) ?_
      rotate_left
      · intro wx hSw
        try dsimp only at hSw
        go_simp
        try (with_reducible rfl)
      try simp only [Act.put, List.setIfInBounds_toArray, List.set_cons_zero, List.set_cons_succ]
      refine takeD (i := 1) (some 29) (v := ?_) rfl rfl (by kernel_rfl) (by kernel_rfl) (by kernel_rfl) (fun _ _ _ h => h) (by kernel_rfl) ?_ (by assumption) ?_
      rotate_left
      · intro wx hSw
        try dsimp only at hSw
        go_simp
        try (with_reducible rfl)
      try simp only [Act.put, List.setIfInBounds_toArray, List.set_cons_zero, List.set_cons_succ]
      refine takeD (i := 2) (some 30) (v := ?_) rfl rfl (by kernel_rfl) (by kernel_rfl) (by kernel_rfl) (fun _ _ _ h => h) (by kernel_rfl) ?_ (by assumption) ?_
      rotate_left
      · intro wx hSw
        try dsimp only at hSw
        go_simp
        try (with_reducible rfl)
      try simp only [Act.put, List.setIfInBounds_toArray, List.set_cons_zero, List.set_cons_succ]
      refine takeD (i := 3) (some 31) (v := ?_) rfl rfl (by kernel_rfl) (by kernel_rfl) (by kernel_rfl) (fun _ _ _ h => h) (by kernel_rfl) ?_ (by assumption) ?_
      rotate_left
      · intro wx hSw
        try dsimp only at hSw
        go_simp
        try (with_reducible rfl)
      try simp only [Act.put, List.setIfInBounds_toArray, List.set_cons_zero, List.set_cons_succ]
      refine wpAnyH_ready (rs := [4]) (by kernel_rfl) (by simp) ?_
      refine AllReadyH.cons rfl (fun K hK => ?_) AllReadyH.nil
      go_simp
      refine (copyOfA_any (A k) (L k) (C k) (z k) _ (HS.out.l k hlt) ((HR.out.z k hlt).up (HB.out.drew))).mono ?_
      rintro e w4 ⟨a', c', rfl, hv, hb⟩
      have hC0 := HCp.out.up (W' := wr.drew) ((Below.refl _ _).drew)
      have HCp4 : Hid (Cp ⟨aQ, nQ, cQ, q, aD, nD, cD, d, turn, fresh, some ⟨gs, os, none⟩, nS, cS, A, L, C, z⟩ (w.heap.size + 1 + 1 + 1) (w4.setCell ⟨gS, k, none⟩ (.slice a' (L k) c')) aq ad gS (fun i => if i = k then a' else A' i) (fun i => if i = k then c' else C' i) (k + 1)) := hC0.next (c' := c') hlt hb HBs.out hv
      have HB4 : Hid (Below w.heap.size w w4) := HB.out.drew.trans (hb.mono HB.out.size)
      have kB4 := (hb.block _ (blk_lt kBd.out)).trans kBd.out
      have kC4 := (hb.block _ (blk_lt kCd.out)).trans kCd.out
      have q4 : w4.cell? ⟨w.heap.size + 1 + 1, 4, none⟩ = some (.slice (some ⟨gS, 0, none⟩) nS nS) := blk_cell kC4 4
      have hrow : (w.heap.size + 1 + 1 + 1) ≤ gS ∧ (∃ x, w4.cell? ⟨gS, k, none⟩ = some x) ∧ w4.frozen? ⟨gS, k, none⟩ = false := by
        rcases hC0.s with h0 | ⟨g, hg, hbg, hr⟩
        · exact absurd hlt (by rw [show nS = 0 from h0]; omega)
        · cases hg
          exact ⟨hbg, (hr.keep (hb.block _ hr.lt)).there k hlt, (hr.keep (hb.block _ hr.lt)).free k⟩
      obtain ⟨hgS, ⟨xS, cS4⟩, fS4⟩ := hrow
      have HkB : Hid ((w4.setCell ⟨gS, k, none⟩ (.slice a' (L k) c')).heap[w.heap.size + 1]? = _) := (blk_set_ne (by omega) _).trans kB4
      have HkC : Hid ((w4.setCell ⟨gS, k, none⟩ (.slice a' (L k) c')).heap[w.heap.size + 1 + 1]? = _) := (blk_set_ne (by omega) _).trans kC4
      have HBn : Hid (Below w.heap.size w (w4.setCell ⟨gS, k, none⟩ (.slice a' (L k) c'))) := HB4.out.setCell (by show w.heap.size ≤ gS; omega) _
      have HBsn : Hid ((w.heap.size + 1 + 1 + 1) ≤ (w4.setCell ⟨gS, k, none⟩ (.slice a' (L k) c')).heap.size) := by
        have := blk_lt HkC.out
        show _ ≤ _
        omega
      have q4s : (w4.setCell ⟨gS, k, none⟩ (.slice a' (L k) c')).cell? ⟨w.heap.size + 1 + 1, 4, none⟩ = some (.slice (some ⟨gS, 0, none⟩) nS nS) := blk_cell HkC.out 4
      clear hv hb hC0 kB4 kC4
      go_wp2_with fail
      refine hK.out _ _ q4 (fun hHeld => ?_)
      clear hK K
      try simp only [Act.put, List.setIfInBounds_toArray, List.set_cons_zero, List.set_cons_succ]
      refine takeD (i := 5) (some 33) (v := ?_) rfl rfl (by kernel_rfl) (by kernel_rfl) (by kernel_rfl) (fun _ _ _ h => h) (by kernel_rfl) ?_ (by assumption) ?_
      rotate_left
      · intro wx hSw
        try dsimp only at hSw
        go_simp
        try (with_reducible rfl)
      try simp only [Act.put, List.setIfInBounds_toArray, List.set_cons_zero, List.set_cons_succ]
      refine wpAnyH_ready (rs := [6]) (by kernel_rfl) (by simp) ?_
      refine AllReadyH.cons rfl (fun K hK => ?_) AllReadyH.nil
      go_simp
      refine hK.out _ _ q4s (fun hHeld => ?_)
      clear hK K
      try simp only [Act.put, List.setIfInBounds_toArray, List.set_cons_zero, List.set_cons_succ]
      refine wpAnyH_done (by kernel_rfl) ?_ _
      go_wp2_with fail
      go_roundw
      case rel => exact ⟨k + 1, _, _, by omega, by go_num, HCp4.out, HBn.out, HBsn.out, HkB.out, HkC.out⟩
      case measure => simp [intOf]; omega
    · obtain rfl : k = nS := by omega
      have cC := blk_cell hkC
      have cB := blk_cell hkB
      have fB := blk_free hkB
      go_wp2_with fail
      have ht := put5_touch wr (w.heap.size + 1) (.slice aq nQ cq) (.slice ad nD cd) (.int .i64 turn) (.bool fresh) (.slice (some ⟨gS, 0, none⟩) k k)
      have cF := blk_cell (put5_blk hkB (.slice aq nQ cq) (.slice ad nD cd) (.int .i64 turn) (.bool fresh) (.slice (some ⟨gS, 0, none⟩) k k))
      have hBf := HB.out.trans (ht.below HB.out.size (fun x hx => by simp at hx; omega))
      have hOf := ((HCp.out.own cq cd).touch ht (fun x hx => by simp at hx; omega)).mono (show w.heap.size ≤ (w.heap.size + 1 + 1 + 1) by omega)
      unfold put5 at cF hBf hOf
      exact bodyPost_ret (v := .agg (Rnd.cp ⟨aQ, nQ, cQ, q, aD, nD, cD, d, turn, fresh, aS, k, cS, A, L, C, z⟩ aq cq ad cd gS A' C').cells) (by simp [results, Try.results25, go_sem, cF, Rnd.cp, Rnd.cells]) rfl ⟨aq, cq, ad, cd, gS, A', C', rfl, hOf, hBf⟩
end Go.Proofs.Ytnfcmiiibkbmfaa
