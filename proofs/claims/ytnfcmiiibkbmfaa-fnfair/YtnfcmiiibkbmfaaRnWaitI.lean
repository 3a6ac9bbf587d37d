/- A size that waits behind all others of its class: the program's answer. -/
import Derived.Test.YtnfcmiiibkbmfaaRnPush
import Derived.Test.YtnfcmiiibkbmfaaRnCpI
namespace Go.Proofs.Ytnfcmiiibkbmfaa
open Go.RowKit
set_option linter.unusedVariables false
set_option linter.unusedSimpArgs false
def waitsP (R : Rnd) (c s : Int) : Prop := R.Ok ∧ (0 ≤ c ∧ c < R.nQ) ∧ (1 ≤ s ∧ s ≤ 5) ∧ R.L c.toNat < 1000
def waitsM (R : Rnd) (c s : Int) (ok : Bool) : Rnd := if ok then R.push c.toNat s none 0 else zR
theorem two_laidR {w w1 : World} {A B : Obj} (h : Below ((w.alloc A).alloc B).heap.size ((w.alloc A).alloc B) w1) :
    w1.heap[w.heap.size]? = some A ∧ w1.heap[w.heap.size + 1]? = some B ∧ Below w.heap.size w w1 ∧ w.heap.size + 2 ≤ w1.heap.size := by
  have e1 : (w.alloc A).heap.size = w.heap.size + 1 := by simp
  have e2 : ((w.alloc A).alloc B).heap.size = w.heap.size + 1 + 1 := by simp
  rw [e2] at h
  have b1 := blk_new w A
  have b2 := blk_new (w.alloc A) B
  rw [e1] at b2
  refine ⟨?_, ?_, ?_, ?_⟩
  · rw [h.block _ (by omega), blk_old _ (by rw [e1]; omega)]; exact b1
  · rw [h.block _ (by omega)]; exact b2
  · exact (((Below.refl _ _).alloc (Nat.le_refl _) _).alloc (by rw [e1]; omega) _).trans (h.mono (by omega))
  · have := h.size
    omega
set_option maxRecDepth 100000 in
set_option maxHeartbeats 8000000 in
theorem iWaits_any (R : Rnd) (c s : Int) (w : World) (hs : R.Small) (h : RdRnd w R) (ok : Bool) (hok : ok = true ↔ waitsP R c s) :
    Calls Try.prog 17 #[.agg R.cells, .int .i64 c, .int .i64 s] w fun e w' => ∃ R', e = .returned (.tuple #[.agg R'.cells, .bool ok]) ∧ OwnRn w' w.heap.size R' ∧ Below w.heap.size w w' ∧ Alike (waitsM R c s ok) R' := by
  obtain ⟨aQ, nQ, cQ, q, aD, nD, cD, d, turn, fresh, aS, nS, cS, A, L, C, z⟩ := R
  have HR : Hid (RdRnd w ⟨aQ, nQ, cQ, q, aD, nD, cD, d, turn, fresh, aS, nS, cS, A, L, C, z⟩) := h
  have HS : Hid (Rnd.Small ⟨aQ, nQ, cQ, q, aD, nD, cD, d, turn, fresh, aS, nS, cS, A, L, C, z⟩) := hs
  have HO : Hid (ok = true ↔ waitsP ⟨aQ, nQ, cQ, q, aD, nD, cD, d, turn, fresh, aS, nS, cS, A, L, C, z⟩ c s) := hok
  obtain ⟨okR, hokR⟩ := ok_decR (Rnd.Ok ⟨aQ, nQ, cQ, q, aD, nD, cD, d, turn, fresh, aS, nS, cS, A, L, C, z⟩)
  have HOR : Hid (okR = true ↔ Rnd.Ok ⟨aQ, nQ, cQ, q, aD, nD, cD, d, turn, fresh, aS, nS, cS, A, L, C, z⟩) := hokR
  clear h hs hok hokR
  have HA : Hid (∀ A B, Below w.heap.size w ((w.alloc A).alloc B)) := fun A B => ((Below.refl _ _).alloc (Nat.le_refl _) _).alloc (by simp) _
  dsimp only [Rnd.cells]
  go_enter Try.func17, Try.ntmps17
  go_wp2_with fail
  refine (iRoundOk_any ⟨aQ, nQ, cQ, q, aD, nD, cD, d, turn, fresh, aS, nS, cS, A, L, C, z⟩ _ (small_fit HS.out) (HR.out.up (HA.out _ _)) okR HOR.out).mono ?_
  rintro e w1 ⟨rfl, hb1⟩
  obtain ⟨kA, kB, B1, z1⟩ := two_laidR hb1
  clear hb1 HA
  have cA := blk_cell kA
  cases okR
  · have HNo : Hid (¬ waitsP ⟨aQ, nQ, cQ, q, aD, nD, cD, d, turn, fresh, aS, nS, cS, A, L, C, z⟩ c s) := fun hh => absurd (HOR.out.2 hh.1) (by simp)
    have hokF : ok = false := by
      cases ok
      · rfl
      · exact absurd (HO.out.1 rfl) HNo.out
    subst hokF
    have cX := blk_cell kB
    have fX := blk_free kB
    go_wp2_with fail
    have ht := put5_touch w1 (w.heap.size + 1) (.slice none 0 0) (.slice none 0 0) (.int .i64 0) (.bool false) (.slice none 0 0)
    have cF := blk_cell (put5_blk kB (.slice none 0 0) (.slice none 0 0) (.int .i64 0) (.bool false) (.slice none 0 0))
    have hBf := B1.trans (ht.below B1.size (fun x hx => by simp at hx; omega))
    unfold put5 at cF hBf
    exact bodyPost_ret (v := .tuple #[.agg zR.cells, .bool false]) (by simp [results, Try.results17, go_sem, cF, zR, Rnd.cells]) rfl ⟨zR, rfl, zR_own _ _, hBf, Alike.refl _⟩
  have HRok : Hid (Rnd.Ok ⟨aQ, nQ, cQ, q, aD, nD, cD, d, turn, fresh, aS, nS, cS, A, L, C, z⟩) := HOR.out.1 rfl
  go_wp2_with fail
  refine (isClass_any ⟨aQ, nQ, cQ, q, aD, nD, cD, d, turn, fresh, aS, nS, cS, A, L, C, z⟩ c _ (small_fit HS.out)).mono ?_
  rintro e w2 ⟨rfl, hb2⟩
  replace kA := (hb2.block _ (blk_lt kA)).trans kA
  replace kB := (hb2.block _ (blk_lt kB)).trans kB
  have B2 := B1.trans (hb2.mono B1.size)
  have z2 : w.heap.size + 2 ≤ w2.heap.size := Nat.le_trans z1 hb2.size
  clear hb2 B1 z1 cA
  have cA := blk_cell kA
  by_cases hc : 0 ≤ c ∧ c < (nQ : Int)
  rotate_left
  · have HNo : Hid (¬ waitsP ⟨aQ, nQ, cQ, q, aD, nD, cD, d, turn, fresh, aS, nS, cS, A, L, C, z⟩ c s) := fun hh => hc hh.2.1
    rw [decide_eq_false hc]
    clear hc
    have hokF : ok = false := by
      cases ok
      · rfl
      · exact absurd (HO.out.1 rfl) HNo.out
    subst hokF
    have cX := blk_cell kB
    have fX := blk_free kB
    go_wp2_with fail
    have ht := put5_touch w2 (w.heap.size + 1) (.slice none 0 0) (.slice none 0 0) (.int .i64 0) (.bool false) (.slice none 0 0)
    have cF := blk_cell (put5_blk kB (.slice none 0 0) (.slice none 0 0) (.int .i64 0) (.bool false) (.slice none 0 0))
    have hBf := B2.trans (ht.below B2.size (fun x hx => by simp at hx; omega))
    unfold put5 at cF hBf
    exact bodyPost_ret (v := .tuple #[.agg zR.cells, .bool false]) (by simp [results, Try.results17, go_sem, cF, zR, Rnd.cells]) rfl ⟨zR, rfl, zR_own _ _, hBf, Alike.refl _⟩
  rw [decide_eq_true hc]
  obtain ⟨k, rfl⟩ := Int.eq_ofNat_of_zero_le hc.1
  have hkQ : k < nQ := by omega
  have hSQ : nS = nQ := HRok.out.s
  have hk : k < nS := by omega
  have hk' : (k : Int) < nS := by omega
  clear hc hSQ
  go_wp2_with fail
  refine (isSize_any s _).mono ?_
  rintro e w2' ⟨rfl, hw⟩
  rw [hw]
  clear hw w2'
  by_cases hsz : 1 ≤ s ∧ s ≤ 5
  rotate_left
  · have HNo : Hid (¬ waitsP ⟨aQ, nQ, cQ, q, aD, nD, cD, d, turn, fresh, aS, nS, cS, A, L, C, z⟩ (k : Int) s) := fun hh => hsz hh.2.2.1
    rw [decide_eq_false hsz]
    clear hsz
    have hokF : ok = false := by
      cases ok
      · rfl
      · exact absurd (HO.out.1 rfl) HNo.out
    subst hokF
    have cX := blk_cell kB
    have fX := blk_free kB
    go_wp2_with fail
    have ht := put5_touch w2 (w.heap.size + 1) (.slice none 0 0) (.slice none 0 0) (.int .i64 0) (.bool false) (.slice none 0 0)
    have cF := blk_cell (put5_blk kB (.slice none 0 0) (.slice none 0 0) (.int .i64 0) (.bool false) (.slice none 0 0))
    have hBf := B2.trans (ht.below B2.size (fun x hx => by simp at hx; omega))
    unfold put5 at cF hBf
    exact bodyPost_ret (v := .tuple #[.agg zR.cells, .bool false]) (by simp [results, Try.results17, go_sem, cF, zR, Rnd.cells]) rfl ⟨zR, rfl, zR_own _ _, hBf, Alike.refl _⟩
  rw [decide_eq_true hsz]
  have HSz : Hid (1 ≤ s ∧ s ≤ 5) := hsz
  clear hsz
  have hL1 : (L k : Int) ≤ 1048576 := by have : L k ≤ 1048576 := HS.out.l k hk; omega
  obtain ⟨gs, os, rfl, hcl⟩ := (HR.out.s.up B2) k hk
  dsimp only at hcl
  by_cases hL : (L k : Int) < 1000
  rotate_left
  · have HNo : Hid (¬ waitsP ⟨aQ, nQ, cQ, q, aD, nD, cD, d, turn, fresh, some ⟨gs, os, none⟩, nS, cS, A, L, C, z⟩ (k : Int) s) := fun hh => hL (by have h7 : L (k : Int).toNat < 1000 := hh.2.2.2; simp at h7; omega)
    have hokF : ok = false := by
      cases ok
      · rfl
      · exact absurd (HO.out.1 rfl) HNo.out
    subst hokF
    have cX := blk_cell kB
    have fX := blk_free kB
    go_wp2_with fail
    have ht := put5_touch w2 (w.heap.size + 1) (.slice none 0 0) (.slice none 0 0) (.int .i64 0) (.bool false) (.slice none 0 0)
    have cF := blk_cell (put5_blk kB (.slice none 0 0) (.slice none 0 0) (.int .i64 0) (.bool false) (.slice none 0 0))
    have hBf := B2.trans (ht.below B2.size (fun x hx => by simp at hx; omega))
    unfold put5 at cF hBf
    exact bodyPost_ret (v := .tuple #[.agg zR.cells, .bool false]) (by simp [results, Try.results17, go_sem, cF, zR, Rnd.cells]) rfl ⟨zR, rfl, zR_own _ _, hBf, Alike.refl _⟩
  have HOk : Hid (ok = true) := HO.out.2 ⟨HRok.out, ⟨by omega, by show (k : Int) < nQ; omega⟩, HSz.out, by show L (k : Int).toNat < 1000; simp; omega⟩
  go_wp2_with fail
  refine (copyRound_any ⟨aQ, nQ, cQ, q, aD, nD, cD, d, turn, fresh, some ⟨gs, os, none⟩, nS, cS, A, L, C, z⟩ _ HS.out (HR.out.up B2)).mono ?_
  rintro e w3 ⟨aq, cq, ad, cd, gS, A', C', rfl, hZ, hb3⟩
  have kB3 := (hb3.block _ (blk_lt kB)).trans kB
  have B3 := B2.trans (hb3.mono B2.size)
  have z3 : w2.heap.size ≤ w3.heap.size := hb3.size
  clear hb3 B2 kA kB cA hcl
  have hX : Below w3.heap.size w3 (w3.alloc (.cells #[.slice aq nQ cq, .slice ad nD cd, .int .i64 turn, .bool fresh, .slice (some ⟨gS, 0, none⟩) nS nS] 27)).drew := ((Below.refl _ _).alloc (Nat.le_refl _) _).drew
  have kT := blk_new w3 (.cells #[.slice aq nQ cq, .slice ad nD cd, .int .i64 turn, .bool fresh, .slice (some ⟨gS, 0, none⟩) nS nS] 27)
  have kT4 : (w3.alloc (.cells #[.slice aq nQ cq, .slice ad nD cd, .int .i64 turn, .bool fresh, .slice (some ⟨gS, 0, none⟩) nS nS] 27)).drew.heap[w3.heap.size]? = _ := kT
  have kB4 := (hX.block _ (blk_lt kB3)).trans kB3
  have hZ4 := hZ.up hX
  have B4 := B3.trans (hX.mono B3.size)
  clear hX kT kB3 hZ B3
  simp only [Rnd.cp, Rnd.cells]
  go_wp2_with fail
  generalize (w3.alloc (.cells #[.slice aq nQ cq, .slice ad nD cd, .int .i64 turn, .bool fresh, .slice (some ⟨gS, 0, none⟩) nS nS] 27)) = Wx at *
  have hbw : w.heap.size ≤ w2.heap.size := by omega
  have hz4 : w2.heap.size ≤ Wx.drew.heap.size := Nat.le_trans z3 (Nat.le_of_lt (blk_lt kT4))
  obtain ⟨W4, hW4⟩ : ∃ W4, W4 = Wx.drew := ⟨_, rfl⟩
  rw [← hW4] at kT4 kB4 hZ4 B4 hz4
  obtain ⟨a', c', W5, hrun, hP⟩ := hZ4.pushed (c := k) (gS := gS) hk (show L k ≤ 1000 by omega) hz4 rfl s
  dsimp only [Rnd.cp] at hrun
  have hrow : w2.heap.size ≤ gS ∧ RowTo gS 24 nS (fun i => .slice (A' i) (L i) (C' i)) nS W4 := by
    rcases hZ4.own.s with h0 | ⟨g, hg, hbg, hr⟩
    · exact absurd hk (by rw [show nS = 0 from h0]; omega)
    · cases hg
      exact ⟨hbg, hr⟩
  obtain ⟨hgS, hr4⟩ := hrow
  have hAl := (Below.refl W4.heap.size W4).alloc (Nat.le_refl _) (.cells #[.int .i64 s] 2)
  have rS4 := hr4.at k hk
  have rS4' := (hr4.keep (hAl.block _ hr4.lt)).at k hk
  have hne : w3.heap.size ≠ gS := fun e => by
    obtain ⟨arr, hx, _⟩ := hr4
    rw [← e, kT4] at hx
    simp at hx
  have q0 : W4.cell? ⟨w3.heap.size, 4, none⟩ = some (.slice (some ⟨gS, 0, none⟩) nS nS) := blk_cell kT4 4
  have q1 : (W4.alloc (.cells #[.int .i64 s] 2)).cell? ⟨w3.heap.size, 4, none⟩ = some (.slice (some ⟨gS, 0, none⟩) nS nS) := blk_cell ((hAl.block _ (blk_lt kT4)).trans kT4) 4
  have kT5 := hP.box _ _ _ (by decide) kT4
  have q2 : W5.cell? ⟨w3.heap.size, 4, none⟩ = some (.slice (some ⟨gS, 0, none⟩) nS nS) := blk_cell kT5 4
  have kT6 := (blk_set_ne (w := W5) (g := gS) (i := k) hne (.slice a' (L k + 1) c')).trans kT5
  have q3 : (W5.setCell ⟨gS, k, none⟩ (.slice a' (L k + 1) c')).cell? ⟨w3.heap.size, 4, none⟩ = some (.slice (some ⟨gS, 0, none⟩) nS nS) := blk_cell kT6 4
  have cS5 := hP.row.at k hk
  have fS5 := hP.row.free k
  dsimp only [Rnd.cp] at cS5 rS4 rS4'
  obtain ⟨W6, hW6⟩ : ∃ W6, W6 = W5.setCell ⟨gS, k, none⟩ (.slice a' (L k + 1) c') := ⟨_, rfl⟩
  have HOw : Hid (OwnRn W6 w2.heap.size ((Rnd.cp ⟨aQ, nQ, cQ, q, aD, nD, cD, d, turn, fresh, some ⟨gs, os, none⟩, nS, cS, A, L, C, z⟩ aq cq ad cd gS A' C').push k s a' c')) := by rw [Hid, hW6]; exact hP.own
  have hB6 : Below w2.heap.size W4 W6 := by rw [hW6]; exact hP.below
  have kB6 := (hB6.block _ (show w.heap.size + 1 < w2.heap.size by omega)).trans kB4
  have HB6 : Hid (Below w.heap.size w W6) := B4.trans (hB6.mono hbw)
  rw [← hW6] at kT6
  have cT6 := blk_cell kT6
  have cB6 := blk_cell kB6
  have fB6 := blk_free kB6
  have HAl : Hid (Alike (waitsM ⟨aQ, nQ, cQ, q, aD, nD, cD, d, turn, fresh, some ⟨gs, os, none⟩, nS, cS, A, L, C, z⟩ (k : Int) s true) ((Rnd.cp ⟨aQ, nQ, cQ, q, aD, nD, cD, d, turn, fresh, some ⟨gs, os, none⟩, nS, cS, A, L, C, z⟩ aq cq ad cd gS A' C').push k s a' c')) := by
    show Alike (Rnd.push ⟨aQ, nQ, cQ, q, aD, nD, cD, d, turn, fresh, some ⟨gs, os, none⟩, nS, cS, A, L, C, z⟩ (k : Int).toNat s none 0) _
    rw [Int.toNat_natCast]
    exact ⟨rfl, rfl, rfl, rfl, rfl, rfl, rfl, rfl, rfl⟩
  have hokT := HOk.out
  subst hokT
  have HW6 : Hid (W6 = W5.setCell ⟨gS, k, none⟩ (.slice a' (L k + 1) c')) := hW6
  clear hP hB6 hZ4 hr4 hAl kT5 HO HOk B4 kB4 hW6
  refine wp_region_held_drew (S := fun w' => w'.cell? ⟨w3.heap.size, 4, none⟩ = some (.slice (some ⟨gS, 0, none⟩) nS nS)) (by kernel_rfl) (by rw [← hW4]; exact q0) (fun hHeld => ?_)
  rw [← hW4] at hHeld ⊢
  clear hW4 kT4
  refine takeD (i := 0) (some 35) (v := ?_) rfl rfl (by kernel_rfl) (by kernel_rfl) (by kernel_rfl) (fun _ _ _ h => h) (by kernel_rfl) ?_ (by assumption) ?_
  rotate_left
  · intro wx hSw
    try dsimp only at hSw
    go_simp
    try (with_reducible rfl)
  try simp only [Act.put, List.setIfInBounds_toArray, List.set_cons_zero, List.set_cons_succ]
  refine takeD (i := 1) (some 36) (v := ?_) rfl rfl (by kernel_rfl) (by kernel_rfl) (by kernel_rfl) (fun _ _ _ h => h) (by kernel_rfl) ?_ (by assumption) ?_
  rotate_left
  · intro wx hSw
    try dsimp only at hSw
    go_simp
    try (with_reducible rfl)
  try simp only [Act.put, List.setIfInBounds_toArray, List.set_cons_zero, List.set_cons_succ]
  refine takeD (i := 2) (some 37) (v := ?_) rfl rfl (by kernel_rfl) (by kernel_rfl) (by kernel_rfl) (fun _ _ _ h => h) (by kernel_rfl) ?_ (by assumption) ?_
  rotate_left
  · intro wx hSw
    try dsimp only at hSw
    go_simp
    try (with_reducible rfl)
  try simp only [Act.put, List.setIfInBounds_toArray, List.set_cons_zero, List.set_cons_succ]
  refine takeD (i := 3) (some 38) (v := ?_) rfl rfl (by kernel_rfl) (by kernel_rfl) (by kernel_rfl) (fun _ _ _ h => h) (by kernel_rfl) ?_ (by assumption) ?_
  rotate_left
  · intro wx hSw
    try dsimp only at hSw
    go_simp
    try (with_reducible rfl)
  try simp only [Act.put, List.setIfInBounds_toArray, List.set_cons_zero, List.set_cons_succ]
  refine takeD (i := 4) (some 39) (v := ?_) rfl rfl (by kernel_rfl) (by kernel_rfl) (by kernel_rfl) (fun _ _ _ h => h) (by kernel_rfl) ?_ (by assumption) ?_
  rotate_left
  · intro wx hSw
    try dsimp only at hSw
    go_simp
    try (with_reducible rfl)
  try simp only [Act.put, List.setIfInBounds_toArray, List.set_cons_zero, List.set_cons_succ]
  refine takeD (i := 5) (some 40) (v := ?_) rfl rfl (by kernel_rfl) (by kernel_rfl) (by kernel_rfl) (fun _ _ _ h => h) (by kernel_rfl) ?_ (by assumption) ?_
  rotate_left
  · intro wx hSw
    try dsimp only at hSw
    go_simp
    try (with_reducible rfl)
  try simp only [Act.put, List.setIfInBounds_toArray, List.set_cons_zero, List.set_cons_succ]
  refine takeD (i := 6) (some 41) (v := ?_) rfl rfl (by kernel_rfl) (by kernel_rfl) (by kernel_rfl) (fun _ _ _ h => h) (by kernel_rfl) ?_ (by assumption) ?_
  rotate_left
  · intro wx hSw
    try dsimp only at hSw
    go_simp
    try (with_reducible rfl)
  try simp only [Act.put, List.setIfInBounds_toArray, List.set_cons_zero, List.set_cons_succ]
  refine takeD (i := 8) (some 43) (v := ?_) rfl rfl (by kernel_rfl) (by kernel_rfl) (by kernel_rfl) (fun _ _ _ h => h) (by kernel_rfl) ?_ (by assumption) ?_
  rotate_left
  · intro wx hSw
    try dsimp only at hSw
    go_simp
    try (with_reducible rfl)
  try simp only [Act.put, List.setIfInBounds_toArray, List.set_cons_zero, List.set_cons_succ]
  refine wpAnyH_ready (rs := [7, 9]) (by kernel_rfl) (by simp) ?_
  refine AllReadyH.cons rfl (fun K hK => ?_) (AllReadyH.cons rfl (fun K hK => ?_) AllReadyH.nil)
  · go_simp
    refine hK.out _ _ q0 (fun hHeld => ?_)
    clear hK K
    try simp only [Act.put, List.setIfInBounds_toArray, List.set_cons_zero, List.set_cons_succ]
    refine wpAnyH_ready (rs := [9]) (by kernel_rfl) (by simp) ?_
    refine AllReadyH.cons rfl (fun K hK => ?_) AllReadyH.nil
    go_simp
    refine hK.out _ _ q1 (fun hHeld => ?_)
    clear hK K
    try simp only [Act.put, List.setIfInBounds_toArray, List.set_cons_zero, List.set_cons_succ]
    refine wpAnyH_ready (rs := [10]) (by kernel_rfl) (by simp) ?_
    refine AllReadyH.cons rfl (fun K hK => ?_) AllReadyH.nil
    refine wp_appD (by kernel_rfl) (some 45) (.tmp 42) (.tmp 44) 24 _ _ _ rfl rfl rfl rfl rfl hrun ?_
    refine hK.out _ _ q2 (fun hHeld => ?_)
    clear hK K
    try simp only [Act.put, List.setIfInBounds_toArray, List.set_cons_zero, List.set_cons_succ]
    refine takeD (i := 11) (some 46) (v := ?_) rfl rfl (by kernel_rfl) (by kernel_rfl) (by kernel_rfl) (fun _ _ _ h => h) (by kernel_rfl) ?_ (by assumption) ?_
    rotate_left
    · intro wx hSw
      try dsimp only at hSw
      go_simp
      try (with_reducible rfl)
    try simp only [Act.put, List.setIfInBounds_toArray, List.set_cons_zero, List.set_cons_succ]
    refine wpAnyH_ready (rs := [12]) (by kernel_rfl) (by simp) ?_
    refine AllReadyH.cons rfl (fun K hK => ?_) AllReadyH.nil
    go_simp
    refine hK.out _ _ q3 (fun hHeld => ?_)
    clear hK K
    try simp only [Act.put, List.setIfInBounds_toArray, List.set_cons_zero, List.set_cons_succ]
    refine wpAnyH_done (by kernel_rfl) ?_ _
    rw [← HW6.out]
    clear q0 q1 q2 q3 hHeld rS4 rS4' cS5 fS5
    go_wp2_with fail
    have ht := put5_touch W6 (w.heap.size + 1) (.slice aq nQ cq) (.slice ad nD cd) (.int .i64 turn) (.bool fresh) (.slice (some ⟨gS, 0, none⟩) nS nS)
    have cF := blk_cell (put5_blk kB6 (.slice aq nQ cq) (.slice ad nD cd) (.int .i64 turn) (.bool fresh) (.slice (some ⟨gS, 0, none⟩) nS nS))
    have hBf := HB6.out.trans (ht.below HB6.out.size (fun x hx => by simp at hx; omega))
    have hOf := (HOw.out.touch ht (fun x hx => by simp at hx; omega)).mono hbw
    unfold put5 at cF hBf hOf
    exact bodyPost_ret (v := .tuple #[.agg ((Rnd.cp ⟨aQ, nQ, cQ, q, aD, nD, cD, d, turn, fresh, some ⟨gs, os, none⟩, nS, cS, A, L, C, z⟩ aq cq ad cd gS A' C').push k s a' c').cells, .bool true]) (by simp [results, Try.results17, go_sem, cF, Rnd.cp, Rnd.push, Rnd.cells]) rfl ⟨_, rfl, hOf, hBf, HAl.out⟩
  · go_simp
    refine hK.out _ _ q1 (fun hHeld => ?_)
    clear hK K
    try simp only [Act.put, List.setIfInBounds_toArray, List.set_cons_zero, List.set_cons_succ]
    refine wpAnyH_ready (rs := [7]) (by kernel_rfl) (by simp) ?_
    refine AllReadyH.cons rfl (fun K hK => ?_) AllReadyH.nil
    go_simp
    refine hK.out _ _ q1 (fun hHeld => ?_)
    clear hK K
    try simp only [Act.put, List.setIfInBounds_toArray, List.set_cons_zero, List.set_cons_succ]
    refine wpAnyH_ready (rs := [10]) (by kernel_rfl) (by simp) ?_
    refine AllReadyH.cons rfl (fun K hK => ?_) AllReadyH.nil
    refine wp_appD (by kernel_rfl) (some 45) (.tmp 42) (.tmp 44) 24 _ _ _ rfl rfl rfl rfl rfl hrun ?_
    refine hK.out _ _ q2 (fun hHeld => ?_)
    clear hK K
    try simp only [Act.put, List.setIfInBounds_toArray, List.set_cons_zero, List.set_cons_succ]
    refine takeD (i := 11) (some 46) (v := ?_) rfl rfl (by kernel_rfl) (by kernel_rfl) (by kernel_rfl) (fun _ _ _ h => h) (by kernel_rfl) ?_ (by assumption) ?_
    rotate_left
    · intro wx hSw
      try dsimp only at hSw
      go_simp
      try (with_reducible rfl)
    try simp only [Act.put, List.setIfInBounds_toArray, List.set_cons_zero, List.set_cons_succ]
    refine wpAnyH_ready (rs := [12]) (by kernel_rfl) (by simp) ?_
    refine AllReadyH.cons rfl (fun K hK => ?_) AllReadyH.nil
    go_simp
    refine hK.out _ _ q3 (fun hHeld => ?_)
    clear hK K
    try simp only [Act.put, List.setIfInBounds_toArray, List.set_cons_zero, List.set_cons_succ]
    refine wpAnyH_done (by kernel_rfl) ?_ _
    rw [← HW6.out]
    clear q0 q1 q2 q3 hHeld rS4 rS4' cS5 fS5
    go_wp2_with fail
    have ht := put5_touch W6 (w.heap.size + 1) (.slice aq nQ cq) (.slice ad nD cd) (.int .i64 turn) (.bool fresh) (.slice (some ⟨gS, 0, none⟩) nS nS)
    have cF := blk_cell (put5_blk kB6 (.slice aq nQ cq) (.slice ad nD cd) (.int .i64 turn) (.bool fresh) (.slice (some ⟨gS, 0, none⟩) nS nS))
    have hBf := HB6.out.trans (ht.below HB6.out.size (fun x hx => by simp at hx; omega))
    have hOf := (HOw.out.touch ht (fun x hx => by simp at hx; omega)).mono hbw
    unfold put5 at cF hBf hOf
    exact bodyPost_ret (v := .tuple #[.agg ((Rnd.cp ⟨aQ, nQ, cQ, q, aD, nD, cD, d, turn, fresh, some ⟨gs, os, none⟩, nS, cS, A, L, C, z⟩ aq cq ad cd gS A' C').push k s a' c').cells, .bool true]) (by simp [results, Try.results17, go_sem, cF, Rnd.cp, Rnd.push, Rnd.cells]) rfl ⟨_, rfl, hOf, hBf, HAl.out⟩
end Go.Proofs.Ytnfcmiiibkbmfaa
