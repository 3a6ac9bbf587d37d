/- A size that waits behind all others of its class: the specification's answer. -/
import Derived.Test.YtnfcmiiibkbmfaaRnCpS
namespace Go.Proofs.Ytnfcmiiibkbmfaa
open Go.RowKit
set_option linter.unusedVariables false
set_option linter.unusedSimpArgs false
set_option maxRecDepth 100000 in
set_option maxHeartbeats 8000000 in
theorem l4Waits_any (R : Rnd) (k : Nat) (s : Int) (w : World) (hs : R.Small) (h : RdRnd w R) (hk : k < R.nS) (hL : R.L k ≤ 1000) :
    Calls Try.prog 38 #[.agg R.cells, .int .i64 k, .int .i64 s] w fun e w' => ∃ R', e = .returned (.agg R'.cells) ∧ OwnRn w' w.heap.size R' ∧ Below w.heap.size w w' ∧ Alike (R.push k s none 0) R' := by
  obtain ⟨aQ, nQ, cQ, q, aD, nD, cD, d, turn, fresh, aS, nS, cS, A, L, C, z⟩ := R
  have HR : Hid (RdRnd w ⟨aQ, nQ, cQ, q, aD, nD, cD, d, turn, fresh, aS, nS, cS, A, L, C, z⟩) := h
  have HS : Hid (Rnd.Small ⟨aQ, nQ, cQ, q, aD, nD, cD, d, turn, fresh, aS, nS, cS, A, L, C, z⟩) := hs
  dsimp only at hk hL
  have hk' : (k : Int) < nS := by omega
  have hnS : (nS : Int) ≤ 1048576 := by have : nS ≤ 1048576 := hs.s; omega
  clear h hs
  have HA : Hid (∀ A B, Below w.heap.size w ((w.alloc A).alloc B)) := fun A B => ((Below.refl _ _).alloc (Nat.le_refl _) _).alloc (by simp) _
  have e2 : ∀ A B, ((w.alloc A).alloc B).heap.size = w.heap.size + 1 + 1 := fun A B => by simp
  dsimp only [Rnd.cells]
  go_enter Try.func38, Try.ntmps38
  go_wp2_with fail
  refine (l4Copy_any ⟨aQ, nQ, cQ, q, aD, nD, cD, d, turn, fresh, aS, nS, cS, A, L, C, z⟩ _ HS.out (HR.out.up (HA.out _ _))).mono ?_
  rintro e w3 ⟨aq, cq, ad, cd, av, cv, A', C', rfl, hZ, hb3⟩
  obtain ⟨kA, kB3, B3, z3⟩ := two_laidR hb3
  rw [e2] at hZ
  clear hb3 HA kA e2
  obtain ⟨gS, rfl⟩ : ∃ gS, av = some ⟨gS, 0, none⟩ := by
    rcases hZ.own.s with h0 | ⟨g, hg, _, _⟩
    · exact absurd hk (by rw [show nS = 0 from h0]; omega)
    · exact ⟨g, hg⟩
  have hX : Below w3.heap.size w3 (w3.alloc (.cells #[.slice aq nQ cq, .slice ad nD cd, .int .i64 turn, .bool fresh, .slice (some ⟨gS, 0, none⟩) nS cv] 27)).drew := ((Below.refl _ _).alloc (Nat.le_refl _) _).drew
  have kT := blk_new w3 (.cells #[.slice aq nQ cq, .slice ad nD cd, .int .i64 turn, .bool fresh, .slice (some ⟨gS, 0, none⟩) nS cv] 27)
  have kT4 : (w3.alloc (.cells #[.slice aq nQ cq, .slice ad nD cd, .int .i64 turn, .bool fresh, .slice (some ⟨gS, 0, none⟩) nS cv] 27)).drew.heap[w3.heap.size]? = _ := kT
  have kB4 := (hX.block _ (blk_lt kB3)).trans kB3
  have hZ4 := hZ.up hX
  have B4 := B3.trans (hX.mono B3.size)
  clear hX kT kB3 hZ B3
  simp only [Rnd.cp2, Rnd.cells]
  go_wp2_with fail
  generalize (w3.alloc (.cells #[.slice aq nQ cq, .slice ad nD cd, .int .i64 turn, .bool fresh, .slice (some ⟨gS, 0, none⟩) nS cv] 27)) = Wx at *
  have hbw : w.heap.size ≤ w.heap.size + 1 + 1 := by omega
  have hz4 : w.heap.size + 1 + 1 ≤ Wx.drew.heap.size := by have := blk_lt kT4; omega
  obtain ⟨W4, hW4⟩ : ∃ W4, W4 = Wx.drew := ⟨_, rfl⟩
  rw [← hW4] at kT4 kB4 hZ4 B4 hz4
  obtain ⟨a', c', W5, hrun, hP⟩ := hZ4.pushed (c := k) (gS := gS) hk hL hz4 rfl s
  dsimp only [Rnd.cp2] at hrun
  have hrow : w.heap.size + 1 + 1 ≤ gS ∧ RowTo gS 24 nS (fun i => .slice (A' i) (L i) (C' i)) nS W4 := by
    rcases hZ4.own.s with h0 | ⟨g, hg, hbg, hr⟩
    · exact absurd hk (by rw [show nS = 0 from h0]; omega)
    · cases hg
      exact ⟨hbg, hr⟩
  obtain ⟨hgS, hr4⟩ := hrow
  have hAl := (Below.refl W4.heap.size W4).alloc (Nat.le_refl _) (.cells #[.int .i64 s] 2)
  have rS4 := hr4.at k hk
  have rS4' := (hr4.keep (hAl.block _ hr4.lt)).at k hk
  have hne : w3.heap.size ≠ gS := fun e => by
    obtain ⟨arr, hx, _⟩ := hr4
    rw [← e, kT4] at hx
    simp at hx
  have q0 : W4.cell? ⟨w3.heap.size, 4, none⟩ = some (.slice (some ⟨gS, 0, none⟩) nS cv) := blk_cell kT4 4
  have q1 : (W4.alloc (.cells #[.int .i64 s] 2)).cell? ⟨w3.heap.size, 4, none⟩ = some (.slice (some ⟨gS, 0, none⟩) nS cv) := blk_cell ((hAl.block _ (blk_lt kT4)).trans kT4) 4
  have kT5 := hP.box _ _ _ (by decide) kT4
  have q2 : W5.cell? ⟨w3.heap.size, 4, none⟩ = some (.slice (some ⟨gS, 0, none⟩) nS cv) := blk_cell kT5 4
  have kT6 := (blk_set_ne (w := W5) (g := gS) (i := k) hne (.slice a' (L k + 1) c')).trans kT5
  have q3 : (W5.setCell ⟨gS, k, none⟩ (.slice a' (L k + 1) c')).cell? ⟨w3.heap.size, 4, none⟩ = some (.slice (some ⟨gS, 0, none⟩) nS cv) := blk_cell kT6 4
  have cS5 := hP.row.at k hk
  have fS5 := hP.row.free k
  dsimp only [Rnd.cp2] at cS5 rS4 rS4'
  obtain ⟨W6, hW6⟩ : ∃ W6, W6 = W5.setCell ⟨gS, k, none⟩ (.slice a' (L k + 1) c') := ⟨_, rfl⟩
  have HOw : Hid (OwnRn W6 (w.heap.size + 1 + 1) ((Rnd.cp2 ⟨aQ, nQ, cQ, q, aD, nD, cD, d, turn, fresh, aS, nS, cS, A, L, C, z⟩ aq cq ad cd (some ⟨gS, 0, none⟩) cv A' C').push k s a' c')) := by rw [Hid, hW6]; exact hP.own
  have hB6 : Below (w.heap.size + 1 + 1) W4 W6 := by rw [hW6]; exact hP.below
  have kB6 := (hB6.block _ (show w.heap.size + 1 < w.heap.size + 1 + 1 by omega)).trans kB4
  have HB6 : Hid (Below w.heap.size w W6) := B4.trans (hB6.mono hbw)
  rw [← hW6] at kT6
  have cT6 := blk_cell kT6
  have cB6 := blk_cell kB6
  have fB6 := blk_free kB6
  have HAl : Hid (Alike (Rnd.push ⟨aQ, nQ, cQ, q, aD, nD, cD, d, turn, fresh, aS, nS, cS, A, L, C, z⟩ k s none 0) ((Rnd.cp2 ⟨aQ, nQ, cQ, q, aD, nD, cD, d, turn, fresh, aS, nS, cS, A, L, C, z⟩ aq cq ad cd (some ⟨gS, 0, none⟩) cv A' C').push k s a' c')) := ⟨rfl, rfl, rfl, rfl, rfl, rfl, rfl, rfl, rfl⟩
  have HW6 : Hid (W6 = W5.setCell ⟨gS, k, none⟩ (.slice a' (L k + 1) c')) := hW6
  clear hP hB6 hZ4 hr4 hAl kT5 B4 kB4 hW6
  refine wp_region_held_drew (S := fun w' => w'.cell? ⟨w3.heap.size, 4, none⟩ = some (.slice (some ⟨gS, 0, none⟩) nS cv)) (by kernel_rfl) (by rw [← hW4]; exact q0) (fun hHeld => ?_)
  rw [← hW4] at hHeld ⊢
  clear hW4 kT4
  refine takeD (i := 0) (some 10) (v := ?_) rfl rfl (by kernel_rfl) (by kernel_rfl) (by kernel_rfl) (fun _ _ _ h => h) (by kernel_rfl) ?_ (by assumption) ?_
  rotate_left
  · intro wx hSw
    try dsimp only at hSw
    go_simp
    try (with_reducible rfl)
  try simp only [Act.put, List.setIfInBounds_toArray, List.set_cons_zero, List.set_cons_succ]
  refine takeD (i := 1) (some 11) (v := ?_) rfl rfl (by kernel_rfl) (by kernel_rfl) (by kernel_rfl) (fun _ _ _ h => h) (by kernel_rfl) ?_ (by assumption) ?_
  rotate_left
  · intro wx hSw
    try dsimp only at hSw
    go_simp
    try (with_reducible rfl)
  try simp only [Act.put, List.setIfInBounds_toArray, List.set_cons_zero, List.set_cons_succ]
  refine takeD (i := 2) (some 12) (v := ?_) rfl rfl (by kernel_rfl) (by kernel_rfl) (by kernel_rfl) (fun _ _ _ h => h) (by kernel_rfl) ?_ (by assumption) ?_
  rotate_left
  · intro wx hSw
    try dsimp only at hSw
    go_simp
    try (with_reducible rfl)
  try simp only [Act.put, List.setIfInBounds_toArray, List.set_cons_zero, List.set_cons_succ]
  refine takeD (i := 3) (some 13) (v := ?_) rfl rfl (by kernel_rfl) (by kernel_rfl) (by kernel_rfl) (fun _ _ _ h => h) (by kernel_rfl) ?_ (by assumption) ?_
  rotate_left
  · intro wx hSw
    try dsimp only at hSw
    go_simp
    try (with_reducible rfl)
  try simp only [Act.put, List.setIfInBounds_toArray, List.set_cons_zero, List.set_cons_succ]
  refine takeD (i := 4) (some 14) (v := ?_) rfl rfl (by kernel_rfl) (by kernel_rfl) (by kernel_rfl) (fun _ _ _ h => h) (by kernel_rfl) ?_ (by assumption) ?_
  rotate_left
  · intro wx hSw
    try dsimp only at hSw
    go_simp
    try (with_reducible rfl)
  try simp only [Act.put, List.setIfInBounds_toArray, List.set_cons_zero, List.set_cons_succ]
  refine takeD (i := 5) (some 15) (v := ?_) rfl rfl (by kernel_rfl) (by kernel_rfl) (by kernel_rfl) (fun _ _ _ h => h) (by kernel_rfl) ?_ (by assumption) ?_
  rotate_left
  · intro wx hSw
    try dsimp only at hSw
    go_simp
    try (with_reducible rfl)
  try simp only [Act.put, List.setIfInBounds_toArray, List.set_cons_zero, List.set_cons_succ]
  refine takeD (i := 6) (some 16) (v := ?_) rfl rfl (by kernel_rfl) (by kernel_rfl) (by kernel_rfl) (fun _ _ _ h => h) (by kernel_rfl) ?_ (by assumption) ?_
  rotate_left
  · intro wx hSw
    try dsimp only at hSw
    go_simp
    try (with_reducible rfl)
  try simp only [Act.put, List.setIfInBounds_toArray, List.set_cons_zero, List.set_cons_succ]
  refine takeD (i := 8) (some 18) (v := ?_) rfl rfl (by kernel_rfl) (by kernel_rfl) (by kernel_rfl) (fun _ _ _ h => h) (by kernel_rfl) ?_ (by assumption) ?_
  rotate_left
  · intro wx hSw
    try dsimp only at hSw
    go_simp
    try (with_reducible rfl)
  try simp only [Act.put, List.setIfInBounds_toArray, List.set_cons_zero, List.set_cons_succ]
  refine wpAnyH_ready (rs := [7, 9]) (by kernel_rfl) (by simp) ?_
  refine AllReadyH.cons rfl (fun K hK => ?_) (AllReadyH.cons rfl (fun K hK => ?_) AllReadyH.nil)
  · go_simp
    refine hK.out _ _ q0 (fun hHeld => ?_)
    clear hK K
    try simp only [Act.put, List.setIfInBounds_toArray, List.set_cons_zero, List.set_cons_succ]
    refine wpAnyH_ready (rs := [9]) (by kernel_rfl) (by simp) ?_
    refine AllReadyH.cons rfl (fun K hK => ?_) AllReadyH.nil
    go_simp
    refine hK.out _ _ q1 (fun hHeld => ?_)
    clear hK K
    try simp only [Act.put, List.setIfInBounds_toArray, List.set_cons_zero, List.set_cons_succ]
    refine wpAnyH_ready (rs := [10]) (by kernel_rfl) (by simp) ?_
    refine AllReadyH.cons rfl (fun K hK => ?_) AllReadyH.nil
    refine wp_appD (by kernel_rfl) (some 20) (.tmp 17) (.tmp 19) 24 _ _ _ rfl rfl rfl rfl rfl hrun ?_
    refine hK.out _ _ q2 (fun hHeld => ?_)
    clear hK K
    try simp only [Act.put, List.setIfInBounds_toArray, List.set_cons_zero, List.set_cons_succ]
    refine takeD (i := 11) (some 21) (v := ?_) rfl rfl (by kernel_rfl) (by kernel_rfl) (by kernel_rfl) (fun _ _ _ h => h) (by kernel_rfl) ?_ (by assumption) ?_
    rotate_left
    · intro wx hSw
      try dsimp only at hSw
      go_simp
      try (with_reducible rfl)
    try simp only [Act.put, List.setIfInBounds_toArray, List.set_cons_zero, List.set_cons_succ]
    refine wpAnyH_ready (rs := [12]) (by kernel_rfl) (by simp) ?_
    refine AllReadyH.cons rfl (fun K hK => ?_) AllReadyH.nil
    go_simp
    refine hK.out _ _ q3 (fun hHeld => ?_)
    clear hK K
    try simp only [Act.put, List.setIfInBounds_toArray, List.set_cons_zero, List.set_cons_succ]
    refine wpAnyH_done (by kernel_rfl) ?_ _
    rw [← HW6.out]
    clear q0 q1 q2 q3 hHeld rS4 rS4' cS5 fS5
    go_wp2_with fail
    have ht := put5_touch W6 (w.heap.size + 1) (.slice aq nQ cq) (.slice ad nD cd) (.int .i64 turn) (.bool fresh) (.slice (some ⟨gS, 0, none⟩) nS cv)
    have cF := blk_cell (put5_blk kB6 (.slice aq nQ cq) (.slice ad nD cd) (.int .i64 turn) (.bool fresh) (.slice (some ⟨gS, 0, none⟩) nS cv))
    have hBf := HB6.out.trans (ht.below HB6.out.size (fun x hx => by simp at hx; omega))
    have hOf := (HOw.out.touch ht (fun x hx => by simp at hx; omega)).mono hbw
    unfold put5 at cF hBf hOf
    exact bodyPost_ret (v := .agg ((Rnd.cp2 ⟨aQ, nQ, cQ, q, aD, nD, cD, d, turn, fresh, aS, nS, cS, A, L, C, z⟩ aq cq ad cd (some ⟨gS, 0, none⟩) cv A' C').push k s a' c').cells) (by simp [results, Try.results38, go_sem, cF, Rnd.cp2, Rnd.push, Rnd.cells]) rfl ⟨_, rfl, hOf, hBf, HAl.out⟩
  · go_simp
    refine hK.out _ _ q1 (fun hHeld => ?_)
    clear hK K
    try simp only [Act.put, List.setIfInBounds_toArray, List.set_cons_zero, List.set_cons_succ]
    refine wpAnyH_ready (rs := [7]) (by kernel_rfl) (by simp) ?_
    refine AllReadyH.cons rfl (fun K hK => ?_) AllReadyH.nil
    go_simp
    refine hK.out _ _ q1 (fun hHeld => ?_)
    clear hK K
    try simp only [Act.put, List.setIfInBounds_toArray, List.set_cons_zero, List.set_cons_succ]
    refine wpAnyH_ready (rs := [10]) (by kernel_rfl) (by simp) ?_
    refine AllReadyH.cons rfl (fun K hK => ?_) AllReadyH.nil
    refine wp_appD (by kernel_rfl) (some 20) (.tmp 17) (.tmp 19) 24 _ _ _ rfl rfl rfl rfl rfl hrun ?_
    refine hK.out _ _ q2 (fun hHeld => ?_)
    clear hK K
    try simp only [Act.put, List.setIfInBounds_toArray, List.set_cons_zero, List.set_cons_succ]
    refine takeD (i := 11) (some 21) (v := ?_) rfl rfl (by kernel_rfl) (by kernel_rfl) (by kernel_rfl) (fun _ _ _ h => h) (by kernel_rfl) ?_ (by assumption) ?_
    rotate_left
    · intro wx hSw
      try dsimp only at hSw
      go_simp
      try (with_reducible rfl)
    try simp only [Act.put, List.setIfInBounds_toArray, List.set_cons_zero, List.set_cons_succ]
    refine wpAnyH_ready (rs := [12]) (by kernel_rfl) (by simp) ?_
    refine AllReadyH.cons rfl (fun K hK => ?_) AllReadyH.nil
    go_simp
    refine hK.out _ _ q3 (fun hHeld => ?_)
    clear hK K
    try simp only [Act.put, List.setIfInBounds_toArray, List.set_cons_zero, List.set_cons_succ]
    refine wpAnyH_done (by kernel_rfl) ?_ _
    rw [← HW6.out]
    clear q0 q1 q2 q3 hHeld rS4 rS4' cS5 fS5
    go_wp2_with fail
    have ht := put5_touch W6 (w.heap.size + 1) (.slice aq nQ cq) (.slice ad nD cd) (.int .i64 turn) (.bool fresh) (.slice (some ⟨gS, 0, none⟩) nS cv)
    have cF := blk_cell (put5_blk kB6 (.slice aq nQ cq) (.slice ad nD cd) (.int .i64 turn) (.bool fresh) (.slice (some ⟨gS, 0, none⟩) nS cv))
    have hBf := HB6.out.trans (ht.below HB6.out.size (fun x hx => by simp at hx; omega))
    have hOf := (HOw.out.touch ht (fun x hx => by simp at hx; omega)).mono hbw
    unfold put5 at cF hBf hOf
    exact bodyPost_ret (v := .agg ((Rnd.cp2 ⟨aQ, nQ, cQ, q, aD, nD, cD, d, turn, fresh, aS, nS, cS, A, L, C, z⟩ aq cq ad cd (some ⟨gS, 0, none⟩) cv A' C').push k s a' c').cells) (by simp [results, Try.results38, go_sem, cF, Rnd.cp2, Rnd.push, Rnd.cells]) rfl ⟨_, rfl, hOf, hBf, HAl.out⟩
set_option maxRecDepth 100000 in
set_option maxHeartbeats 8000000 in
theorem sWaits_any (R : Rnd) (c s : Int) (w : World) (hs : R.Small) (h : RdRnd w R) (ok : Bool) (hok : ok = true ↔ waitsP R c s) :
    Calls Try.prog 22 #[.agg R.cells, .int .i64 c, .int .i64 s] w fun e w' => ∃ R', e = .returned (.tuple #[.agg R'.cells, .bool ok]) ∧ OwnRn w' w.heap.size R' ∧ Below w.heap.size w w' ∧ Alike (waitsM R c s ok) R' := by
  obtain ⟨aQ, nQ, cQ, q, aD, nD, cD, d, turn, fresh, aS, nS, cS, A, L, C, z⟩ := R
  have HR : Hid (RdRnd w ⟨aQ, nQ, cQ, q, aD, nD, cD, d, turn, fresh, aS, nS, cS, A, L, C, z⟩) := h
  have HS : Hid (Rnd.Small ⟨aQ, nQ, cQ, q, aD, nD, cD, d, turn, fresh, aS, nS, cS, A, L, C, z⟩) := hs
  have HO : Hid (ok = true ↔ waitsP ⟨aQ, nQ, cQ, q, aD, nD, cD, d, turn, fresh, aS, nS, cS, A, L, C, z⟩ c s) := hok
  obtain ⟨okR, hokR⟩ := ok_decR (Rnd.Ok ⟨aQ, nQ, cQ, q, aD, nD, cD, d, turn, fresh, aS, nS, cS, A, L, C, z⟩)
  have HOR : Hid (okR = true ↔ Rnd.Ok ⟨aQ, nQ, cQ, q, aD, nD, cD, d, turn, fresh, aS, nS, cS, A, L, C, z⟩) := hokR
  have hwn : IntKind.i64.wrap ((nQ : Int) - 1) = (nQ : Int) - 1 := wrapR _ (by omega) (by have : nQ ≤ 1048576 := hs.q; omega)
  have hwq : IntKind.i64.wrap (nQ : Int) = (nQ : Int) := wrapR _ (by omega) (by have : nQ ≤ 1048576 := hs.q; omega)
  clear h hs hok hokR
  have HA : Hid (∀ A B, Below w.heap.size w ((w.alloc A).alloc B)) := fun A B => ((Below.refl _ _).alloc (Nat.le_refl _) _).alloc (by simp) _
  dsimp only [Rnd.cells]
  go_enter Try.func22, Try.ntmps22
  go_wp2_with fail
  refine (sRoundOk_any ⟨aQ, nQ, cQ, q, aD, nD, cD, d, turn, fresh, aS, nS, cS, A, L, C, z⟩ _ (small_fit HS.out) (HR.out.up (HA.out _ _)) okR HOR.out).mono ?_
  rintro e w1 ⟨rfl, hb1⟩
  obtain ⟨kA, kB, B1, z1⟩ := two_laidR hb1
  clear hb1 HA
  have cA := blk_cell kA
  cases okR
  · have HNo : Hid (¬ waitsP ⟨aQ, nQ, cQ, q, aD, nD, cD, d, turn, fresh, aS, nS, cS, A, L, C, z⟩ c s) := fun hh => absurd (HOR.out.2 hh.1) (by simp)
    have hokF : ok = false := by
      cases ok
      · rfl
      · exact absurd (HO.out.1 rfl) HNo.out
    subst hokF
    have cX := blk_cell kB
    have fX := blk_free kB
    go_wp2_with fail
    have ht := put5_touch w1 (w.heap.size + 1) (.slice none 0 0) (.slice none 0 0) (.int .i64 0) (.bool false) (.slice none 0 0)
    have cF := blk_cell (put5_blk kB (.slice none 0 0) (.slice none 0 0) (.int .i64 0) (.bool false) (.slice none 0 0))
    have hBf := B1.trans (ht.below B1.size (fun x hx => by simp at hx; omega))
    unfold put5 at cF hBf
    exact bodyPost_ret (v := .tuple #[.agg zR.cells, .bool false]) (by simp [results, Try.results22, go_sem, cF, zR, Rnd.cells]) rfl ⟨zR, rfl, zR_own _ _, hBf, Alike.refl _⟩
  have HRok : Hid (Rnd.Ok ⟨aQ, nQ, cQ, q, aD, nD, cD, d, turn, fresh, aS, nS, cS, A, L, C, z⟩) := HOR.out.1 rfl
  go_wp2_with fail
  refine (l1In_any _ _ _ _).mono ?_
  rintro e w1' ⟨rfl, hw⟩
  rw [hw]
  clear hw w1'
  by_cases hc : 0 ≤ c ∧ c ≤ (nQ : Int) - 1
  rotate_left
  · have HNo : Hid (¬ waitsP ⟨aQ, nQ, cQ, q, aD, nD, cD, d, turn, fresh, aS, nS, cS, A, L, C, z⟩ c s) := fun hh => hc ⟨hh.2.1.1, by have h7 : c < (nQ : Int) := hh.2.1.2; omega⟩
    rw [decide_eq_false hc]
    clear hc
    have hokF : ok = false := by
      cases ok
      · rfl
      · exact absurd (HO.out.1 rfl) HNo.out
    subst hokF
    have cX := blk_cell kB
    have fX := blk_free kB
    go_wp2_with fail
    have ht := put5_touch w1 (w.heap.size + 1) (.slice none 0 0) (.slice none 0 0) (.int .i64 0) (.bool false) (.slice none 0 0)
    have cF := blk_cell (put5_blk kB (.slice none 0 0) (.slice none 0 0) (.int .i64 0) (.bool false) (.slice none 0 0))
    have hBf := B1.trans (ht.below B1.size (fun x hx => by simp at hx; omega))
    unfold put5 at cF hBf
    exact bodyPost_ret (v := .tuple #[.agg zR.cells, .bool false]) (by simp [results, Try.results22, go_sem, cF, zR, Rnd.cells]) rfl ⟨zR, rfl, zR_own _ _, hBf, Alike.refl _⟩
  rw [decide_eq_true hc]
  obtain ⟨k, rfl⟩ := Int.eq_ofNat_of_zero_le hc.1
  have hkQ : k < nQ := by omega
  have hSQ : nS = nQ := HRok.out.s
  have hk : k < nS := by omega
  have hk' : (k : Int) < nS := by omega
  clear hc hSQ
  go_wp2_with fail
  refine (l1In_any _ _ _ _).mono ?_
  rintro e w1' ⟨rfl, hw⟩
  rw [hw]
  clear hw w1'
  by_cases hsz : 1 ≤ s ∧ s ≤ 5
  rotate_left
  · have HNo : Hid (¬ waitsP ⟨aQ, nQ, cQ, q, aD, nD, cD, d, turn, fresh, aS, nS, cS, A, L, C, z⟩ (k : Int) s) := fun hh => hsz hh.2.2.1
    rw [decide_eq_false hsz]
    clear hsz
    have hokF : ok = false := by
      cases ok
      · rfl
      · exact absurd (HO.out.1 rfl) HNo.out
    subst hokF
    have cX := blk_cell kB
    have fX := blk_free kB
    go_wp2_with fail
    have ht := put5_touch w1 (w.heap.size + 1) (.slice none 0 0) (.slice none 0 0) (.int .i64 0) (.bool false) (.slice none 0 0)
    have cF := blk_cell (put5_blk kB (.slice none 0 0) (.slice none 0 0) (.int .i64 0) (.bool false) (.slice none 0 0))
    have hBf := B1.trans (ht.below B1.size (fun x hx => by simp at hx; omega))
    unfold put5 at cF hBf
    exact bodyPost_ret (v := .tuple #[.agg zR.cells, .bool false]) (by simp [results, Try.results22, go_sem, cF, zR, Rnd.cells]) rfl ⟨zR, rfl, zR_own _ _, hBf, Alike.refl _⟩
  rw [decide_eq_true hsz]
  have HSz : Hid (1 ≤ s ∧ s ≤ 5) := hsz
  clear hsz
  have hL0 : L k ≤ 1000 := (HRok.out.c k hkQ).2.1.1
  obtain ⟨gs, os, rfl, hcl⟩ := (HR.out.s.up B1) k hk
  dsimp only at hcl
  by_cases hL : L k = 1000
  · have HNo : Hid (¬ waitsP ⟨aQ, nQ, cQ, q, aD, nD, cD, d, turn, fresh, some ⟨gs, os, none⟩, nS, cS, A, L, C, z⟩ (k : Int) s) := fun hh => by
      have h7 : L (k : Int).toNat < 1000 := hh.2.2.2
      simp at h7
      omega
    have hL' : (((L k : Nat) : Int) == 1000) = true := by simp [hL]
    have hL'' : ((L k : Nat) : Int) = 1000 := by omega
    clear hL hL0
    have hokF : ok = false := by
      cases ok
      · rfl
      · exact absurd (HO.out.1 rfl) HNo.out
    subst hokF
    have cX := blk_cell kB
    have fX := blk_free kB
    go_wp2_with fail
    have ht := put5_touch w1 (w.heap.size + 1) (.slice none 0 0) (.slice none 0 0) (.int .i64 0) (.bool false) (.slice none 0 0)
    have cF := blk_cell (put5_blk kB (.slice none 0 0) (.slice none 0 0) (.int .i64 0) (.bool false) (.slice none 0 0))
    have hBf := B1.trans (ht.below B1.size (fun x hx => by simp at hx; omega))
    unfold put5 at cF hBf
    exact bodyPost_ret (v := .tuple #[.agg zR.cells, .bool false]) (by simp [results, Try.results22, go_sem, cF, zR, Rnd.cells]) rfl ⟨zR, rfl, zR_own _ _, hBf, Alike.refl _⟩
  have hL' : (((L k : Nat) : Int) == 1000) = false := by simp; omega
  have hL'' : ¬ ((L k : Nat) : Int) = 1000 := by omega
  have HOk : Hid (ok = true) := HO.out.2 ⟨HRok.out, ⟨by omega, by show (k : Int) < nQ; omega⟩, HSz.out, by show L (k : Int).toNat < 1000; simp; omega⟩
  have hokT := HOk.out
  subst hokT
  have HL0 : Hid (L k ≤ 1000) := hL0
  clear hL HOk HO hL0
  go_wp2_with fail
  refine (l4Waits_any ⟨aQ, nQ, cQ, q, aD, nD, cD, d, turn, fresh, some ⟨gs, os, none⟩, nS, cS, A, L, C, z⟩ k s _ HS.out (HR.out.up B1) hk HL0.out).mono ?_
  rintro e w2 ⟨R', rfl, hO2, hb2, hA2⟩
  have kB2 := (hb2.block _ (blk_lt kB)).trans kB
  have B2 := B1.trans (hb2.mono B1.size)
  have HO2 : Hid (OwnRn w2 w1.heap.size R') := hO2
  have HA2 : Hid (Alike (waitsM ⟨aQ, nQ, cQ, q, aD, nD, cD, d, turn, fresh, some ⟨gs, os, none⟩, nS, cS, A, L, C, z⟩ (k : Int) s true) R') := by
    show Alike (Rnd.push ⟨aQ, nQ, cQ, q, aD, nD, cD, d, turn, fresh, some ⟨gs, os, none⟩, nS, cS, A, L, C, z⟩ (k : Int).toNat s none 0) _
    rw [Int.toNat_natCast]
    exact hA2
  clear hO2 hb2 hA2 kA kB cA hcl B1
  have cX := blk_cell kB2
  have fX := blk_free kB2
  simp only [Rnd.cells]
  go_wp2_with fail
  have ht := put5_touch w2 (w.heap.size + 1) (.slice R'.aQ R'.nQ R'.cQ) (.slice R'.aD R'.nD R'.cD) (.int .i64 R'.turn) (.bool R'.fresh) (.slice R'.aS R'.nS R'.cS)
  have cF := blk_cell (put5_blk kB2 (.slice R'.aQ R'.nQ R'.cQ) (.slice R'.aD R'.nD R'.cD) (.int .i64 R'.turn) (.bool R'.fresh) (.slice R'.aS R'.nS R'.cS))
  have hBf := B2.trans (ht.below B2.size (fun x hx => by simp at hx; omega))
  have hOf := (HO2.out.touch ht (fun x hx => by simp at hx; omega)).mono (show w.heap.size ≤ w1.heap.size by omega)
  unfold put5 at cF hBf hOf
  exact bodyPost_ret (v := .tuple #[.agg R'.cells, .bool true]) (by simp [results, Try.results22, go_sem, cF, Rnd.cells]) rfl ⟨R', rfl, hOf, hBf, HA2.out⟩
end Go.Proofs.Ytnfcmiiibkbmfaa
