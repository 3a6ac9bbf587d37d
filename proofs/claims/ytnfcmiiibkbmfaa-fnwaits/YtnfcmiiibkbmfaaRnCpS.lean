/- A round copied: the specification's copy. -/
import Derived.Test.YtnfcmiiibkbmfaaRnCp2
import Derived.Test.YtnfcmiiibkbmfaaRnWaitI
namespace Go.Proofs.Ytnfcmiiibkbmfaa
open Go.RowKit
set_option linter.unusedVariables false
set_option linter.unusedSimpArgs false
set_option maxHeartbeats 8000000 in
theorem l4Copy_any (R : Rnd) (w : World) (hs : R.Small) (h : RdRnd w R) :
    Calls Try.prog 36 #[.agg R.cells] w fun e w' => ∃ aq cq ad cd av cv A C, e = .returned (.agg (R.cp2 aq cq ad cd av cv A C).cells) ∧ OwnRz w' w.heap.size (R.cp2 aq cq ad cd av cv A C) ∧ Below w.heap.size w w' := by
  obtain ⟨aQ, nQ, cQ, q, aD, nD, cD, d, turn, fresh, aS, nS, cS, A, L, C, z⟩ := R
  have HS : Hid (Rnd.Small ⟨aQ, nQ, cQ, q, aD, nD, cD, d, turn, fresh, aS, nS, cS, A, L, C, z⟩) := hs
  have hB0 : Below w.heap.size w ((w.alloc (.cells #[.slice aQ nQ cQ, .slice aD nD cD, .int .i64 turn, .bool fresh, .slice aS nS cS] 27)).alloc (.cells #[.slice none 0 0, .slice none 0 0, .int .i64 0, .bool false, .slice none 0 0] 27)) := ((Below.refl _ _).alloc (Nat.le_refl _) _).alloc (by simp) _
  have HRd : Hid (∀ W, Below ((w.alloc (.cells #[.slice aQ nQ cQ, .slice aD nD cD, .int .i64 turn, .bool fresh, .slice aS nS cS] 27)).alloc (.cells #[.slice none 0 0, .slice none 0 0, .int .i64 0, .bool false, .slice none 0 0] 27)).heap.size ((w.alloc (.cells #[.slice aQ nQ cQ, .slice aD nD cD, .int .i64 turn, .bool fresh, .slice aS nS cS] 27)).alloc (.cells #[.slice none 0 0, .slice none 0 0, .int .i64 0, .bool false, .slice none 0 0] 27)) W → RdRnd W ⟨aQ, nQ, cQ, q, aD, nD, cD, d, turn, fresh, aS, nS, cS, A, L, C, z⟩) := fun W hb => h.up (hB0.trans (hb.mono hB0.size))
  have HSz : Hid (((w.alloc (.cells #[.slice aQ nQ cQ, .slice aD nD cD, .int .i64 turn, .bool fresh, .slice aS nS cS] 27)).alloc (.cells #[.slice none 0 0, .slice none 0 0, .int .i64 0, .bool false, .slice none 0 0] 27)).heap.size = w.heap.size + 1 + 1) := by rw [Hid]; simp
  have HkA : Hid (∀ W, Below ((w.alloc (.cells #[.slice aQ nQ cQ, .slice aD nD cD, .int .i64 turn, .bool fresh, .slice aS nS cS] 27)).alloc (.cells #[.slice none 0 0, .slice none 0 0, .int .i64 0, .bool false, .slice none 0 0] 27)).heap.size ((w.alloc (.cells #[.slice aQ nQ cQ, .slice aD nD cD, .int .i64 turn, .bool fresh, .slice aS nS cS] 27)).alloc (.cells #[.slice none 0 0, .slice none 0 0, .int .i64 0, .bool false, .slice none 0 0] 27)) W → W.heap[w.heap.size]? = some (.cells #[.slice aQ nQ cQ, .slice aD nD cD, .int .i64 turn, .bool fresh, .slice aS nS cS] 27 (0, 0)) ∧ W.heap[w.heap.size + 1]? = some (.cells #[.slice none 0 0, .slice none 0 0, .int .i64 0, .bool false, .slice none 0 0] 27 (0, 0)) ∧ Below w.heap.size w W) := fun W hb => by
    obtain ⟨h1, h2, h3, _⟩ := two_laidR hb
    exact ⟨h1, h2, h3⟩
  have HSx : Hid (∀ W, Below ((w.alloc (.cells #[.slice aQ nQ cQ, .slice aD nD cD, .int .i64 turn, .bool fresh, .slice aS nS cS] 27)).alloc (.cells #[.slice none 0 0, .slice none 0 0, .int .i64 0, .bool false, .slice none 0 0] 27)).heap.size ((w.alloc (.cells #[.slice aQ nQ cQ, .slice aD nD cD, .int .i64 turn, .bool fresh, .slice aS nS cS] 27)).alloc (.cells #[.slice none 0 0, .slice none 0 0, .int .i64 0, .bool false, .slice none 0 0] 27)) W → W.cell? ⟨w.heap.size, 0, none⟩ = some (.slice aQ nQ cQ) ∧ W.cell? ⟨w.heap.size, 1, none⟩ = some (.slice aD nD cD) ∧ W.cell? ⟨w.heap.size, 2, none⟩ = some (.int .i64 turn) ∧ W.cell? ⟨w.heap.size, 3, none⟩ = some (.bool fresh)) := fun W hb => by
    have c := blk_cell (HkA.out W hb).1
    exact ⟨c 0, c 1, c 2, c 3⟩
  have HSs : Hid (∀ (W : World) (g : Nat) (v0 v1 v2 v3 v4 : Value), Below ((w.alloc (.cells #[.slice aQ nQ cQ, .slice aD nD cD, .int .i64 turn, .bool fresh, .slice aS nS cS] 27)).alloc (.cells #[.slice none 0 0, .slice none 0 0, .int .i64 0, .bool false, .slice none 0 0] 27)).heap.size ((w.alloc (.cells #[.slice aQ nQ cQ, .slice aD nD cD, .int .i64 turn, .bool fresh, .slice aS nS cS] 27)).alloc (.cells #[.slice none 0 0, .slice none 0 0, .int .i64 0, .bool false, .slice none 0 0] 27)) W → ((w.alloc (.cells #[.slice aQ nQ cQ, .slice aD nD cD, .int .i64 turn, .bool fresh, .slice aS nS cS] 27)).alloc (.cells #[.slice none 0 0, .slice none 0 0, .int .i64 0, .bool false, .slice none 0 0] 27)).heap.size ≤ g → (put5 W g v0 v1 v2 v3 v4).cell? ⟨w.heap.size, 0, none⟩ = some (.slice aQ nQ cQ) ∧ (put5 W g v0 v1 v2 v3 v4).cell? ⟨w.heap.size, 1, none⟩ = some (.slice aD nD cD) ∧ (put5 W g v0 v1 v2 v3 v4).cell? ⟨w.heap.size, 2, none⟩ = some (.int .i64 turn) ∧ (put5 W g v0 v1 v2 v3 v4).cell? ⟨w.heap.size, 3, none⟩ = some (.bool fresh)) := fun W g v0 v1 v2 v3 v4 hb hg => by
    have ht := put5_touch W g v0 v1 v2 v3 v4
    exact HSx.out _ (hb.trans (ht.below hb.size (fun x hx => by simp at hx; omega)))
  have HR : Hid (RdRnd w ⟨aQ, nQ, cQ, q, aD, nD, cD, d, turn, fresh, aS, nS, cS, A, L, C, z⟩) := h
  have hnS : (nS : Int) ≤ 1048576 := by have : nS ≤ 1048576 := hs.s; omega
  clear hB0 h hs
  dsimp only [Rnd.cells]
  go_enter Try.func36, Try.ntmps36
  go_wp2_with fail
  refine wp_mono (Q := fun e a' W => e = .normal ∧ ∃ (aq : Option Addr) (cq : Nat) (ad : Option Addr) (cd gB gE1 gE2 : Nat) (W' : World), Mk2 ⟨aQ, nQ, cQ, q, aD, nD, cD, d, turn, fresh, aS, nS, cS, A, L, C, z⟩ ((w.alloc (.cells #[.slice aQ nQ cQ, .slice aD nD cD, .int .i64 turn, .bool fresh, .slice aS nS cS] 27)).alloc (.cells #[.slice none 0 0, .slice none 0 0, .int .i64 0, .bool false, .slice none 0 0] 27)) W' none none (some aq) (some ad) (some gB) ∧ a' = ⟨#[.agg #[.slice aQ nQ cQ, .slice aD nD cD, .int .i64 turn, .bool fresh, .slice aS nS cS], .pointer (some ⟨w.heap.size, 0, none⟩), .pointer (some ⟨w.heap.size + 1, 0, none⟩), .pointer (some ⟨gB, 0, none⟩), undef, .slice (some ⟨gE1, 0, none⟩) 0 0, .pointer (some ⟨w.heap.size, 0, none⟩), .slice aQ nQ cQ, .slice aq nQ cq, .slice (some ⟨gE2, 0, none⟩) 0 0, .pointer (some ⟨w.heap.size, 1, none⟩), .slice aD nD cD, .slice ad nD cd, .pointer (some ⟨w.heap.size, 2, none⟩), .int .i64 turn, .pointer (some ⟨w.heap.size, 3, none⟩), .bool fresh, .agg #[.slice aq nQ cq, .slice ad nD cd, .int .i64 turn, .bool fresh, .slice none 0 0], undef, undef, undef, undef, undef, undef, undef, undef, undef, undef, undef, undef, undef, undef, undef, undef, undef, undef, undef, undef], []⟩ ∧ W = put5 W' gB (.slice aq nQ cq) (.slice ad nD cd) (.int .i64 turn) (.bool fresh) (.slice none 0 0)) ?_ ?_
  · have hM : Mk2 ⟨aQ, nQ, cQ, q, aD, nD, cD, d, turn, fresh, aS, nS, cS, A, L, C, z⟩ ((w.alloc (.cells #[.slice aQ nQ cQ, .slice aD nD cD, .int .i64 turn, .bool fresh, .slice aS nS cS] 27)).alloc (.cells #[.slice none 0 0, .slice none 0 0, .int .i64 0, .bool false, .slice none 0 0] 27)) ((w.alloc (.cells #[.slice aQ nQ cQ, .slice aD nD cD, .int .i64 turn, .bool fresh, .slice aS nS cS] 27)).alloc (.cells #[.slice none 0 0, .slice none 0 0, .int .i64 0, .bool false, .slice none 0 0] 27)).drew none none none none none := Mk2.start ((Below.refl _ _).drew)
    have hS0 := HSx.out _ hM.below
    refine wp_region_held_drew (S := fun w' => w'.cell? ⟨w.heap.size, 0, none⟩ = some (.slice aQ nQ cQ) ∧ w'.cell? ⟨w.heap.size, 1, none⟩ = some (.slice aD nD cD) ∧ w'.cell? ⟨w.heap.size, 2, none⟩ = some (.int .i64 turn) ∧ w'.cell? ⟨w.heap.size, 3, none⟩ = some (.bool fresh)) (by kernel_rfl) hS0 (fun hHeld => ?_)
    clear hHeld
    have hHeld := hS0
    clear hS0
    generalize hW : ((w.alloc (.cells #[.slice aQ nQ cQ, .slice aD nD cD, .int .i64 turn, .bool fresh, .slice aS nS cS] 27)).alloc (.cells #[.slice none 0 0, .slice none 0 0, .int .i64 0, .bool false, .slice none 0 0] 27)).drew = W at hM hHeld ⊢
    clear hW
    refine takeD (i := 1) (some 6) (v := ?_) rfl rfl (by kernel_rfl) (by kernel_rfl) (by kernel_rfl) (fun _ _ _ h => absurd h.1 (by simp)) (by kernel_rfl) ?_ (by assumption) ?_
    rotate_left
    · intro wx hSw
      obtain ⟨hS1, hS2, hS3, hS4⟩ := hSw
      go_simp
      try (with_reducible rfl)
    try simp only [Act.put, List.setIfInBounds_toArray, List.set_cons_zero, List.set_cons_succ]
    refine takeD (i := 2) (some 7) (v := ?_) rfl rfl (by kernel_rfl) (by kernel_rfl) (by kernel_rfl) (fun _ _ _ h => absurd h.1 (by simp)) (by kernel_rfl) ?_ (by assumption) ?_
    rotate_left
    · intro wx hSw
      obtain ⟨hS1, hS2, hS3, hS4⟩ := hSw
      go_simp
      try (with_reducible rfl)
    try simp only [Act.put, List.setIfInBounds_toArray, List.set_cons_zero, List.set_cons_succ]
    refine takeD (i := 5) (some 10) (v := ?_) rfl rfl (by kernel_rfl) (by kernel_rfl) (by kernel_rfl) (fun _ _ _ h => absurd h.1 (by simp)) (by kernel_rfl) ?_ (by assumption) ?_
    rotate_left
    · intro wx hSw
      obtain ⟨hS1, hS2, hS3, hS4⟩ := hSw
      go_simp
      try (with_reducible rfl)
    try simp only [Act.put, List.setIfInBounds_toArray, List.set_cons_zero, List.set_cons_succ]
    refine takeD (i := 6) (some 11) (v := ?_) rfl rfl (by kernel_rfl) (by kernel_rfl) (by kernel_rfl) (fun _ _ _ h => absurd h.1 (by simp)) (by kernel_rfl) ?_ (by assumption) ?_
    rotate_left
    · intro wx hSw
      obtain ⟨hS1, hS2, hS3, hS4⟩ := hSw
      go_simp
      try (with_reducible rfl)
    try simp only [Act.put, List.setIfInBounds_toArray, List.set_cons_zero, List.set_cons_succ]
    refine takeD (i := 8) (some 13) (v := ?_) rfl rfl (by kernel_rfl) (by kernel_rfl) (by kernel_rfl) (fun _ _ _ h => absurd h.1 (by simp)) (by kernel_rfl) ?_ (by assumption) ?_
    rotate_left
    · intro wx hSw
      obtain ⟨hS1, hS2, hS3, hS4⟩ := hSw
      go_simp
      try (with_reducible rfl)
    try simp only [Act.put, List.setIfInBounds_toArray, List.set_cons_zero, List.set_cons_succ]
    refine takeD (i := 9) (some 14) (v := ?_) rfl rfl (by kernel_rfl) (by kernel_rfl) (by kernel_rfl) (fun _ _ _ h => absurd h.1 (by simp)) (by kernel_rfl) ?_ (by assumption) ?_
    rotate_left
    · intro wx hSw
      obtain ⟨hS1, hS2, hS3, hS4⟩ := hSw
      go_simp
      try (with_reducible rfl)
    try simp only [Act.put, List.setIfInBounds_toArray, List.set_cons_zero, List.set_cons_succ]
    refine takeD (i := 10) (some 15) (v := ?_) rfl rfl (by kernel_rfl) (by kernel_rfl) (by kernel_rfl) (fun _ _ _ h => absurd h.1 (by simp)) (by kernel_rfl) ?_ (by assumption) ?_
    rotate_left
    · intro wx hSw
      obtain ⟨hS1, hS2, hS3, hS4⟩ := hSw
      go_simp
      try (with_reducible rfl)
    try simp only [Act.put, List.setIfInBounds_toArray, List.set_cons_zero, List.set_cons_succ]
    refine takeD (i := 11) (some 16) (v := ?_) rfl rfl (by kernel_rfl) (by kernel_rfl) (by kernel_rfl) (fun _ _ _ h => absurd h.1 (by simp)) (by kernel_rfl) ?_ (by assumption) ?_
    rotate_left
    · intro wx hSw
      obtain ⟨hS1, hS2, hS3, hS4⟩ := hSw
      go_simp
      try (with_reducible rfl)
    try simp only [Act.put, List.setIfInBounds_toArray, List.set_cons_zero, List.set_cons_succ]
    refine wpAnyH_ready (rs := [0, 4, 13]) (by kernel_rfl) (by simp) ?_
    refine AllReadyH.cons rfl (fun K hK => ?_) (AllReadyH.cons rfl (fun K hK => ?_) (AllReadyH.cons rfl (fun K hK => ?_) AllReadyH.nil))
    · obtain ⟨gE1, W2, hg, hW, hM2⟩ := hM.runE1
      have hS2 := HSx.out _ hM2.below
      clear hM hHeld
      go_simp
      refine hK.out _ _ (by rw [← hW]; exact hS2) (fun hHeld => ?_)
      clear hK K
      try simp only [Act.put, List.setIfInBounds_toArray, List.set_cons_zero, List.set_cons_succ]
      rw [← hg, ← hW]
      clear hg hW hHeld
      have hHeld := hS2
      clear hS2
      rename World => W
      rename Mk2 _ _ _ _ _ _ _ _ => hM
      refine wpAnyH_ready (rs := [3, 4, 13]) (by kernel_rfl) (by simp) ?_
      refine AllReadyH.cons rfl (fun K hK => ?_) (AllReadyH.cons rfl (fun K hK => ?_) (AllReadyH.cons rfl (fun K hK => ?_) AllReadyH.nil))
      · obtain ⟨aq, cq, W2, hr, hM2⟩ := hM.runQ (a := aQ) cQ HS.out.q (HRd.out _ hM.below).q
        have hS2 := HSx.out _ hM2.below
        clear hM hHeld
        refine wp_appD (by kernel_rfl) (some 8) (.tmp 5) (.tmp 7) 24 _ _ _ rfl rfl rfl rfl rfl hr ?_
        clear hr
        refine hK.out _ _ (hS2) (fun hHeld => ?_)
        clear hK K
        try simp only [Act.put, List.setIfInBounds_toArray, List.set_cons_zero, List.set_cons_succ]
        clear hHeld
        have hHeld := hS2
        clear hS2
        rename World => W
        rename Mk2 _ _ _ _ _ _ _ _ => hM
        refine wpAnyH_ready (rs := [4, 13]) (by kernel_rfl) (by simp) ?_
        refine AllReadyH.cons rfl (fun K hK => ?_) (AllReadyH.cons rfl (fun K hK => ?_) AllReadyH.nil)
        · obtain ⟨gE2, W2, hg, hW, hM2⟩ := hM.runE2
          have hS2 := HSx.out _ hM2.below
          clear hM hHeld
          go_simp
          refine hK.out _ _ (by rw [← hW]; exact hS2) (fun hHeld => ?_)
          clear hK K
          try simp only [Act.put, List.setIfInBounds_toArray, List.set_cons_zero, List.set_cons_succ]
          rw [← hg, ← hW]
          clear hg hW hHeld
          have hHeld := hS2
          clear hS2
          rename World => W
          rename Mk2 _ _ _ _ _ _ _ _ => hM
          refine wpAnyH_ready (rs := [7, 13]) (by kernel_rfl) (by simp) ?_
          refine AllReadyH.cons rfl (fun K hK => ?_) (AllReadyH.cons rfl (fun K hK => ?_) AllReadyH.nil)
          · obtain ⟨ad, cd, W2, hr, hM2⟩ := hM.runD (a := aD) cD HS.out.d (HRd.out _ hM.below).d
            have hS2 := HSx.out _ hM2.below
            clear hM hHeld
            refine wp_appD (by kernel_rfl) (some 12) (.tmp 9) (.tmp 11) 24 _ _ _ rfl rfl rfl rfl rfl hr ?_
            clear hr
            refine hK.out _ _ (hS2) (fun hHeld => ?_)
            clear hK K
            try simp only [Act.put, List.setIfInBounds_toArray, List.set_cons_zero, List.set_cons_succ]
            clear hHeld
            have hHeld := hS2
            clear hS2
            rename World => W
            rename Mk2 _ _ _ _ _ _ _ _ => hM
            refine takeD (i := 12) (some 17) (v := ?_) rfl rfl (by kernel_rfl) (by kernel_rfl) (by kernel_rfl) (fun _ _ _ h => absurd h.1 (by simp)) (by kernel_rfl) ?_ (by assumption) ?_
            rotate_left
            · intro wx hSw
              obtain ⟨hS1, hS2, hS3, hS4⟩ := hSw
              go_simp
              try (with_reducible rfl)
            try simp only [Act.put, List.setIfInBounds_toArray, List.set_cons_zero, List.set_cons_succ]
            refine wpAnyH_ready (rs := [13]) (by kernel_rfl) (by simp) ?_
            refine AllReadyH.cons rfl (fun K hK => ?_) AllReadyH.nil
            · obtain ⟨gB, W2, hg, hW, hM2⟩ := hM.runB
              have hS2 := HSx.out _ hM2.below
              clear hM hHeld
              go_simp
              refine hK.out _ _ (by rw [← hW]; exact hS2) (fun hHeld => ?_)
              clear hK K
              try simp only [Act.put, List.setIfInBounds_toArray, List.set_cons_zero, List.set_cons_succ]
              rw [← hg, ← hW]
              clear hg hW hHeld
              have hHeld := hS2
              clear hS2
              rename World => W
              rename Mk2 _ _ _ _ _ _ _ _ => hM
              have cB := blk_cell (hM.b gB rfl).2
              have fB := blk_free (hM.b gB rfl).2
              unfold zRound at cB
              have hS5 := HSs.out W gB (.slice aq nQ cq) (.slice ad nD cd) (.int .i64 turn) (.bool fresh) (.slice none 0 0) hM.below (hM.b gB rfl).1
              unfold put5 at hS5
              refine wpAnyH_ready (rs := [14]) (by kernel_rfl) (by simp) ?_
              refine AllReadyH.cons rfl (fun K hK => ?_) AllReadyH.nil
              go_simp
              refine hK.out _ _ (hS5) (fun hHeld => ?_)
              clear hK K
              try simp only [Act.put, List.setIfInBounds_toArray, List.set_cons_zero, List.set_cons_succ]
              refine wpAnyH_done (by kernel_rfl) ?_ _
              exact ⟨rfl, aq, cq, ad, cd, gB, gE1, gE2, W, hM, rfl, rfl⟩
          · obtain ⟨gB, W2, hg, hW, hM2⟩ := hM.runB
            have hS2 := HSx.out _ hM2.below
            clear hM hHeld
            go_simp
            refine hK.out _ _ (by rw [← hW]; exact hS2) (fun hHeld => ?_)
            clear hK K
            try simp only [Act.put, List.setIfInBounds_toArray, List.set_cons_zero, List.set_cons_succ]
            rw [← hg, ← hW]
            clear hg hW hHeld
            have hHeld := hS2
            clear hS2
            rename World => W
            rename Mk2 _ _ _ _ _ _ _ _ => hM
            refine wpAnyH_ready (rs := [7]) (by kernel_rfl) (by simp) ?_
            refine AllReadyH.cons rfl (fun K hK => ?_) AllReadyH.nil
            · obtain ⟨ad, cd, W2, hr, hM2⟩ := hM.runD (a := aD) cD HS.out.d (HRd.out _ hM.below).d
              have hS2 := HSx.out _ hM2.below
              clear hM hHeld
              refine wp_appD (by kernel_rfl) (some 12) (.tmp 9) (.tmp 11) 24 _ _ _ rfl rfl rfl rfl rfl hr ?_
              clear hr
              refine hK.out _ _ (hS2) (fun hHeld => ?_)
              clear hK K
              try simp only [Act.put, List.setIfInBounds_toArray, List.set_cons_zero, List.set_cons_succ]
              clear hHeld
              have hHeld := hS2
              clear hS2
              rename World => W
              rename Mk2 _ _ _ _ _ _ _ _ => hM
              refine takeD (i := 12) (some 17) (v := ?_) rfl rfl (by kernel_rfl) (by kernel_rfl) (by kernel_rfl) (fun _ _ _ h => absurd h.1 (by simp)) (by kernel_rfl) ?_ (by assumption) ?_
              rotate_left
              · intro wx hSw
                obtain ⟨hS1, hS2, hS3, hS4⟩ := hSw
                go_simp
                try (with_reducible rfl)
              try simp only [Act.put, List.setIfInBounds_toArray, List.set_cons_zero, List.set_cons_succ]
              have cB := blk_cell (hM.b gB rfl).2
              have fB := blk_free (hM.b gB rfl).2
              unfold zRound at cB
              have hS5 := HSs.out W gB (.slice aq nQ cq) (.slice ad nD cd) (.int .i64 turn) (.bool fresh) (.slice none 0 0) hM.below (hM.b gB rfl).1
              unfold put5 at hS5
              refine wpAnyH_ready (rs := [14]) (by kernel_rfl) (by simp) ?_
              refine AllReadyH.cons rfl (fun K hK => ?_) AllReadyH.nil
              go_simp
              refine hK.out _ _ (hS5) (fun hHeld => ?_)
              clear hK K
              try simp only [Act.put, List.setIfInBounds_toArray, List.set_cons_zero, List.set_cons_succ]
              refine wpAnyH_done (by kernel_rfl) ?_ _
              exact ⟨rfl, aq, cq, ad, cd, gB, gE1, gE2, W, hM, rfl, rfl⟩
        · obtain ⟨gB, W2, hg, hW, hM2⟩ := hM.runB
          have hS2 := HSx.out _ hM2.below
          clear hM hHeld
          go_simp
          refine hK.out _ _ (by rw [← hW]; exact hS2) (fun hHeld => ?_)
          clear hK K
          try simp only [Act.put, List.setIfInBounds_toArray, List.set_cons_zero, List.set_cons_succ]
          rw [← hg, ← hW]
          clear hg hW hHeld
          have hHeld := hS2
          clear hS2
          rename World => W
          rename Mk2 _ _ _ _ _ _ _ _ => hM
          refine wpAnyH_ready (rs := [4]) (by kernel_rfl) (by simp) ?_
          refine AllReadyH.cons rfl (fun K hK => ?_) AllReadyH.nil
          · obtain ⟨gE2, W2, hg, hW, hM2⟩ := hM.runE2
            have hS2 := HSx.out _ hM2.below
            clear hM hHeld
            go_simp
            refine hK.out _ _ (by rw [← hW]; exact hS2) (fun hHeld => ?_)
            clear hK K
            try simp only [Act.put, List.setIfInBounds_toArray, List.set_cons_zero, List.set_cons_succ]
            rw [← hg, ← hW]
            clear hg hW hHeld
            have hHeld := hS2
            clear hS2
            rename World => W
            rename Mk2 _ _ _ _ _ _ _ _ => hM
            refine wpAnyH_ready (rs := [7]) (by kernel_rfl) (by simp) ?_
            refine AllReadyH.cons rfl (fun K hK => ?_) AllReadyH.nil
            · obtain ⟨ad, cd, W2, hr, hM2⟩ := hM.runD (a := aD) cD HS.out.d (HRd.out _ hM.below).d
              have hS2 := HSx.out _ hM2.below
              clear hM hHeld
              refine wp_appD (by kernel_rfl) (some 12) (.tmp 9) (.tmp 11) 24 _ _ _ rfl rfl rfl rfl rfl hr ?_
              clear hr
              refine hK.out _ _ (hS2) (fun hHeld => ?_)
              clear hK K
              try simp only [Act.put, List.setIfInBounds_toArray, List.set_cons_zero, List.set_cons_succ]
              clear hHeld
              have hHeld := hS2
              clear hS2
              rename World => W
              rename Mk2 _ _ _ _ _ _ _ _ => hM
              refine takeD (i := 12) (some 17) (v := ?_) rfl rfl (by kernel_rfl) (by kernel_rfl) (by kernel_rfl) (fun _ _ _ h => absurd h.1 (by simp)) (by kernel_rfl) ?_ (by assumption) ?_
              rotate_left
              · intro wx hSw
                obtain ⟨hS1, hS2, hS3, hS4⟩ := hSw
                go_simp
                try (with_reducible rfl)
              try simp only [Act.put, List.setIfInBounds_toArray, List.set_cons_zero, List.set_cons_succ]
              have cB := blk_cell (hM.b gB rfl).2
              have fB := blk_free (hM.b gB rfl).2
              unfold zRound at cB
              have hS5 := HSs.out W gB (.slice aq nQ cq) (.slice ad nD cd) (.int .i64 turn) (.bool fresh) (.slice none 0 0) hM.below (hM.b gB rfl).1
              unfold put5 at hS5
              refine wpAnyH_ready (rs := [14]) (by kernel_rfl) (by simp) ?_
              refine AllReadyH.cons rfl (fun K hK => ?_) AllReadyH.nil
              go_simp
              refine hK.out _ _ (hS5) (fun hHeld => ?_)
              clear hK K
              try simp only [Act.put, List.setIfInBounds_toArray, List.set_cons_zero, List.set_cons_succ]
              refine wpAnyH_done (by kernel_rfl) ?_ _
              exact ⟨rfl, aq, cq, ad, cd, gB, gE1, gE2, W, hM, rfl, rfl⟩
      · obtain ⟨gE2, W2, hg, hW, hM2⟩ := hM.runE2
        have hS2 := HSx.out _ hM2.below
        clear hM hHeld
        go_simp
        refine hK.out _ _ (by rw [← hW]; exact hS2) (fun hHeld => ?_)
        clear hK K
        try simp only [Act.put, List.setIfInBounds_toArray, List.set_cons_zero, List.set_cons_succ]
        rw [← hg, ← hW]
        clear hg hW hHeld
        have hHeld := hS2
        clear hS2
        rename World => W
        rename Mk2 _ _ _ _ _ _ _ _ => hM
        refine wpAnyH_ready (rs := [3, 13]) (by kernel_rfl) (by simp) ?_
        refine AllReadyH.cons rfl (fun K hK => ?_) (AllReadyH.cons rfl (fun K hK => ?_) AllReadyH.nil)
        · obtain ⟨aq, cq, W2, hr, hM2⟩ := hM.runQ (a := aQ) cQ HS.out.q (HRd.out _ hM.below).q
          have hS2 := HSx.out _ hM2.below
          clear hM hHeld
          refine wp_appD (by kernel_rfl) (some 8) (.tmp 5) (.tmp 7) 24 _ _ _ rfl rfl rfl rfl rfl hr ?_
          clear hr
          refine hK.out _ _ (hS2) (fun hHeld => ?_)
          clear hK K
          try simp only [Act.put, List.setIfInBounds_toArray, List.set_cons_zero, List.set_cons_succ]
          clear hHeld
          have hHeld := hS2
          clear hS2
          rename World => W
          rename Mk2 _ _ _ _ _ _ _ _ => hM
          refine wpAnyH_ready (rs := [7, 13]) (by kernel_rfl) (by simp) ?_
          refine AllReadyH.cons rfl (fun K hK => ?_) (AllReadyH.cons rfl (fun K hK => ?_) AllReadyH.nil)
          · obtain ⟨ad, cd, W2, hr, hM2⟩ := hM.runD (a := aD) cD HS.out.d (HRd.out _ hM.below).d
            have hS2 := HSx.out _ hM2.below
            clear hM hHeld
            refine wp_appD (by kernel_rfl) (some 12) (.tmp 9) (.tmp 11) 24 _ _ _ rfl rfl rfl rfl rfl hr ?_
            clear hr
            refine hK.out _ _ (hS2) (fun hHeld => ?_)
            clear hK K
            try simp only [Act.put, List.setIfInBounds_toArray, List.set_cons_zero, List.set_cons_succ]
            clear hHeld
            have hHeld := hS2
            clear hS2
            rename World => W
            rename Mk2 _ _ _ _ _ _ _ _ => hM
            refine takeD (i := 12) (some 17) (v := ?_) rfl rfl (by kernel_rfl) (by kernel_rfl) (by kernel_rfl) (fun _ _ _ h => absurd h.1 (by simp)) (by kernel_rfl) ?_ (by assumption) ?_
            rotate_left
            · intro wx hSw
              obtain ⟨hS1, hS2, hS3, hS4⟩ := hSw
              go_simp
              try (with_reducible rfl)
            try simp only [Act.put, List.setIfInBounds_toArray, List.set_cons_zero, List.set_cons_succ]
            refine wpAnyH_ready (rs := [13]) (by kernel_rfl) (by simp) ?_
            refine AllReadyH.cons rfl (fun K hK => ?_) AllReadyH.nil
            · obtain ⟨gB, W2, hg, hW, hM2⟩ := hM.runB
              have hS2 := HSx.out _ hM2.below
              clear hM hHeld
              go_simp
              refine hK.out _ _ (by rw [← hW]; exact hS2) (fun hHeld => ?_)
              clear hK K
              try simp only [Act.put, List.setIfInBounds_toArray, List.set_cons_zero, List.set_cons_succ]
              rw [← hg, ← hW]
              clear hg hW hHeld
              have hHeld := hS2
              clear hS2
              rename World => W
              rename Mk2 _ _ _ _ _ _ _ _ => hM
              have cB := blk_cell (hM.b gB rfl).2
              have fB := blk_free (hM.b gB rfl).2
              unfold zRound at cB
              have hS5 := HSs.out W gB (.slice aq nQ cq) (.slice ad nD cd) (.int .i64 turn) (.bool fresh) (.slice none 0 0) hM.below (hM.b gB rfl).1
              unfold put5 at hS5
              refine wpAnyH_ready (rs := [14]) (by kernel_rfl) (by simp) ?_
              refine AllReadyH.cons rfl (fun K hK => ?_) AllReadyH.nil
              go_simp
              refine hK.out _ _ (hS5) (fun hHeld => ?_)
              clear hK K
              try simp only [Act.put, List.setIfInBounds_toArray, List.set_cons_zero, List.set_cons_succ]
              refine wpAnyH_done (by kernel_rfl) ?_ _
              exact ⟨rfl, aq, cq, ad, cd, gB, gE1, gE2, W, hM, rfl, rfl⟩
          · obtain ⟨gB, W2, hg, hW, hM2⟩ := hM.runB
            have hS2 := HSx.out _ hM2.below
            clear hM hHeld
            go_simp
            refine hK.out _ _ (by rw [← hW]; exact hS2) (fun hHeld => ?_)
            clear hK K
            try simp only [Act.put, List.setIfInBounds_toArray, List.set_cons_zero, List.set_cons_succ]
            rw [← hg, ← hW]
            clear hg hW hHeld
            have hHeld := hS2
            clear hS2
            rename World => W
            rename Mk2 _ _ _ _ _ _ _ _ => hM
            refine wpAnyH_ready (rs := [7]) (by kernel_rfl) (by simp) ?_
            refine AllReadyH.cons rfl (fun K hK => ?_) AllReadyH.nil
            · obtain ⟨ad, cd, W2, hr, hM2⟩ := hM.runD (a := aD) cD HS.out.d (HRd.out _ hM.below).d
              have hS2 := HSx.out _ hM2.below
              clear hM hHeld
              refine wp_appD (by kernel_rfl) (some 12) (.tmp 9) (.tmp 11) 24 _ _ _ rfl rfl rfl rfl rfl hr ?_
              clear hr
              refine hK.out _ _ (hS2) (fun hHeld => ?_)
              clear hK K
              try simp only [Act.put, List.setIfInBounds_toArray, List.set_cons_zero, List.set_cons_succ]
              clear hHeld
              have hHeld := hS2
              clear hS2
              rename World => W
              rename Mk2 _ _ _ _ _ _ _ _ => hM
              refine takeD (i := 12) (some 17) (v := ?_) rfl rfl (by kernel_rfl) (by kernel_rfl) (by kernel_rfl) (fun _ _ _ h => absurd h.1 (by simp)) (by kernel_rfl) ?_ (by assumption) ?_
              rotate_left
              · intro wx hSw
                obtain ⟨hS1, hS2, hS3, hS4⟩ := hSw
                go_simp
                try (with_reducible rfl)
              try simp only [Act.put, List.setIfInBounds_toArray, List.set_cons_zero, List.set_cons_succ]
              have cB := blk_cell (hM.b gB rfl).2
              have fB := blk_free (hM.b gB rfl).2
              unfold zRound at cB
              have hS5 := HSs.out W gB (.slice aq nQ cq) (.slice ad nD cd) (.int .i64 turn) (.bool fresh) (.slice none 0 0) hM.below (hM.b gB rfl).1
              unfold put5 at hS5
              refine wpAnyH_ready (rs := [14]) (by kernel_rfl) (by simp) ?_
              refine AllReadyH.cons rfl (fun K hK => ?_) AllReadyH.nil
              go_simp
              refine hK.out _ _ (hS5) (fun hHeld => ?_)
              clear hK K
              try simp only [Act.put, List.setIfInBounds_toArray, List.set_cons_zero, List.set_cons_succ]
              refine wpAnyH_done (by kernel_rfl) ?_ _
              exact ⟨rfl, aq, cq, ad, cd, gB, gE1, gE2, W, hM, rfl, rfl⟩
        · obtain ⟨gB, W2, hg, hW, hM2⟩ := hM.runB
          have hS2 := HSx.out _ hM2.below
          clear hM hHeld
          go_simp
          refine hK.out _ _ (by rw [← hW]; exact hS2) (fun hHeld => ?_)
          clear hK K
          try simp only [Act.put, List.setIfInBounds_toArray, List.set_cons_zero, List.set_cons_succ]
          rw [← hg, ← hW]
          clear hg hW hHeld
          have hHeld := hS2
          clear hS2
          rename World => W
          rename Mk2 _ _ _ _ _ _ _ _ => hM
          refine wpAnyH_ready (rs := [3]) (by kernel_rfl) (by simp) ?_
          refine AllReadyH.cons rfl (fun K hK => ?_) AllReadyH.nil
          · obtain ⟨aq, cq, W2, hr, hM2⟩ := hM.runQ (a := aQ) cQ HS.out.q (HRd.out _ hM.below).q
            have hS2 := HSx.out _ hM2.below
            clear hM hHeld
            refine wp_appD (by kernel_rfl) (some 8) (.tmp 5) (.tmp 7) 24 _ _ _ rfl rfl rfl rfl rfl hr ?_
            clear hr
            refine hK.out _ _ (hS2) (fun hHeld => ?_)
            clear hK K
            try simp only [Act.put, List.setIfInBounds_toArray, List.set_cons_zero, List.set_cons_succ]
            clear hHeld
            have hHeld := hS2
            clear hS2
            rename World => W
            rename Mk2 _ _ _ _ _ _ _ _ => hM
            refine wpAnyH_ready (rs := [7]) (by kernel_rfl) (by simp) ?_
            refine AllReadyH.cons rfl (fun K hK => ?_) AllReadyH.nil
            · obtain ⟨ad, cd, W2, hr, hM2⟩ := hM.runD (a := aD) cD HS.out.d (HRd.out _ hM.below).d
              have hS2 := HSx.out _ hM2.below
              clear hM hHeld
              refine wp_appD (by kernel_rfl) (some 12) (.tmp 9) (.tmp 11) 24 _ _ _ rfl rfl rfl rfl rfl hr ?_
              clear hr
              refine hK.out _ _ (hS2) (fun hHeld => ?_)
              clear hK K
              try simp only [Act.put, List.setIfInBounds_toArray, List.set_cons_zero, List.set_cons_succ]
              clear hHeld
              have hHeld := hS2
              clear hS2
              rename World => W
              rename Mk2 _ _ _ _ _ _ _ _ => hM
              refine takeD (i := 12) (some 17) (v := ?_) rfl rfl (by kernel_rfl) (by kernel_rfl) (by kernel_rfl) (fun _ _ _ h => absurd h.1 (by simp)) (by kernel_rfl) ?_ (by assumption) ?_
              rotate_left
              · intro wx hSw
                obtain ⟨hS1, hS2, hS3, hS4⟩ := hSw
                go_simp
                try (with_reducible rfl)
              try simp only [Act.put, List.setIfInBounds_toArray, List.set_cons_zero, List.set_cons_succ]
              have cB := blk_cell (hM.b gB rfl).2
              have fB := blk_free (hM.b gB rfl).2
              unfold zRound at cB
              have hS5 := HSs.out W gB (.slice aq nQ cq) (.slice ad nD cd) (.int .i64 turn) (.bool fresh) (.slice none 0 0) hM.below (hM.b gB rfl).1
              unfold put5 at hS5
              refine wpAnyH_ready (rs := [14]) (by kernel_rfl) (by simp) ?_
              refine AllReadyH.cons rfl (fun K hK => ?_) AllReadyH.nil
              go_simp
              refine hK.out _ _ (hS5) (fun hHeld => ?_)
              clear hK K
              try simp only [Act.put, List.setIfInBounds_toArray, List.set_cons_zero, List.set_cons_succ]
              refine wpAnyH_done (by kernel_rfl) ?_ _
              exact ⟨rfl, aq, cq, ad, cd, gB, gE1, gE2, W, hM, rfl, rfl⟩
      · obtain ⟨gB, W2, hg, hW, hM2⟩ := hM.runB
        have hS2 := HSx.out _ hM2.below
        clear hM hHeld
        go_simp
        refine hK.out _ _ (by rw [← hW]; exact hS2) (fun hHeld => ?_)
        clear hK K
        try simp only [Act.put, List.setIfInBounds_toArray, List.set_cons_zero, List.set_cons_succ]
        rw [← hg, ← hW]
        clear hg hW hHeld
        have hHeld := hS2
        clear hS2
        rename World => W
        rename Mk2 _ _ _ _ _ _ _ _ => hM
        refine wpAnyH_ready (rs := [3, 4]) (by kernel_rfl) (by simp) ?_
        refine AllReadyH.cons rfl (fun K hK => ?_) (AllReadyH.cons rfl (fun K hK => ?_) AllReadyH.nil)
        · obtain ⟨aq, cq, W2, hr, hM2⟩ := hM.runQ (a := aQ) cQ HS.out.q (HRd.out _ hM.below).q
          have hS2 := HSx.out _ hM2.below
          clear hM hHeld
          refine wp_appD (by kernel_rfl) (some 8) (.tmp 5) (.tmp 7) 24 _ _ _ rfl rfl rfl rfl rfl hr ?_
          clear hr
          refine hK.out _ _ (hS2) (fun hHeld => ?_)
          clear hK K
          try simp only [Act.put, List.setIfInBounds_toArray, List.set_cons_zero, List.set_cons_succ]
          clear hHeld
          have hHeld := hS2
          clear hS2
          rename World => W
          rename Mk2 _ _ _ _ _ _ _ _ => hM
          refine wpAnyH_ready (rs := [4]) (by kernel_rfl) (by simp) ?_
          refine AllReadyH.cons rfl (fun K hK => ?_) AllReadyH.nil
          · obtain ⟨gE2, W2, hg, hW, hM2⟩ := hM.runE2
            have hS2 := HSx.out _ hM2.below
            clear hM hHeld
            go_simp
            refine hK.out _ _ (by rw [← hW]; exact hS2) (fun hHeld => ?_)
            clear hK K
            try simp only [Act.put, List.setIfInBounds_toArray, List.set_cons_zero, List.set_cons_succ]
            rw [← hg, ← hW]
            clear hg hW hHeld
            have hHeld := hS2
            clear hS2
            rename World => W
            rename Mk2 _ _ _ _ _ _ _ _ => hM
            refine wpAnyH_ready (rs := [7]) (by kernel_rfl) (by simp) ?_
            refine AllReadyH.cons rfl (fun K hK => ?_) AllReadyH.nil
            · obtain ⟨ad, cd, W2, hr, hM2⟩ := hM.runD (a := aD) cD HS.out.d (HRd.out _ hM.below).d
              have hS2 := HSx.out _ hM2.below
              clear hM hHeld
              refine wp_appD (by kernel_rfl) (some 12) (.tmp 9) (.tmp 11) 24 _ _ _ rfl rfl rfl rfl rfl hr ?_
              clear hr
              refine hK.out _ _ (hS2) (fun hHeld => ?_)
              clear hK K
              try simp only [Act.put, List.setIfInBounds_toArray, List.set_cons_zero, List.set_cons_succ]
              clear hHeld
              have hHeld := hS2
              clear hS2
              rename World => W
              rename Mk2 _ _ _ _ _ _ _ _ => hM
              refine takeD (i := 12) (some 17) (v := ?_) rfl rfl (by kernel_rfl) (by kernel_rfl) (by kernel_rfl) (fun _ _ _ h => absurd h.1 (by simp)) (by kernel_rfl) ?_ (by assumption) ?_
              rotate_left
              · intro wx hSw
                obtain ⟨hS1, hS2, hS3, hS4⟩ := hSw
                go_simp
                try (with_reducible rfl)
              try simp only [Act.put, List.setIfInBounds_toArray, List.set_cons_zero, List.set_cons_succ]
              have cB := blk_cell (hM.b gB rfl).2
              have fB := blk_free (hM.b gB rfl).2
              unfold zRound at cB
              have hS5 := HSs.out W gB (.slice aq nQ cq) (.slice ad nD cd) (.int .i64 turn) (.bool fresh) (.slice none 0 0) hM.below (hM.b gB rfl).1
              unfold put5 at hS5
              refine wpAnyH_ready (rs := [14]) (by kernel_rfl) (by simp) ?_
              refine AllReadyH.cons rfl (fun K hK => ?_) AllReadyH.nil
              go_simp
              refine hK.out _ _ (hS5) (fun hHeld => ?_)
              clear hK K
              try simp only [Act.put, List.setIfInBounds_toArray, List.set_cons_zero, List.set_cons_succ]
              refine wpAnyH_done (by kernel_rfl) ?_ _
              exact ⟨rfl, aq, cq, ad, cd, gB, gE1, gE2, W, hM, rfl, rfl⟩
        · obtain ⟨gE2, W2, hg, hW, hM2⟩ := hM.runE2
          have hS2 := HSx.out _ hM2.below
          clear hM hHeld
          go_simp
          refine hK.out _ _ (by rw [← hW]; exact hS2) (fun hHeld => ?_)
          clear hK K
          try simp only [Act.put, List.setIfInBounds_toArray, List.set_cons_zero, List.set_cons_succ]
          rw [← hg, ← hW]
          clear hg hW hHeld
          have hHeld := hS2
          clear hS2
          rename World => W
          rename Mk2 _ _ _ _ _ _ _ _ => hM
          refine wpAnyH_ready (rs := [3]) (by kernel_rfl) (by simp) ?_
          refine AllReadyH.cons rfl (fun K hK => ?_) AllReadyH.nil
          · obtain ⟨aq, cq, W2, hr, hM2⟩ := hM.runQ (a := aQ) cQ HS.out.q (HRd.out _ hM.below).q
            have hS2 := HSx.out _ hM2.below
            clear hM hHeld
            refine wp_appD (by kernel_rfl) (some 8) (.tmp 5) (.tmp 7) 24 _ _ _ rfl rfl rfl rfl rfl hr ?_
            clear hr
            refine hK.out _ _ (hS2) (fun hHeld => ?_)
            clear hK K
            try simp only [Act.put, List.setIfInBounds_toArray, List.set_cons_zero, List.set_cons_succ]
            clear hHeld
            have hHeld := hS2
            clear hS2
            rename World => W
            rename Mk2 _ _ _ _ _ _ _ _ => hM
            refine wpAnyH_ready (rs := [7]) (by kernel_rfl) (by simp) ?_
            refine AllReadyH.cons rfl (fun K hK => ?_) AllReadyH.nil
            · obtain ⟨ad, cd, W2, hr, hM2⟩ := hM.runD (a := aD) cD HS.out.d (HRd.out _ hM.below).d
              have hS2 := HSx.out _ hM2.below
              clear hM hHeld
              refine wp_appD (by kernel_rfl) (some 12) (.tmp 9) (.tmp 11) 24 _ _ _ rfl rfl rfl rfl rfl hr ?_
              clear hr
              refine hK.out _ _ (hS2) (fun hHeld => ?_)
              clear hK K
              try simp only [Act.put, List.setIfInBounds_toArray, List.set_cons_zero, List.set_cons_succ]
              clear hHeld
              have hHeld := hS2
              clear hS2
              rename World => W
              rename Mk2 _ _ _ _ _ _ _ _ => hM
              refine takeD (i := 12) (some 17) (v := ?_) rfl rfl (by kernel_rfl) (by kernel_rfl) (by kernel_rfl) (fun _ _ _ h => absurd h.1 (by simp)) (by kernel_rfl) ?_ (by assumption) ?_
              rotate_left
              · intro wx hSw
                obtain ⟨hS1, hS2, hS3, hS4⟩ := hSw
                go_simp
                try (with_reducible rfl)
              try simp only [Act.put, List.setIfInBounds_toArray, List.set_cons_zero, List.set_cons_succ]
              have cB := blk_cell (hM.b gB rfl).2
              have fB := blk_free (hM.b gB rfl).2
              unfold zRound at cB
              have hS5 := HSs.out W gB (.slice aq nQ cq) (.slice ad nD cd) (.int .i64 turn) (.bool fresh) (.slice none 0 0) hM.below (hM.b gB rfl).1
              unfold put5 at hS5
              refine wpAnyH_ready (rs := [14]) (by kernel_rfl) (by simp) ?_
              refine AllReadyH.cons rfl (fun K hK => ?_) AllReadyH.nil
              go_simp
              refine hK.out _ _ (hS5) (fun hHeld => ?_)
              clear hK K
              try simp only [Act.put, List.setIfInBounds_toArray, List.set_cons_zero, List.set_cons_succ]
              refine wpAnyH_done (by kernel_rfl) ?_ _
              exact ⟨rfl, aq, cq, ad, cd, gB, gE1, gE2, W, hM, rfl, rfl⟩
    · obtain ⟨gE2, W2, hg, hW, hM2⟩ := hM.runE2
      have hS2 := HSx.out _ hM2.below
      clear hM hHeld
      go_simp
      refine hK.out _ _ (by rw [← hW]; exact hS2) (fun hHeld => ?_)
      clear hK K
      try simp only [Act.put, List.setIfInBounds_toArray, List.set_cons_zero, List.set_cons_succ]
      rw [← hg, ← hW]
      clear hg hW hHeld
      have hHeld := hS2
      clear hS2
      rename World => W
      rename Mk2 _ _ _ _ _ _ _ _ => hM
      refine wpAnyH_ready (rs := [0, 13]) (by kernel_rfl) (by simp) ?_
      refine AllReadyH.cons rfl (fun K hK => ?_) (AllReadyH.cons rfl (fun K hK => ?_) AllReadyH.nil)
      · obtain ⟨gE1, W2, hg, hW, hM2⟩ := hM.runE1
        have hS2 := HSx.out _ hM2.below
        clear hM hHeld
        go_simp
        refine hK.out _ _ (by rw [← hW]; exact hS2) (fun hHeld => ?_)
        clear hK K
        try simp only [Act.put, List.setIfInBounds_toArray, List.set_cons_zero, List.set_cons_succ]
        rw [← hg, ← hW]
        clear hg hW hHeld
        have hHeld := hS2
        clear hS2
        rename World => W
        rename Mk2 _ _ _ _ _ _ _ _ => hM
        refine wpAnyH_ready (rs := [3, 13]) (by kernel_rfl) (by simp) ?_
        refine AllReadyH.cons rfl (fun K hK => ?_) (AllReadyH.cons rfl (fun K hK => ?_) AllReadyH.nil)
        · obtain ⟨aq, cq, W2, hr, hM2⟩ := hM.runQ (a := aQ) cQ HS.out.q (HRd.out _ hM.below).q
          have hS2 := HSx.out _ hM2.below
          clear hM hHeld
          refine wp_appD (by kernel_rfl) (some 8) (.tmp 5) (.tmp 7) 24 _ _ _ rfl rfl rfl rfl rfl hr ?_
          clear hr
          refine hK.out _ _ (hS2) (fun hHeld => ?_)
          clear hK K
          try simp only [Act.put, List.setIfInBounds_toArray, List.set_cons_zero, List.set_cons_succ]
          clear hHeld
          have hHeld := hS2
          clear hS2
          rename World => W
          rename Mk2 _ _ _ _ _ _ _ _ => hM
          refine wpAnyH_ready (rs := [7, 13]) (by kernel_rfl) (by simp) ?_
          refine AllReadyH.cons rfl (fun K hK => ?_) (AllReadyH.cons rfl (fun K hK => ?_) AllReadyH.nil)
          · obtain ⟨ad, cd, W2, hr, hM2⟩ := hM.runD (a := aD) cD HS.out.d (HRd.out _ hM.below).d
            have hS2 := HSx.out _ hM2.below
            clear hM hHeld
            refine wp_appD (by kernel_rfl) (some 12) (.tmp 9) (.tmp 11) 24 _ _ _ rfl rfl rfl rfl rfl hr ?_
            clear hr
            refine hK.out _ _ (hS2) (fun hHeld => ?_)
            clear hK K
            try simp only [Act.put, List.setIfInBounds_toArray, List.set_cons_zero, List.set_cons_succ]
            clear hHeld
            have hHeld := hS2
            clear hS2
            rename World => W
            rename Mk2 _ _ _ _ _ _ _ _ => hM
            refine takeD (i := 12) (some 17) (v := ?_) rfl rfl (by kernel_rfl) (by kernel_rfl) (by kernel_rfl) (fun _ _ _ h => absurd h.1 (by simp)) (by kernel_rfl) ?_ (by assumption) ?_
            rotate_left
            · intro wx hSw
              obtain ⟨hS1, hS2, hS3, hS4⟩ := hSw
              go_simp
              try (with_reducible rfl)
            try simp only [Act.put, List.setIfInBounds_toArray, List.set_cons_zero, List.set_cons_succ]
            refine wpAnyH_ready (rs := [13]) (by kernel_rfl) (by simp) ?_
            refine AllReadyH.cons rfl (fun K hK => ?_) AllReadyH.nil
            · obtain ⟨gB, W2, hg, hW, hM2⟩ := hM.runB
              have hS2 := HSx.out _ hM2.below
              clear hM hHeld
              go_simp
              refine hK.out _ _ (by rw [← hW]; exact hS2) (fun hHeld => ?_)
              clear hK K
              try simp only [Act.put, List.setIfInBounds_toArray, List.set_cons_zero, List.set_cons_succ]
              rw [← hg, ← hW]
              clear hg hW hHeld
              have hHeld := hS2
              clear hS2
              rename World => W
              rename Mk2 _ _ _ _ _ _ _ _ => hM
              have cB := blk_cell (hM.b gB rfl).2
              have fB := blk_free (hM.b gB rfl).2
              unfold zRound at cB
              have hS5 := HSs.out W gB (.slice aq nQ cq) (.slice ad nD cd) (.int .i64 turn) (.bool fresh) (.slice none 0 0) hM.below (hM.b gB rfl).1
              unfold put5 at hS5
              refine wpAnyH_ready (rs := [14]) (by kernel_rfl) (by simp) ?_
              refine AllReadyH.cons rfl (fun K hK => ?_) AllReadyH.nil
              go_simp
              refine hK.out _ _ (hS5) (fun hHeld => ?_)
              clear hK K
              try simp only [Act.put, List.setIfInBounds_toArray, List.set_cons_zero, List.set_cons_succ]
              refine wpAnyH_done (by kernel_rfl) ?_ _
              exact ⟨rfl, aq, cq, ad, cd, gB, gE1, gE2, W, hM, rfl, rfl⟩
          · obtain ⟨gB, W2, hg, hW, hM2⟩ := hM.runB
            have hS2 := HSx.out _ hM2.below
            clear hM hHeld
            go_simp
            refine hK.out _ _ (by rw [← hW]; exact hS2) (fun hHeld => ?_)
            clear hK K
            try simp only [Act.put, List.setIfInBounds_toArray, List.set_cons_zero, List.set_cons_succ]
            rw [← hg, ← hW]
            clear hg hW hHeld
            have hHeld := hS2
            clear hS2
            rename World => W
            rename Mk2 _ _ _ _ _ _ _ _ => hM
            refine wpAnyH_ready (rs := [7]) (by kernel_rfl) (by simp) ?_
            refine AllReadyH.cons rfl (fun K hK => ?_) AllReadyH.nil
            · obtain ⟨ad, cd, W2, hr, hM2⟩ := hM.runD (a := aD) cD HS.out.d (HRd.out _ hM.below).d
              have hS2 := HSx.out _ hM2.below
              clear hM hHeld
              refine wp_appD (by kernel_rfl) (some 12) (.tmp 9) (.tmp 11) 24 _ _ _ rfl rfl rfl rfl rfl hr ?_
              clear hr
              refine hK.out _ _ (hS2) (fun hHeld => ?_)
              clear hK K
              try simp only [Act.put, List.setIfInBounds_toArray, List.set_cons_zero, List.set_cons_succ]
              clear hHeld
              have hHeld := hS2
              clear hS2
              rename World => W
              rename Mk2 _ _ _ _ _ _ _ _ => hM
              refine takeD (i := 12) (some 17) (v := ?_) rfl rfl (by kernel_rfl) (by kernel_rfl) (by kernel_rfl) (fun _ _ _ h => absurd h.1 (by simp)) (by kernel_rfl) ?_ (by assumption) ?_
              rotate_left
              · intro wx hSw
                obtain ⟨hS1, hS2, hS3, hS4⟩ := hSw
                go_simp
                try (with_reducible rfl)
              try simp only [Act.put, List.setIfInBounds_toArray, List.set_cons_zero, List.set_cons_succ]
              have cB := blk_cell (hM.b gB rfl).2
              have fB := blk_free (hM.b gB rfl).2
              unfold zRound at cB
              have hS5 := HSs.out W gB (.slice aq nQ cq) (.slice ad nD cd) (.int .i64 turn) (.bool fresh) (.slice none 0 0) hM.below (hM.b gB rfl).1
              unfold put5 at hS5
              refine wpAnyH_ready (rs := [14]) (by kernel_rfl) (by simp) ?_
              refine AllReadyH.cons rfl (fun K hK => ?_) AllReadyH.nil
              go_simp
              refine hK.out _ _ (hS5) (fun hHeld => ?_)
              clear hK K
              try simp only [Act.put, List.setIfInBounds_toArray, List.set_cons_zero, List.set_cons_succ]
              refine wpAnyH_done (by kernel_rfl) ?_ _
              exact ⟨rfl, aq, cq, ad, cd, gB, gE1, gE2, W, hM, rfl, rfl⟩
        · obtain ⟨gB, W2, hg, hW, hM2⟩ := hM.runB
          have hS2 := HSx.out _ hM2.below
          clear hM hHeld
          go_simp
          refine hK.out _ _ (by rw [← hW]; exact hS2) (fun hHeld => ?_)
          clear hK K
          try simp only [Act.put, List.setIfInBounds_toArray, List.set_cons_zero, List.set_cons_succ]
          rw [← hg, ← hW]
          clear hg hW hHeld
          have hHeld := hS2
          clear hS2
          rename World => W
          rename Mk2 _ _ _ _ _ _ _ _ => hM
          refine wpAnyH_ready (rs := [3]) (by kernel_rfl) (by simp) ?_
          refine AllReadyH.cons rfl (fun K hK => ?_) AllReadyH.nil
          · obtain ⟨aq, cq, W2, hr, hM2⟩ := hM.runQ (a := aQ) cQ HS.out.q (HRd.out _ hM.below).q
            have hS2 := HSx.out _ hM2.below
            clear hM hHeld
            refine wp_appD (by kernel_rfl) (some 8) (.tmp 5) (.tmp 7) 24 _ _ _ rfl rfl rfl rfl rfl hr ?_
            clear hr
            refine hK.out _ _ (hS2) (fun hHeld => ?_)
            clear hK K
            try simp only [Act.put, List.setIfInBounds_toArray, List.set_cons_zero, List.set_cons_succ]
            clear hHeld
            have hHeld := hS2
            clear hS2
            rename World => W
            rename Mk2 _ _ _ _ _ _ _ _ => hM
            refine wpAnyH_ready (rs := [7]) (by kernel_rfl) (by simp) ?_
            refine AllReadyH.cons rfl (fun K hK => ?_) AllReadyH.nil
            · obtain ⟨ad, cd, W2, hr, hM2⟩ := hM.runD (a := aD) cD HS.out.d (HRd.out _ hM.below).d
              have hS2 := HSx.out _ hM2.below
              clear hM hHeld
              refine wp_appD (by kernel_rfl) (some 12) (.tmp 9) (.tmp 11) 24 _ _ _ rfl rfl rfl rfl rfl hr ?_
              clear hr
              refine hK.out _ _ (hS2) (fun hHeld => ?_)
              clear hK K
              try simp only [Act.put, List.setIfInBounds_toArray, List.set_cons_zero, List.set_cons_succ]
              clear hHeld
              have hHeld := hS2
              clear hS2
              rename World => W
              rename Mk2 _ _ _ _ _ _ _ _ => hM
              refine takeD (i := 12) (some 17) (v := ?_) rfl rfl (by kernel_rfl) (by kernel_rfl) (by kernel_rfl) (fun _ _ _ h => absurd h.1 (by simp)) (by kernel_rfl) ?_ (by assumption) ?_
              rotate_left
              · intro wx hSw
                obtain ⟨hS1, hS2, hS3, hS4⟩ := hSw
                go_simp
                try (with_reducible rfl)
              try simp only [Act.put, List.setIfInBounds_toArray, List.set_cons_zero, List.set_cons_succ]
              have cB := blk_cell (hM.b gB rfl).2
              have fB := blk_free (hM.b gB rfl).2
              unfold zRound at cB
              have hS5 := HSs.out W gB (.slice aq nQ cq) (.slice ad nD cd) (.int .i64 turn) (.bool fresh) (.slice none 0 0) hM.below (hM.b gB rfl).1
              unfold put5 at hS5
              refine wpAnyH_ready (rs := [14]) (by kernel_rfl) (by simp) ?_
              refine AllReadyH.cons rfl (fun K hK => ?_) AllReadyH.nil
              go_simp
              refine hK.out _ _ (hS5) (fun hHeld => ?_)
              clear hK K
              try simp only [Act.put, List.setIfInBounds_toArray, List.set_cons_zero, List.set_cons_succ]
              refine wpAnyH_done (by kernel_rfl) ?_ _
              exact ⟨rfl, aq, cq, ad, cd, gB, gE1, gE2, W, hM, rfl, rfl⟩
      · obtain ⟨gB, W2, hg, hW, hM2⟩ := hM.runB
        have hS2 := HSx.out _ hM2.below
        clear hM hHeld
        go_simp
        refine hK.out _ _ (by rw [← hW]; exact hS2) (fun hHeld => ?_)
        clear hK K
        try simp only [Act.put, List.setIfInBounds_toArray, List.set_cons_zero, List.set_cons_succ]
        rw [← hg, ← hW]
        clear hg hW hHeld
        have hHeld := hS2
        clear hS2
        rename World => W
        rename Mk2 _ _ _ _ _ _ _ _ => hM
        refine wpAnyH_ready (rs := [0]) (by kernel_rfl) (by simp) ?_
        refine AllReadyH.cons rfl (fun K hK => ?_) AllReadyH.nil
        · obtain ⟨gE1, W2, hg, hW, hM2⟩ := hM.runE1
          have hS2 := HSx.out _ hM2.below
          clear hM hHeld
          go_simp
          refine hK.out _ _ (by rw [← hW]; exact hS2) (fun hHeld => ?_)
          clear hK K
          try simp only [Act.put, List.setIfInBounds_toArray, List.set_cons_zero, List.set_cons_succ]
          rw [← hg, ← hW]
          clear hg hW hHeld
          have hHeld := hS2
          clear hS2
          rename World => W
          rename Mk2 _ _ _ _ _ _ _ _ => hM
          refine wpAnyH_ready (rs := [3]) (by kernel_rfl) (by simp) ?_
          refine AllReadyH.cons rfl (fun K hK => ?_) AllReadyH.nil
          · obtain ⟨aq, cq, W2, hr, hM2⟩ := hM.runQ (a := aQ) cQ HS.out.q (HRd.out _ hM.below).q
            have hS2 := HSx.out _ hM2.below
            clear hM hHeld
            refine wp_appD (by kernel_rfl) (some 8) (.tmp 5) (.tmp 7) 24 _ _ _ rfl rfl rfl rfl rfl hr ?_
            clear hr
            refine hK.out _ _ (hS2) (fun hHeld => ?_)
            clear hK K
            try simp only [Act.put, List.setIfInBounds_toArray, List.set_cons_zero, List.set_cons_succ]
            clear hHeld
            have hHeld := hS2
            clear hS2
            rename World => W
            rename Mk2 _ _ _ _ _ _ _ _ => hM
            refine wpAnyH_ready (rs := [7]) (by kernel_rfl) (by simp) ?_
            refine AllReadyH.cons rfl (fun K hK => ?_) AllReadyH.nil
            · obtain ⟨ad, cd, W2, hr, hM2⟩ := hM.runD (a := aD) cD HS.out.d (HRd.out _ hM.below).d
              have hS2 := HSx.out _ hM2.below
              clear hM hHeld
              refine wp_appD (by kernel_rfl) (some 12) (.tmp 9) (.tmp 11) 24 _ _ _ rfl rfl rfl rfl rfl hr ?_
              clear hr
              refine hK.out _ _ (hS2) (fun hHeld => ?_)
              clear hK K
              try simp only [Act.put, List.setIfInBounds_toArray, List.set_cons_zero, List.set_cons_succ]
              clear hHeld
              have hHeld := hS2
              clear hS2
              rename World => W
              rename Mk2 _ _ _ _ _ _ _ _ => hM
              refine takeD (i := 12) (some 17) (v := ?_) rfl rfl (by kernel_rfl) (by kernel_rfl) (by kernel_rfl) (fun _ _ _ h => absurd h.1 (by simp)) (by kernel_rfl) ?_ (by assumption) ?_
              rotate_left
              · intro wx hSw
                obtain ⟨hS1, hS2, hS3, hS4⟩ := hSw
                go_simp
                try (with_reducible rfl)
              try simp only [Act.put, List.setIfInBounds_toArray, List.set_cons_zero, List.set_cons_succ]
              have cB := blk_cell (hM.b gB rfl).2
              have fB := blk_free (hM.b gB rfl).2
              unfold zRound at cB
              have hS5 := HSs.out W gB (.slice aq nQ cq) (.slice ad nD cd) (.int .i64 turn) (.bool fresh) (.slice none 0 0) hM.below (hM.b gB rfl).1
              unfold put5 at hS5
              refine wpAnyH_ready (rs := [14]) (by kernel_rfl) (by simp) ?_
              refine AllReadyH.cons rfl (fun K hK => ?_) AllReadyH.nil
              go_simp
              refine hK.out _ _ (hS5) (fun hHeld => ?_)
              clear hK K
              try simp only [Act.put, List.setIfInBounds_toArray, List.set_cons_zero, List.set_cons_succ]
              refine wpAnyH_done (by kernel_rfl) ?_ _
              exact ⟨rfl, aq, cq, ad, cd, gB, gE1, gE2, W, hM, rfl, rfl⟩
    · obtain ⟨gB, W2, hg, hW, hM2⟩ := hM.runB
      have hS2 := HSx.out _ hM2.below
      clear hM hHeld
      go_simp
      refine hK.out _ _ (by rw [← hW]; exact hS2) (fun hHeld => ?_)
      clear hK K
      try simp only [Act.put, List.setIfInBounds_toArray, List.set_cons_zero, List.set_cons_succ]
      rw [← hg, ← hW]
      clear hg hW hHeld
      have hHeld := hS2
      clear hS2
      rename World => W
      rename Mk2 _ _ _ _ _ _ _ _ => hM
      refine wpAnyH_ready (rs := [0, 4]) (by kernel_rfl) (by simp) ?_
      refine AllReadyH.cons rfl (fun K hK => ?_) (AllReadyH.cons rfl (fun K hK => ?_) AllReadyH.nil)
      · obtain ⟨gE1, W2, hg, hW, hM2⟩ := hM.runE1
        have hS2 := HSx.out _ hM2.below
        clear hM hHeld
        go_simp
        refine hK.out _ _ (by rw [← hW]; exact hS2) (fun hHeld => ?_)
        clear hK K
        try simp only [Act.put, List.setIfInBounds_toArray, List.set_cons_zero, List.set_cons_succ]
        rw [← hg, ← hW]
        clear hg hW hHeld
        have hHeld := hS2
        clear hS2
        rename World => W
        rename Mk2 _ _ _ _ _ _ _ _ => hM
        refine wpAnyH_ready (rs := [3, 4]) (by kernel_rfl) (by simp) ?_
        refine AllReadyH.cons rfl (fun K hK => ?_) (AllReadyH.cons rfl (fun K hK => ?_) AllReadyH.nil)
        · obtain ⟨aq, cq, W2, hr, hM2⟩ := hM.runQ (a := aQ) cQ HS.out.q (HRd.out _ hM.below).q
          have hS2 := HSx.out _ hM2.below
          clear hM hHeld
          refine wp_appD (by kernel_rfl) (some 8) (.tmp 5) (.tmp 7) 24 _ _ _ rfl rfl rfl rfl rfl hr ?_
          clear hr
          refine hK.out _ _ (hS2) (fun hHeld => ?_)
          clear hK K
          try simp only [Act.put, List.setIfInBounds_toArray, List.set_cons_zero, List.set_cons_succ]
          clear hHeld
          have hHeld := hS2
          clear hS2
          rename World => W
          rename Mk2 _ _ _ _ _ _ _ _ => hM
          refine wpAnyH_ready (rs := [4]) (by kernel_rfl) (by simp) ?_
          refine AllReadyH.cons rfl (fun K hK => ?_) AllReadyH.nil
          · obtain ⟨gE2, W2, hg, hW, hM2⟩ := hM.runE2
            have hS2 := HSx.out _ hM2.below
            clear hM hHeld
            go_simp
            refine hK.out _ _ (by rw [← hW]; exact hS2) (fun hHeld => ?_)
            clear hK K
            try simp only [Act.put, List.setIfInBounds_toArray, List.set_cons_zero, List.set_cons_succ]
            rw [← hg, ← hW]
            clear hg hW hHeld
            have hHeld := hS2
            clear hS2
            rename World => W
            rename Mk2 _ _ _ _ _ _ _ _ => hM
            refine wpAnyH_ready (rs := [7]) (by kernel_rfl) (by simp) ?_
            refine AllReadyH.cons rfl (fun K hK => ?_) AllReadyH.nil
            · obtain ⟨ad, cd, W2, hr, hM2⟩ := hM.runD (a := aD) cD HS.out.d (HRd.out _ hM.below).d
              have hS2 := HSx.out _ hM2.below
              clear hM hHeld
              refine wp_appD (by kernel_rfl) (some 12) (.tmp 9) (.tmp 11) 24 _ _ _ rfl rfl rfl rfl rfl hr ?_
              clear hr
              refine hK.out _ _ (hS2) (fun hHeld => ?_)
              clear hK K
              try simp only [Act.put, List.setIfInBounds_toArray, List.set_cons_zero, List.set_cons_succ]
              clear hHeld
              have hHeld := hS2
              clear hS2
              rename World => W
              rename Mk2 _ _ _ _ _ _ _ _ => hM
              refine takeD (i := 12) (some 17) (v := ?_) rfl rfl (by kernel_rfl) (by kernel_rfl) (by kernel_rfl) (fun _ _ _ h => absurd h.1 (by simp)) (by kernel_rfl) ?_ (by assumption) ?_
              rotate_left
              · intro wx hSw
                obtain ⟨hS1, hS2, hS3, hS4⟩ := hSw
                go_simp
                try (with_reducible rfl)
              try simp only [Act.put, List.setIfInBounds_toArray, List.set_cons_zero, List.set_cons_succ]
              have cB := blk_cell (hM.b gB rfl).2
              have fB := blk_free (hM.b gB rfl).2
              unfold zRound at cB
              have hS5 := HSs.out W gB (.slice aq nQ cq) (.slice ad nD cd) (.int .i64 turn) (.bool fresh) (.slice none 0 0) hM.below (hM.b gB rfl).1
              unfold put5 at hS5
              refine wpAnyH_ready (rs := [14]) (by kernel_rfl) (by simp) ?_
              refine AllReadyH.cons rfl (fun K hK => ?_) AllReadyH.nil
              go_simp
              refine hK.out _ _ (hS5) (fun hHeld => ?_)
              clear hK K
              try simp only [Act.put, List.setIfInBounds_toArray, List.set_cons_zero, List.set_cons_succ]
              refine wpAnyH_done (by kernel_rfl) ?_ _
              exact ⟨rfl, aq, cq, ad, cd, gB, gE1, gE2, W, hM, rfl, rfl⟩
        · obtain ⟨gE2, W2, hg, hW, hM2⟩ := hM.runE2
          have hS2 := HSx.out _ hM2.below
          clear hM hHeld
          go_simp
          refine hK.out _ _ (by rw [← hW]; exact hS2) (fun hHeld => ?_)
          clear hK K
          try simp only [Act.put, List.setIfInBounds_toArray, List.set_cons_zero, List.set_cons_succ]
          rw [← hg, ← hW]
          clear hg hW hHeld
          have hHeld := hS2
          clear hS2
          rename World => W
          rename Mk2 _ _ _ _ _ _ _ _ => hM
          refine wpAnyH_ready (rs := [3]) (by kernel_rfl) (by simp) ?_
          refine AllReadyH.cons rfl (fun K hK => ?_) AllReadyH.nil
          · obtain ⟨aq, cq, W2, hr, hM2⟩ := hM.runQ (a := aQ) cQ HS.out.q (HRd.out _ hM.below).q
            have hS2 := HSx.out _ hM2.below
            clear hM hHeld
            refine wp_appD (by kernel_rfl) (some 8) (.tmp 5) (.tmp 7) 24 _ _ _ rfl rfl rfl rfl rfl hr ?_
            clear hr
            refine hK.out _ _ (hS2) (fun hHeld => ?_)
            clear hK K
            try simp only [Act.put, List.setIfInBounds_toArray, List.set_cons_zero, List.set_cons_succ]
            clear hHeld
            have hHeld := hS2
            clear hS2
            rename World => W
            rename Mk2 _ _ _ _ _ _ _ _ => hM
            refine wpAnyH_ready (rs := [7]) (by kernel_rfl) (by simp) ?_
            refine AllReadyH.cons rfl (fun K hK => ?_) AllReadyH.nil
            · obtain ⟨ad, cd, W2, hr, hM2⟩ := hM.runD (a := aD) cD HS.out.d (HRd.out _ hM.below).d
              have hS2 := HSx.out _ hM2.below
              clear hM hHeld
              refine wp_appD (by kernel_rfl) (some 12) (.tmp 9) (.tmp 11) 24 _ _ _ rfl rfl rfl rfl rfl hr ?_
              clear hr
              refine hK.out _ _ (hS2) (fun hHeld => ?_)
              clear hK K
              try simp only [Act.put, List.setIfInBounds_toArray, List.set_cons_zero, List.set_cons_succ]
              clear hHeld
              have hHeld := hS2
              clear hS2
              rename World => W
              rename Mk2 _ _ _ _ _ _ _ _ => hM
              refine takeD (i := 12) (some 17) (v := ?_) rfl rfl (by kernel_rfl) (by kernel_rfl) (by kernel_rfl) (fun _ _ _ h => absurd h.1 (by simp)) (by kernel_rfl) ?_ (by assumption) ?_
              rotate_left
              · intro wx hSw
                obtain ⟨hS1, hS2, hS3, hS4⟩ := hSw
                go_simp
                try (with_reducible rfl)
              try simp only [Act.put, List.setIfInBounds_toArray, List.set_cons_zero, List.set_cons_succ]
              have cB := blk_cell (hM.b gB rfl).2
              have fB := blk_free (hM.b gB rfl).2
              unfold zRound at cB
              have hS5 := HSs.out W gB (.slice aq nQ cq) (.slice ad nD cd) (.int .i64 turn) (.bool fresh) (.slice none 0 0) hM.below (hM.b gB rfl).1
              unfold put5 at hS5
              refine wpAnyH_ready (rs := [14]) (by kernel_rfl) (by simp) ?_
              refine AllReadyH.cons rfl (fun K hK => ?_) AllReadyH.nil
              go_simp
              refine hK.out _ _ (hS5) (fun hHeld => ?_)
              clear hK K
              try simp only [Act.put, List.setIfInBounds_toArray, List.set_cons_zero, List.set_cons_succ]
              refine wpAnyH_done (by kernel_rfl) ?_ _
              exact ⟨rfl, aq, cq, ad, cd, gB, gE1, gE2, W, hM, rfl, rfl⟩
      · obtain ⟨gE2, W2, hg, hW, hM2⟩ := hM.runE2
        have hS2 := HSx.out _ hM2.below
        clear hM hHeld
        go_simp
        refine hK.out _ _ (by rw [← hW]; exact hS2) (fun hHeld => ?_)
        clear hK K
        try simp only [Act.put, List.setIfInBounds_toArray, List.set_cons_zero, List.set_cons_succ]
        rw [← hg, ← hW]
        clear hg hW hHeld
        have hHeld := hS2
        clear hS2
        rename World => W
        rename Mk2 _ _ _ _ _ _ _ _ => hM
        refine wpAnyH_ready (rs := [0]) (by kernel_rfl) (by simp) ?_
        refine AllReadyH.cons rfl (fun K hK => ?_) AllReadyH.nil
        · obtain ⟨gE1, W2, hg, hW, hM2⟩ := hM.runE1
          have hS2 := HSx.out _ hM2.below
          clear hM hHeld
          go_simp
          refine hK.out _ _ (by rw [← hW]; exact hS2) (fun hHeld => ?_)
          clear hK K
          try simp only [Act.put, List.setIfInBounds_toArray, List.set_cons_zero, List.set_cons_succ]
          rw [← hg, ← hW]
          clear hg hW hHeld
          have hHeld := hS2
          clear hS2
          rename World => W
          rename Mk2 _ _ _ _ _ _ _ _ => hM
          refine wpAnyH_ready (rs := [3]) (by kernel_rfl) (by simp) ?_
          refine AllReadyH.cons rfl (fun K hK => ?_) AllReadyH.nil
          · obtain ⟨aq, cq, W2, hr, hM2⟩ := hM.runQ (a := aQ) cQ HS.out.q (HRd.out _ hM.below).q
            have hS2 := HSx.out _ hM2.below
            clear hM hHeld
            refine wp_appD (by kernel_rfl) (some 8) (.tmp 5) (.tmp 7) 24 _ _ _ rfl rfl rfl rfl rfl hr ?_
            clear hr
            refine hK.out _ _ (hS2) (fun hHeld => ?_)
            clear hK K
            try simp only [Act.put, List.setIfInBounds_toArray, List.set_cons_zero, List.set_cons_succ]
            clear hHeld
            have hHeld := hS2
            clear hS2
            rename World => W
            rename Mk2 _ _ _ _ _ _ _ _ => hM
            refine wpAnyH_ready (rs := [7]) (by kernel_rfl) (by simp) ?_
            refine AllReadyH.cons rfl (fun K hK => ?_) AllReadyH.nil
            · obtain ⟨ad, cd, W2, hr, hM2⟩ := hM.runD (a := aD) cD HS.out.d (HRd.out _ hM.below).d
              have hS2 := HSx.out _ hM2.below
              clear hM hHeld
              refine wp_appD (by kernel_rfl) (some 12) (.tmp 9) (.tmp 11) 24 _ _ _ rfl rfl rfl rfl rfl hr ?_
              clear hr
              refine hK.out _ _ (hS2) (fun hHeld => ?_)
              clear hK K
              try simp only [Act.put, List.setIfInBounds_toArray, List.set_cons_zero, List.set_cons_succ]
              clear hHeld
              have hHeld := hS2
              clear hS2
              rename World => W
              rename Mk2 _ _ _ _ _ _ _ _ => hM
              refine takeD (i := 12) (some 17) (v := ?_) rfl rfl (by kernel_rfl) (by kernel_rfl) (by kernel_rfl) (fun _ _ _ h => absurd h.1 (by simp)) (by kernel_rfl) ?_ (by assumption) ?_
              rotate_left
              · intro wx hSw
                obtain ⟨hS1, hS2, hS3, hS4⟩ := hSw
                go_simp
                try (with_reducible rfl)
              try simp only [Act.put, List.setIfInBounds_toArray, List.set_cons_zero, List.set_cons_succ]
              have cB := blk_cell (hM.b gB rfl).2
              have fB := blk_free (hM.b gB rfl).2
              unfold zRound at cB
              have hS5 := HSs.out W gB (.slice aq nQ cq) (.slice ad nD cd) (.int .i64 turn) (.bool fresh) (.slice none 0 0) hM.below (hM.b gB rfl).1
              unfold put5 at hS5
              refine wpAnyH_ready (rs := [14]) (by kernel_rfl) (by simp) ?_
              refine AllReadyH.cons rfl (fun K hK => ?_) AllReadyH.nil
              go_simp
              refine hK.out _ _ (hS5) (fun hHeld => ?_)
              clear hK K
              try simp only [Act.put, List.setIfInBounds_toArray, List.set_cons_zero, List.set_cons_succ]
              refine wpAnyH_done (by kernel_rfl) ?_ _
              exact ⟨rfl, aq, cq, ad, cd, gB, gE1, gE2, W, hM, rfl, rfl⟩
  rintro e a' W ⟨rfl, aq, cq, ad, cd, gB, gE1, gE2, W', hM, rfl, rfl⟩
  have hb := hM.b gB rfl
  unfold zRound at hb
  have ht := put5_touch W' gB (.slice aq nQ cq) (.slice ad nD cd) (.int .i64 turn) (.bool fresh) (.slice none 0 0)
  have kB1 := put5_blk hb.2 (.slice aq nQ cq) (.slice ad nD cd) (.int .i64 turn) (.bool fresh) (.slice none 0 0)
  have k2 : ∀ (g : Nat) (arr : Array Value), W'.heap[g]? = some (.cells arr 2 (0, 0)) → (put5 W' gB (.slice aq nQ cq) (.slice ad nD cd) (.int .i64 turn) (.bool fresh) (.slice none 0 0)).heap[g]? = some (.cells arr 2 (0, 0)) := fun g arr hg => (ht.block g (blk_lt hg) (fun hx => by
    simp at hx
    subst hx
    rw [hb.2] at hg
    simp at hg)).trans hg
  have HCp0 : Hid (Cp2 ⟨aQ, nQ, cQ, q, aD, nD, cD, d, turn, fresh, aS, nS, cS, A, L, C, z⟩ ((w.alloc (.cells #[.slice aQ nQ cQ, .slice aD nD cD, .int .i64 turn, .bool fresh, .slice aS nS cS] 27)).alloc (.cells #[.slice none 0 0, .slice none 0 0, .int .i64 0, .bool false, .slice none 0 0] 27)).heap.size (put5 W' gB (.slice aq nQ cq) (.slice ad nD cd) (.int .i64 turn) (.bool fresh) (.slice none 0 0)) aq ad none 0 A C 0) := ⟨(hM.q aq rfl).keepT k2, (hM.d ad rfl).keepT k2, World.ownsRow_nil _ _ _ _, fun i hi => by omega, hM.qd aq ad rfl rfl, fun i hi => by omega, fun i hi => by omega, fun i j hi => by omega⟩
  have HBl0 : Hid (Below ((w.alloc (.cells #[.slice aQ nQ cQ, .slice aD nD cD, .int .i64 turn, .bool fresh, .slice aS nS cS] 27)).alloc (.cells #[.slice none 0 0, .slice none 0 0, .int .i64 0, .bool false, .slice none 0 0] 27)).heap.size ((w.alloc (.cells #[.slice aQ nQ cQ, .slice aD nD cD, .int .i64 turn, .bool fresh, .slice aS nS cS] 27)).alloc (.cells #[.slice none 0 0, .slice none 0 0, .int .i64 0, .bool false, .slice none 0 0] 27)) (put5 W' gB (.slice aq nQ cq) (.slice ad nD cd) (.int .i64 turn) (.bool fresh) (.slice none 0 0))) := hM.below.trans (ht.below hM.below.size (fun x hx => by simp at hx; omega))
  have HkB0 : Hid ((put5 W' gB (.slice aq nQ cq) (.slice ad nD cd) (.int .i64 turn) (.bool fresh) (.slice none 0 0)).heap[gB]? = _) := kB1
  have HgB : Hid (((w.alloc (.cells #[.slice aQ nQ cQ, .slice aD nD cD, .int .i64 turn, .bool fresh, .slice aS nS cS] 27)).alloc (.cells #[.slice none 0 0, .slice none 0 0, .int .i64 0, .bool false, .slice none 0 0] 27)).heap.size ≤ gB) := hb.1
  clear hM hb ht kB1 k2 HSx HSs
  generalize put5 W' gB (.slice aq nQ cq) (.slice ad nD cd) (.int .i64 turn) (.bool fresh) (.slice none 0 0) = W1 at *
  go_wp2_with fail
  generalize ((w.alloc (.cells #[.slice aQ nQ cQ, .slice aD nD cD, .int .i64 turn, .bool fresh, .slice aS nS cS] 27)).alloc (.cells #[.slice none 0 0, .slice none 0 0, .int .i64 0, .bool false, .slice none 0 0] 27)) = w0 at *
  go_loopw [4] (fun i wr => ∃ (k : Nat) (A' : Nat → Option Addr) (C' : Nat → Nat) (av : Option Addr) (cv : Nat), k ≤ nS ∧ i = .int .i64 k ∧ Cp2 ⟨aQ, nQ, cQ, q, aD, nD, cD, d, turn, fresh, aS, nS, cS, A, L, C, z⟩ w0.heap.size wr aq ad av cv A' C' k ∧ Below w0.heap.size w0 wr ∧ wr.heap[gB]? = some (.cells #[.slice aq nQ cq, .slice ad nD cd, .int .i64 turn, .bool fresh, .slice av k cv] 27 (0, 0))) (fun i _ => nS - (intOf i).toNat)
  case atStart => exact ⟨0, A, C, none, 0, Nat.zero_le _, rfl, HCp0.out, HBl0.out, HkB0.out⟩
  case round =>
    obtain ⟨k, A', C', av, cv, hk, rfl, hCp, hB, hkB⟩ := hrel
    clear HCp0 HBl0 HkB0
    obtain ⟨kA, kZ, hBw⟩ := HkA.out wr hB
    have HCp : Hid (Cp2 ⟨aQ, nQ, cQ, q, aD, nD, cD, d, turn, fresh, aS, nS, cS, A, L, C, z⟩ w0.heap.size wr aq ad av cv A' C' k) := hCp
    have HB : Hid (Below w0.heap.size w0 wr) := hB
    clear hCp hB
    have cA := blk_cell kA
    by_cases hlt : k < nS
    · have hlt' : (k : Int) < nS := by omega
      obtain ⟨gs, os, rfl, hcl⟩ := (HRd.out wr HB.out).s k hlt
      dsimp only at hcl
      have HS5 : Hid (∀ V, Below w0.heap.size w0 V → V.cell? ⟨w.heap.size, 4, none⟩ = some (.slice (some ⟨gs, os, none⟩) nS cS) ∧ V.cell? ⟨gs, os + k, none⟩ = some (.slice (A k) (L k) (C k))) := fun V hV => ⟨blk_cell (HkA.out V hV).1 4, by
        obtain ⟨g', o', e, hc⟩ := (HRd.out V hV).s k hlt
        cases e
        exact hc⟩
      have HkBd : Hid (wr.drew.heap[gB]? = some (.cells #[.slice aq nQ cq, .slice ad nD cd, .int .i64 turn, .bool fresh, .slice av k cv] 27 (0, 0))) := hkB
      clear kZ hBw hkB
      go_wp2_with fail
      obtain ⟨W, hW⟩ : ∃ W, W = wr.drew := ⟨_, rfl⟩
      have hBW : Below w0.heap.size w0 W := by rw [hW]; exact HB.out.drew
      have hCW : Cp2 ⟨aQ, nQ, cQ, q, aD, nD, cD, d, turn, fresh, some ⟨gs, os, none⟩, nS, cS, A, L, C, z⟩ w0.heap.size W aq ad av cv A' C' k := by rw [hW]; exact HCp.out.up ((Below.refl _ _).drew)
      have kBW : W.heap[gB]? = some (.cells #[.slice aq nQ cq, .slice ad nD cd, .int .i64 turn, .bool fresh, .slice av k cv] 27 (0, 0)) := by rw [hW]; exact HkBd.out
      have hE1 := (Below.refl W.heap.size W).alloc (Nat.le_refl _) (.cells #[] 2)
      have hB1 := hBW.trans (hE1.mono hBW.size)
      obtain ⟨a', c', W2, av', cv', W4, r1, r2, hCp4, hB4, hB2, hbox⟩ := hCW.step (show k < 1048576 by omega) (HS.out.l k hlt) hBW.size ((HRd.out _ hB1).z k hlt) (C k)
      have hBW2 := hBW.trans (hB2.mono hBW.size)
      have hE3 := (Below.refl W2.heap.size W2).alloc (Nat.le_refl _) (.cells #[.slice a' (L k) c'] 24)
      have hB3 := hBW2.trans (hE3.mono hBW2.size)
      have hBW4 := hBW.trans hB4
      have s0 := HS5.out _ hBW
      have s1 := HS5.out _ hB1
      have s2 := HS5.out _ hBW2
      have s3 := HS5.out _ hB3
      have s4 := HS5.out _ hBW4
      have kB1 := (hE1.block _ (blk_lt kBW)).trans kBW
      have kB2 := (hB2.block _ (blk_lt kBW)).trans kBW
      have kB3 := (hE3.block _ (blk_lt kB2)).trans kB2
      have kB4 := hbox _ _ _ (by decide) kBW
      have b0 : W.cell? ⟨gB, 4, none⟩ = some (.slice av k cv) := blk_cell kBW 4
      have b1 : (W.alloc (.cells #[] 2)).cell? ⟨gB, 4, none⟩ = some (.slice av k cv) := blk_cell kB1 4
      have b2 : W2.cell? ⟨gB, 4, none⟩ = some (.slice av k cv) := blk_cell kB2 4
      have b3 : (W2.alloc (.cells #[.slice a' (L k) c'] 24)).cell? ⟨gB, 4, none⟩ = some (.slice av k cv) := blk_cell kB3 4
      have b4 : W4.cell? ⟨gB, 4, none⟩ = some (.slice av k cv) := blk_cell kB4 4
      have f4 := blk_free kB4 4
      have ht := (Touch.refl [gB] W4).set (g := gB) (by simp) 4 (.slice av' (k + 1) cv')
      have hne : ∀ (g : Nat) (arr : Array Value) (t : TypeId), t ≠ 27 → W4.heap[g]? = some (.cells arr t (0, 0)) → (W4.setCell ⟨gB, 4, none⟩ (.slice av' (k + 1) cv')).heap[g]? = some (.cells arr t (0, 0)) := fun g arr t htt hg => (ht.block g (blk_lt hg) (fun hx => by
        simp at hx
        subst hx
        rw [kB4] at hg
        simp at hg
        exact htt hg.2.symm)).trans hg
      have hB5 := hBW4.trans (ht.below hBW4.size (fun x hx => by simp at hx; rw [hx]; exact HgB.out))
      have s5 := HS5.out _ hB5
      have HCp5 : Hid (Cp2 ⟨aQ, nQ, cQ, q, aD, nD, cD, d, turn, fresh, some ⟨gs, os, none⟩, nS, cS, A, L, C, z⟩ w0.heap.size (W4.setCell ⟨gB, 4, none⟩ (.slice av' (k + 1) cv')) aq ad av' cv' (fun i => if i = k then a' else A' i) (fun i => if i = k then c' else C' i) (k + 1)) := hCp4.keepT (fun g arr hg => hne g arr 2 (by decide) hg) (fun g arr hg => hne g arr _ (by decide) hg)
      have HB5 : Hid (Below w0.heap.size w0 (W4.setCell ⟨gB, 4, none⟩ (.slice av' (k + 1) cv'))) := hB5
      have HkB5 : Hid ((W4.setCell ⟨gB, 4, none⟩ (.slice av' (k + 1) cv')).heap[gB]? = some (.cells #[.slice aq nQ cq, .slice ad nD cd, .int .i64 turn, .bool fresh, .slice av' (k + 1) cv'] 27 (0, 0))) := blk_set kB4 _
      dsimp only at r1 r2
      clear hCW hCp4 hB4 hB2 hbox hE1 hB1 hBW2 hE3 hB3 hBW4 kB1 kB2 kB3 ht hne hB5 kBW hBW cA hcl kA
      refine wp_region_held_drew (S := fun w' => w'.cell? ⟨w.heap.size, 4, none⟩ = some (.slice (some ⟨gs, os, none⟩) nS cS) ∧ w'.cell? ⟨gs, os + k, none⟩ = some (.slice (A k) (L k) (C k))) (by kernel_rfl) (by rw [← hW]; exact s0) (fun hHeld => ?_)
      rw [← hW] at hHeld ⊢
      clear hW
      refine takeD (i := 0) (some 25) (v := ?_) rfl rfl (by kernel_rfl) (by kernel_rfl) (by kernel_rfl) (fun _ _ _ h => h) (by kernel_rfl) ?_ (by assumption) ?_
      rotate_left
      · intro wx hSw
        obtain ⟨hS1, hS2⟩ := hSw
        go_simp
        try (with_reducible rfl)
      try simp only [Act.put, List.setIfInBounds_toArray, List.set_cons_zero, List.set_cons_succ]
      refine takeD (i := 3) (some 28) (v := ?_) rfl rfl (by kernel_rfl) (by kernel_rfl) (by kernel_rfl) (fun _ _ _ h => h) (by kernel_rfl) ?_ (by assumption) ?_
      rotate_left
      · intro wx hSw
        obtain ⟨hS1, hS2⟩ := hSw
        go_simp
        try (with_reducible rfl)
      try simp only [Act.put, List.setIfInBounds_toArray, List.set_cons_zero, List.set_cons_succ]
      refine takeD (i := 4) (some 29) (v := ?_) rfl rfl (by kernel_rfl) (by kernel_rfl) (by kernel_rfl) (fun _ _ _ h => h) (by kernel_rfl) ?_ (by assumption) ?_
      rotate_left
      · intro wx hSw
        obtain ⟨hS1, hS2⟩ := hSw
        go_simp
        try (with_reducible rfl)
      try simp only [Act.put, List.setIfInBounds_toArray, List.set_cons_zero, List.set_cons_succ]
      refine takeD (i := 5) (some 30) (v := ?_) rfl rfl (by kernel_rfl) (by kernel_rfl) (by kernel_rfl) (fun _ _ _ h => h) (by kernel_rfl) ?_ (by assumption) ?_
      rotate_left
      · intro wx hSw
        obtain ⟨hS1, hS2⟩ := hSw
        go_simp
        try (with_reducible rfl)
      try simp only [Act.put, List.setIfInBounds_toArray, List.set_cons_zero, List.set_cons_succ]
      refine takeD (i := 6) (some 31) (v := ?_) rfl rfl (by kernel_rfl) (by kernel_rfl) (by kernel_rfl) (fun _ _ _ h => h) (by kernel_rfl) ?_ (by assumption) ?_
      rotate_left
      · intro wx hSw
        obtain ⟨hS1, hS2⟩ := hSw
        go_simp
        try (with_reducible rfl)
      try simp only [Act.put, List.setIfInBounds_toArray, List.set_cons_zero, List.set_cons_succ]
      refine takeD (i := 7) (some 32) (v := ?_) rfl rfl (by kernel_rfl) (by kernel_rfl) (by kernel_rfl) (fun _ _ _ h => h) (by kernel_rfl) ?_ (by assumption) ?_
      rotate_left
      · intro wx hSw
        obtain ⟨hS1, hS2⟩ := hSw
        go_simp
        try (with_reducible rfl)
      try simp only [Act.put, List.setIfInBounds_toArray, List.set_cons_zero, List.set_cons_succ]
      refine wpAnyH_ready (rs := [1, 2]) (by kernel_rfl) (by simp) ?_
      refine AllReadyH.cons rfl (fun K hK => ?_) (AllReadyH.cons rfl (fun K hK => ?_) AllReadyH.nil)
      · go_simp
        refine hK.out _ _ (s0) (fun hHeld => ?_)
        clear hK K
        try simp only [Act.put, List.setIfInBounds_toArray, List.set_cons_zero, List.set_cons_succ]
        refine wpAnyH_ready (rs := [2]) (by kernel_rfl) (by simp) ?_
        refine AllReadyH.cons rfl (fun K hK => ?_) AllReadyH.nil
        · go_simp
          refine hK.out _ _ (s1) (fun hHeld => ?_)
          clear hK K
          try simp only [Act.put, List.setIfInBounds_toArray, List.set_cons_zero, List.set_cons_succ]
          refine wpAnyH_ready (rs := [8]) (by kernel_rfl) (by simp) ?_
          refine AllReadyH.cons rfl (fun K hK => ?_) AllReadyH.nil
          · refine wp_appD (by kernel_rfl) (some 33) (.tmp 27) (.tmp 32) 24 _ _ _ rfl rfl rfl rfl rfl r1 ?_
            refine hK.out _ _ (s2) (fun hHeld => ?_)
            clear hK K
            try simp only [Act.put, List.setIfInBounds_toArray, List.set_cons_zero, List.set_cons_succ]
            refine wpAnyH_ready (rs := [9]) (by kernel_rfl) (by simp) ?_
            refine AllReadyH.cons rfl (fun K hK => ?_) AllReadyH.nil
            · go_simp
              refine hK.out _ _ (s3) (fun hHeld => ?_)
              clear hK K
              try simp only [Act.put, List.setIfInBounds_toArray, List.set_cons_zero, List.set_cons_succ]
              refine wpAnyH_ready (rs := [10]) (by kernel_rfl) (by simp) ?_
              refine AllReadyH.cons rfl (fun K hK => ?_) AllReadyH.nil
              · refine wp_appD (by kernel_rfl) (some 35) (.tmp 26) (.tmp 34) 25 _ _ _ rfl rfl rfl rfl rfl r2 ?_
                refine hK.out _ _ (s4) (fun hHeld => ?_)
                clear hK K
                try simp only [Act.put, List.setIfInBounds_toArray, List.set_cons_zero, List.set_cons_succ]
                refine takeD (i := 11) (some 36) (v := ?_) rfl rfl (by kernel_rfl) (by kernel_rfl) (by kernel_rfl) (fun _ _ _ h => h) (by kernel_rfl) ?_ (by assumption) ?_
                rotate_left
                · intro wx hSw
                  obtain ⟨hS1, hS2⟩ := hSw
                  go_simp
                  try (with_reducible rfl)
                try simp only [Act.put, List.setIfInBounds_toArray, List.set_cons_zero, List.set_cons_succ]
                refine wpAnyH_ready (rs := [12]) (by kernel_rfl) (by simp) ?_
                refine AllReadyH.cons rfl (fun K hK => ?_) AllReadyH.nil
                · go_simp
                  refine hK.out _ _ (s5) (fun hHeld => ?_)
                  clear hK K
                  try simp only [Act.put, List.setIfInBounds_toArray, List.set_cons_zero, List.set_cons_succ]
                  refine wpAnyH_done (by kernel_rfl) ?_ _
                  clear s0 s1 s2 s3 s4 s5 b0 b1 b2 b3 b4 f4 hHeld
                  go_wp2_with fail
                  go_roundw
                  case rel => exact ⟨k + 1, _, _, av', cv', by omega, by go_num, HCp5.out, HB5.out, HkB5.out⟩
                  case measure => simp [intOf]; omega
      · go_simp
        refine hK.out _ _ (s1) (fun hHeld => ?_)
        clear hK K
        try simp only [Act.put, List.setIfInBounds_toArray, List.set_cons_zero, List.set_cons_succ]
        refine wpAnyH_ready (rs := [1, 8]) (by kernel_rfl) (by simp) ?_
        refine AllReadyH.cons rfl (fun K hK => ?_) (AllReadyH.cons rfl (fun K hK => ?_) AllReadyH.nil)
        · go_simp
          refine hK.out _ _ (s1) (fun hHeld => ?_)
          clear hK K
          try simp only [Act.put, List.setIfInBounds_toArray, List.set_cons_zero, List.set_cons_succ]
          refine wpAnyH_ready (rs := [8]) (by kernel_rfl) (by simp) ?_
          refine AllReadyH.cons rfl (fun K hK => ?_) AllReadyH.nil
          · refine wp_appD (by kernel_rfl) (some 33) (.tmp 27) (.tmp 32) 24 _ _ _ rfl rfl rfl rfl rfl r1 ?_
            refine hK.out _ _ (s2) (fun hHeld => ?_)
            clear hK K
            try simp only [Act.put, List.setIfInBounds_toArray, List.set_cons_zero, List.set_cons_succ]
            refine wpAnyH_ready (rs := [9]) (by kernel_rfl) (by simp) ?_
            refine AllReadyH.cons rfl (fun K hK => ?_) AllReadyH.nil
            · go_simp
              refine hK.out _ _ (s3) (fun hHeld => ?_)
              clear hK K
              try simp only [Act.put, List.setIfInBounds_toArray, List.set_cons_zero, List.set_cons_succ]
              refine wpAnyH_ready (rs := [10]) (by kernel_rfl) (by simp) ?_
              refine AllReadyH.cons rfl (fun K hK => ?_) AllReadyH.nil
              · refine wp_appD (by kernel_rfl) (some 35) (.tmp 26) (.tmp 34) 25 _ _ _ rfl rfl rfl rfl rfl r2 ?_
                refine hK.out _ _ (s4) (fun hHeld => ?_)
                clear hK K
                try simp only [Act.put, List.setIfInBounds_toArray, List.set_cons_zero, List.set_cons_succ]
                refine takeD (i := 11) (some 36) (v := ?_) rfl rfl (by kernel_rfl) (by kernel_rfl) (by kernel_rfl) (fun _ _ _ h => h) (by kernel_rfl) ?_ (by assumption) ?_
                rotate_left
                · intro wx hSw
                  obtain ⟨hS1, hS2⟩ := hSw
                  go_simp
                  try (with_reducible rfl)
                try simp only [Act.put, List.setIfInBounds_toArray, List.set_cons_zero, List.set_cons_succ]
                refine wpAnyH_ready (rs := [12]) (by kernel_rfl) (by simp) ?_
                refine AllReadyH.cons rfl (fun K hK => ?_) AllReadyH.nil
                · go_simp
                  refine hK.out _ _ (s5) (fun hHeld => ?_)
                  clear hK K
                  try simp only [Act.put, List.setIfInBounds_toArray, List.set_cons_zero, List.set_cons_succ]
                  refine wpAnyH_done (by kernel_rfl) ?_ _
                  clear s0 s1 s2 s3 s4 s5 b0 b1 b2 b3 b4 f4 hHeld
                  go_wp2_with fail
                  go_roundw
                  case rel => exact ⟨k + 1, _, _, av', cv', by omega, by go_num, HCp5.out, HB5.out, HkB5.out⟩
                  case measure => simp [intOf]; omega
        · refine wp_appD (by kernel_rfl) (some 33) (.tmp 27) (.tmp 32) 24 _ _ _ rfl rfl rfl rfl rfl r1 ?_
          refine hK.out _ _ (s2) (fun hHeld => ?_)
          clear hK K
          try simp only [Act.put, List.setIfInBounds_toArray, List.set_cons_zero, List.set_cons_succ]
          refine wpAnyH_ready (rs := [1, 9]) (by kernel_rfl) (by simp) ?_
          refine AllReadyH.cons rfl (fun K hK => ?_) (AllReadyH.cons rfl (fun K hK => ?_) AllReadyH.nil)
          · go_simp
            refine hK.out _ _ (s2) (fun hHeld => ?_)
            clear hK K
            try simp only [Act.put, List.setIfInBounds_toArray, List.set_cons_zero, List.set_cons_succ]
            refine wpAnyH_ready (rs := [9]) (by kernel_rfl) (by simp) ?_
            refine AllReadyH.cons rfl (fun K hK => ?_) AllReadyH.nil
            · go_simp
              refine hK.out _ _ (s3) (fun hHeld => ?_)
              clear hK K
              try simp only [Act.put, List.setIfInBounds_toArray, List.set_cons_zero, List.set_cons_succ]
              refine wpAnyH_ready (rs := [10]) (by kernel_rfl) (by simp) ?_
              refine AllReadyH.cons rfl (fun K hK => ?_) AllReadyH.nil
              · refine wp_appD (by kernel_rfl) (some 35) (.tmp 26) (.tmp 34) 25 _ _ _ rfl rfl rfl rfl rfl r2 ?_
                refine hK.out _ _ (s4) (fun hHeld => ?_)
                clear hK K
                try simp only [Act.put, List.setIfInBounds_toArray, List.set_cons_zero, List.set_cons_succ]
                refine takeD (i := 11) (some 36) (v := ?_) rfl rfl (by kernel_rfl) (by kernel_rfl) (by kernel_rfl) (fun _ _ _ h => h) (by kernel_rfl) ?_ (by assumption) ?_
                rotate_left
                · intro wx hSw
                  obtain ⟨hS1, hS2⟩ := hSw
                  go_simp
                  try (with_reducible rfl)
                try simp only [Act.put, List.setIfInBounds_toArray, List.set_cons_zero, List.set_cons_succ]
                refine wpAnyH_ready (rs := [12]) (by kernel_rfl) (by simp) ?_
                refine AllReadyH.cons rfl (fun K hK => ?_) AllReadyH.nil
                · go_simp
                  refine hK.out _ _ (s5) (fun hHeld => ?_)
                  clear hK K
                  try simp only [Act.put, List.setIfInBounds_toArray, List.set_cons_zero, List.set_cons_succ]
                  refine wpAnyH_done (by kernel_rfl) ?_ _
                  clear s0 s1 s2 s3 s4 s5 b0 b1 b2 b3 b4 f4 hHeld
                  go_wp2_with fail
                  go_roundw
                  case rel => exact ⟨k + 1, _, _, av', cv', by omega, by go_num, HCp5.out, HB5.out, HkB5.out⟩
                  case measure => simp [intOf]; omega
          · go_simp
            refine hK.out _ _ (s3) (fun hHeld => ?_)
            clear hK K
            try simp only [Act.put, List.setIfInBounds_toArray, List.set_cons_zero, List.set_cons_succ]
            refine wpAnyH_ready (rs := [1]) (by kernel_rfl) (by simp) ?_
            refine AllReadyH.cons rfl (fun K hK => ?_) AllReadyH.nil
            · go_simp
              refine hK.out _ _ (s3) (fun hHeld => ?_)
              clear hK K
              try simp only [Act.put, List.setIfInBounds_toArray, List.set_cons_zero, List.set_cons_succ]
              refine wpAnyH_ready (rs := [10]) (by kernel_rfl) (by simp) ?_
              refine AllReadyH.cons rfl (fun K hK => ?_) AllReadyH.nil
              · refine wp_appD (by kernel_rfl) (some 35) (.tmp 26) (.tmp 34) 25 _ _ _ rfl rfl rfl rfl rfl r2 ?_
                refine hK.out _ _ (s4) (fun hHeld => ?_)
                clear hK K
                try simp only [Act.put, List.setIfInBounds_toArray, List.set_cons_zero, List.set_cons_succ]
                refine takeD (i := 11) (some 36) (v := ?_) rfl rfl (by kernel_rfl) (by kernel_rfl) (by kernel_rfl) (fun _ _ _ h => h) (by kernel_rfl) ?_ (by assumption) ?_
                rotate_left
                · intro wx hSw
                  obtain ⟨hS1, hS2⟩ := hSw
                  go_simp
                  try (with_reducible rfl)
                try simp only [Act.put, List.setIfInBounds_toArray, List.set_cons_zero, List.set_cons_succ]
                refine wpAnyH_ready (rs := [12]) (by kernel_rfl) (by simp) ?_
                refine AllReadyH.cons rfl (fun K hK => ?_) AllReadyH.nil
                · go_simp
                  refine hK.out _ _ (s5) (fun hHeld => ?_)
                  clear hK K
                  try simp only [Act.put, List.setIfInBounds_toArray, List.set_cons_zero, List.set_cons_succ]
                  refine wpAnyH_done (by kernel_rfl) ?_ _
                  clear s0 s1 s2 s3 s4 s5 b0 b1 b2 b3 b4 f4 hHeld
                  go_wp2_with fail
                  go_roundw
                  case rel => exact ⟨k + 1, _, _, av', cv', by omega, by go_num, HCp5.out, HB5.out, HkB5.out⟩
                  case measure => simp [intOf]; omega
    · obtain rfl : k = nS := by omega
      have cC := blk_cell hkB
      have cB := blk_cell kZ
      have fB := blk_free kZ
      have hz := HSz.out
      have HBw : Hid (Below w.heap.size w wr) := hBw
      have HZz : Hid (w0.heap.size = w.heap.size + 1 + 1) := hz
      clear hz hBw
      go_wp2_with fail
      have ht := put5_touch wr (w.heap.size + 1) (.slice aq nQ cq) (.slice ad nD cd) (.int .i64 turn) (.bool fresh) (.slice av k cv)
      have cF := blk_cell (put5_blk kZ (.slice aq nQ cq) (.slice ad nD cd) (.int .i64 turn) (.bool fresh) (.slice av k cv))
      have hBf := HBw.out.trans (ht.below HBw.out.size (fun x hx => by simp at hx; omega))
      have hOf := ((HCp.out.own cq cd).touch ht (fun x hx => by simp at hx; have := HZz.out; omega)).mono (show w.heap.size ≤ w0.heap.size by have := HZz.out; omega)
      unfold put5 at cF hBf hOf
      exact bodyPost_ret (v := .agg (Rnd.cp2 ⟨aQ, nQ, cQ, q, aD, nD, cD, d, turn, fresh, aS, k, cS, A, L, C, z⟩ aq cq ad cd av cv A' C').cells) (by simp [results, Try.results36, go_sem, cF, Rnd.cp2, Rnd.cells]) rfl ⟨aq, cq, ad, cd, av, cv, A', C', rfl, hOf, hBf⟩
end Go.Proofs.Ytnfcmiiibkbmfaa
