/- A round made anew: the specification's answer. -/
import Derived.Test.YtaiodombphpcgaaRnNew2
namespace Go.Proofs.Ytaiodombphpcgaa
open Go.RowKit
set_option linter.unusedVariables false
set_option linter.unusedSimpArgs false
set_option maxRecDepth 100000 in
set_option maxHeartbeats 4000000 in
theorem sRoundNew_any (g q n cap : Nat) (f : Nat → Int) (w : World) (hn : n ≤ 1048576) (h : RdRow w (some ⟨g, q, none⟩) n fun i => .int .i64 (f i)) (ok : Bool) (hok : ok = true ↔ (newR n f none 0 0 0).Ok) :
    Calls Try.prog 17 #[.slice (some ⟨g, q, none⟩) n cap] w fun e w' => ∃ R, e = .returned (.tuple #[.agg R.cells, .bool ok]) ∧ OwnRn w' w.heap.size R ∧ Below w.heap.size w w' ∧ Alike (newM n f ok) R := by
  have hB0 : Below w.heap.size w (w.alloc (.cells #[.slice none 0 0, .slice none 0 0, .int .i64 0, .bool false, .slice none 0 0] 49)) := (Below.refl _ _).alloc (Nat.le_refl _) _
  have HRd : Hid (∀ W, Below (w.alloc (.cells #[.slice none 0 0, .slice none 0 0, .int .i64 0, .bool false, .slice none 0 0] 49)).heap.size (w.alloc (.cells #[.slice none 0 0, .slice none 0 0, .int .i64 0, .bool false, .slice none 0 0] 49)) W → RdRow W (some ⟨g, q, none⟩) n fun i => .int .i64 (f i)) := fun W hb => h.up (hB0.trans (hb.mono hB0.size))
  have HO : Hid (∀ aQ cQ gD gS, ok = true ↔ (newR n f aQ cQ gD gS).Ok) := fun _ _ _ _ => hok.trans newR_ok
  have HB0 : Hid (Below w.heap.size w (w.alloc (.cells #[.slice none 0 0, .slice none 0 0, .int .i64 0, .bool false, .slice none 0 0] 49))) := hB0
  have HBx : Hid ((w.alloc (.cells #[.slice none 0 0, .slice none 0 0, .int .i64 0, .bool false, .slice none 0 0] 49)).heap[w.heap.size]? = some (.cells #[.slice none 0 0, .slice none 0 0, .int .i64 0, .bool false, .slice none 0 0] 49 (0, 0))) := blk_new _ _
  have HSz : Hid ((w.alloc (.cells #[.slice none 0 0, .slice none 0 0, .int .i64 0, .bool false, .slice none 0 0] 49)).heap.size = w.heap.size + 1) := by rw [Hid]; simp
  clear hB0 h hok
  go_enter Try.func17, Try.ntmps17
  go_wp2_with fail
  refine wp_mono (Q := fun e a' W => e = .normal ∧ ∃ (aQ : Option Addr) (cQ gD gS gB gE : Nat) (W' : World), Mk n f (w.alloc (.cells #[.slice none 0 0, .slice none 0 0, .int .i64 0, .bool false, .slice none 0 0] 49)) W' none (some aQ) (some gD) (some gS) (some gB) ∧ a' = ⟨#[.slice (some ⟨g, q, none⟩) n cap, undef, .pointer (some ⟨w.heap.size, 0, none⟩), .bool false, .pointer (some ⟨gB, 0, none⟩), .slice (some ⟨gE, 0, none⟩) 0 0, .slice (some ⟨g, q, none⟩) n cap, .slice aQ n cQ, .slice (some ⟨g, q, none⟩) n cap, .int .i64 n, .slice (some ⟨gD, 0, none⟩) n n, .slice (some ⟨g, q, none⟩) n cap, .int .i64 n, .slice (some ⟨gS, 0, none⟩) n n, .agg #[.slice aQ n cQ, .slice (some ⟨gD, 0, none⟩) n n, .int .i64 0, .bool true, .slice (some ⟨gS, 0, none⟩) n n], undef, undef, undef, undef, undef], []⟩ ∧ W = put5 W' gB (.slice aQ n cQ) (.slice (some ⟨gD, 0, none⟩) n n) (.int .i64 0) (.bool true) (.slice (some ⟨gS, 0, none⟩) n n)) ?_ ?_
  · have hM : Mk n f (w.alloc (.cells #[.slice none 0 0, .slice none 0 0, .int .i64 0, .bool false, .slice none 0 0] 49)) (w.alloc (.cells #[.slice none 0 0, .slice none 0 0, .int .i64 0, .bool false, .slice none 0 0] 49)).drew none none none none none := Mk.start ((Below.refl _ _).drew)
    refine wp_region_held_drew (S := fun _ => True) (by kernel_rfl) True.intro (fun hHeld => ?_)
    generalize hW : (w.alloc (.cells #[.slice none 0 0, .slice none 0 0, .int .i64 0, .bool false, .slice none 0 0] 49)).drew = W at hM ⊢
    clear hW
    refine takeD (i := 1) (some 6) (v := ?_) rfl rfl (by kernel_rfl) (by kernel_rfl) (by kernel_rfl) (fun _ _ _ h => absurd h.1 (by simp)) (by kernel_rfl) ?_ (by assumption) ?_
    rotate_left
    · intro wx hSw
      try dsimp only at hSw
      go_simp
      try (with_reducible rfl)
    try simp only [Act.put, List.setIfInBounds_toArray, List.set_cons_zero, List.set_cons_succ]
    refine takeD (i := 3) (some 8) (v := ?_) rfl rfl (by kernel_rfl) (by kernel_rfl) (by kernel_rfl) (fun _ _ _ h => absurd h.1 (by simp)) (by kernel_rfl) ?_ (by assumption) ?_
    rotate_left
    · intro wx hSw
      try dsimp only at hSw
      go_simp
      try (with_reducible rfl)
    try simp only [Act.put, List.setIfInBounds_toArray, List.set_cons_zero, List.set_cons_succ]
    refine takeD (i := 4) (some 9) (v := ?_) rfl rfl (by kernel_rfl) (by kernel_rfl) (by kernel_rfl) (fun _ _ _ h => absurd h.1 (by simp)) (by kernel_rfl) ?_ (by assumption) ?_
    rotate_left
    · intro wx hSw
      try dsimp only at hSw
      go_simp
      try (with_reducible rfl)
    try simp only [Act.put, List.setIfInBounds_toArray, List.set_cons_zero, List.set_cons_succ]
    refine takeD (i := 6) (some 11) (v := ?_) rfl rfl (by kernel_rfl) (by kernel_rfl) (by kernel_rfl) (fun _ _ _ h => absurd h.1 (by simp)) (by kernel_rfl) ?_ (by assumption) ?_
    rotate_left
    · intro wx hSw
      try dsimp only at hSw
      go_simp
      try (with_reducible rfl)
    try simp only [Act.put, List.setIfInBounds_toArray, List.set_cons_zero, List.set_cons_succ]
    refine takeD (i := 7) (some 12) (v := ?_) rfl rfl (by kernel_rfl) (by kernel_rfl) (by kernel_rfl) (fun _ _ _ h => absurd h.1 (by simp)) (by kernel_rfl) ?_ (by assumption) ?_
    rotate_left
    · intro wx hSw
      try dsimp only at hSw
      go_simp
      try (with_reducible rfl)
    try simp only [Act.put, List.setIfInBounds_toArray, List.set_cons_zero, List.set_cons_succ]
    refine wpAnyH_ready (rs := [0, 5, 8, 10]) (by kernel_rfl) (by simp) ?_
    refine AllReadyH.cons rfl (fun K hK => ?_) (AllReadyH.cons rfl (fun K hK => ?_) (AllReadyH.cons rfl (fun K hK => ?_) (AllReadyH.cons rfl (fun K hK => ?_) AllReadyH.nil)))
    · obtain ⟨gE, W2, hg, hW, hM2⟩ := hM.runE
      clear hM
      go_simp
      refine hK.out _ _ True.intro (fun hHeld => ?_)
      clear hK K
      try simp only [Act.put, List.setIfInBounds_toArray, List.set_cons_zero, List.set_cons_succ]
      rw [← hg, ← hW]
      clear hg hW
      rename World => W
      rename Mk _ _ _ _ _ _ _ _ _ => hM
      refine wpAnyH_ready (rs := [2, 5, 8, 10]) (by kernel_rfl) (by simp) ?_
      refine AllReadyH.cons rfl (fun K hK => ?_) (AllReadyH.cons rfl (fun K hK => ?_) (AllReadyH.cons rfl (fun K hK => ?_) (AllReadyH.cons rfl (fun K hK => ?_) AllReadyH.nil)))
      · obtain ⟨aQ, cQ, W2, hr, hM2⟩ := hM.runEQ cap hn (HRd.out _ hM.below)
        clear hM
        refine wp_appD (by kernel_rfl) (some 7) (.tmp 5) (.tmp 6) 28 _ _ _ rfl rfl rfl rfl rfl hr ?_
        clear hr
        refine hK.out _ _ True.intro (fun hHeld => ?_)
        clear hK K
        try simp only [Act.put, List.setIfInBounds_toArray, List.set_cons_zero, List.set_cons_succ]
        rename World => W
        rename Mk _ _ _ _ _ _ _ _ _ => hM
        refine wpAnyH_ready (rs := [5, 8, 10]) (by kernel_rfl) (by simp) ?_
        refine AllReadyH.cons rfl (fun K hK => ?_) (AllReadyH.cons rfl (fun K hK => ?_) (AllReadyH.cons rfl (fun K hK => ?_) AllReadyH.nil))
        · obtain ⟨gD, W2, hr, hM2⟩ := hM.runD hn
          clear hM
          refine wp_makeD (by kernel_rfl) (some 10) (.tmp 9) 28 _ _ rfl rfl rfl hr ?_
          clear hr
          refine hK.out _ _ True.intro (fun hHeld => ?_)
          clear hK K
          try simp only [Act.put, List.setIfInBounds_toArray, List.set_cons_zero, List.set_cons_succ]
          rename World => W
          rename Mk _ _ _ _ _ _ _ _ _ => hM
          refine wpAnyH_ready (rs := [8, 10]) (by kernel_rfl) (by simp) ?_
          refine AllReadyH.cons rfl (fun K hK => ?_) (AllReadyH.cons rfl (fun K hK => ?_) AllReadyH.nil)
          · obtain ⟨gS, W2, hr, hM2⟩ := hM.runS hn
            clear hM
            refine wp_makeD (by kernel_rfl) (some 13) (.tmp 12) 47 _ _ rfl rfl rfl hr ?_
            clear hr
            refine hK.out _ _ True.intro (fun hHeld => ?_)
            clear hK K
            try simp only [Act.put, List.setIfInBounds_toArray, List.set_cons_zero, List.set_cons_succ]
            rename World => W
            rename Mk _ _ _ _ _ _ _ _ _ => hM
            refine takeD (i := 9) (some 14) (v := ?_) rfl rfl (by kernel_rfl) (by kernel_rfl) (by kernel_rfl) (fun _ _ _ h => absurd h.1 (by simp)) (by kernel_rfl) ?_ (by assumption) ?_
            rotate_left
            · intro wx hSw
              try dsimp only at hSw
              go_simp
              try (with_reducible rfl)
            try simp only [Act.put, List.setIfInBounds_toArray, List.set_cons_zero, List.set_cons_succ]
            refine wpAnyH_ready (rs := [10]) (by kernel_rfl) (by simp) ?_
            refine AllReadyH.cons rfl (fun K hK => ?_) AllReadyH.nil
            · obtain ⟨gB, W2, hg, hW, hM2⟩ := hM.runB
              clear hM
              go_simp
              refine hK.out _ _ True.intro (fun hHeld => ?_)
              clear hK K
              try simp only [Act.put, List.setIfInBounds_toArray, List.set_cons_zero, List.set_cons_succ]
              rw [← hg, ← hW]
              clear hg hW
              rename World => W
              rename Mk _ _ _ _ _ _ _ _ _ => hM
              have cB := blk_cell (hM.b gB rfl).2
              have fB := blk_free (hM.b gB rfl).2
              unfold zRound at cB
              refine wpAnyH_ready (rs := [11]) (by kernel_rfl) (by simp) ?_
              refine AllReadyH.cons rfl (fun K hK => ?_) AllReadyH.nil
              go_simp
              refine hK.out _ _ True.intro (fun hHeld => ?_)
              clear hK K
              try simp only [Act.put, List.setIfInBounds_toArray, List.set_cons_zero, List.set_cons_succ]
              refine wpAnyH_done (by kernel_rfl) ?_ _
              exact ⟨rfl, aQ, cQ, gD, gS, gB, gE, W, hM, rfl, rfl⟩
          · obtain ⟨gB, W2, hg, hW, hM2⟩ := hM.runB
            clear hM
            go_simp
            refine hK.out _ _ True.intro (fun hHeld => ?_)
            clear hK K
            try simp only [Act.put, List.setIfInBounds_toArray, List.set_cons_zero, List.set_cons_succ]
            rw [← hg, ← hW]
            clear hg hW
            rename World => W
            rename Mk _ _ _ _ _ _ _ _ _ => hM
            refine wpAnyH_ready (rs := [8]) (by kernel_rfl) (by simp) ?_
            refine AllReadyH.cons rfl (fun K hK => ?_) AllReadyH.nil
            · obtain ⟨gS, W2, hr, hM2⟩ := hM.runS hn
              clear hM
              refine wp_makeD (by kernel_rfl) (some 13) (.tmp 12) 47 _ _ rfl rfl rfl hr ?_
              clear hr
              refine hK.out _ _ True.intro (fun hHeld => ?_)
              clear hK K
              try simp only [Act.put, List.setIfInBounds_toArray, List.set_cons_zero, List.set_cons_succ]
              rename World => W
              rename Mk _ _ _ _ _ _ _ _ _ => hM
              refine takeD (i := 9) (some 14) (v := ?_) rfl rfl (by kernel_rfl) (by kernel_rfl) (by kernel_rfl) (fun _ _ _ h => absurd h.1 (by simp)) (by kernel_rfl) ?_ (by assumption) ?_
              rotate_left
              · intro wx hSw
                try dsimp only at hSw
                go_simp
                try (with_reducible rfl)
              try simp only [Act.put, List.setIfInBounds_toArray, List.set_cons_zero, List.set_cons_succ]
              have cB := blk_cell (hM.b gB rfl).2
              have fB := blk_free (hM.b gB rfl).2
              unfold zRound at cB
              refine wpAnyH_ready (rs := [11]) (by kernel_rfl) (by simp) ?_
              refine AllReadyH.cons rfl (fun K hK => ?_) AllReadyH.nil
              go_simp
              refine hK.out _ _ True.intro (fun hHeld => ?_)
              clear hK K
              try simp only [Act.put, List.setIfInBounds_toArray, List.set_cons_zero, List.set_cons_succ]
              refine wpAnyH_done (by kernel_rfl) ?_ _
              exact ⟨rfl, aQ, cQ, gD, gS, gB, gE, W, hM, rfl, rfl⟩
        · obtain ⟨gS, W2, hr, hM2⟩ := hM.runS hn
          clear hM
          refine wp_makeD (by kernel_rfl) (some 13) (.tmp 12) 47 _ _ rfl rfl rfl hr ?_
          clear hr
          refine hK.out _ _ True.intro (fun hHeld => ?_)
          clear hK K
          try simp only [Act.put, List.setIfInBounds_toArray, List.set_cons_zero, List.set_cons_succ]
          rename World => W
          rename Mk _ _ _ _ _ _ _ _ _ => hM
          refine wpAnyH_ready (rs := [5, 10]) (by kernel_rfl) (by simp) ?_
          refine AllReadyH.cons rfl (fun K hK => ?_) (AllReadyH.cons rfl (fun K hK => ?_) AllReadyH.nil)
          · obtain ⟨gD, W2, hr, hM2⟩ := hM.runD hn
            clear hM
            refine wp_makeD (by kernel_rfl) (some 10) (.tmp 9) 28 _ _ rfl rfl rfl hr ?_
            clear hr
            refine hK.out _ _ True.intro (fun hHeld => ?_)
            clear hK K
            try simp only [Act.put, List.setIfInBounds_toArray, List.set_cons_zero, List.set_cons_succ]
            rename World => W
            rename Mk _ _ _ _ _ _ _ _ _ => hM
            refine takeD (i := 9) (some 14) (v := ?_) rfl rfl (by kernel_rfl) (by kernel_rfl) (by kernel_rfl) (fun _ _ _ h => absurd h.1 (by simp)) (by kernel_rfl) ?_ (by assumption) ?_
            rotate_left
            · intro wx hSw
              try dsimp only at hSw
              go_simp
              try (with_reducible rfl)
            try simp only [Act.put, List.setIfInBounds_toArray, List.set_cons_zero, List.set_cons_succ]
            refine wpAnyH_ready (rs := [10]) (by kernel_rfl) (by simp) ?_
            refine AllReadyH.cons rfl (fun K hK => ?_) AllReadyH.nil
            · obtain ⟨gB, W2, hg, hW, hM2⟩ := hM.runB
              clear hM
              go_simp
              refine hK.out _ _ True.intro (fun hHeld => ?_)
              clear hK K
              try simp only [Act.put, List.setIfInBounds_toArray, List.set_cons_zero, List.set_cons_succ]
              rw [← hg, ← hW]
              clear hg hW
              rename World => W
              rename Mk _ _ _ _ _ _ _ _ _ => hM
              have cB := blk_cell (hM.b gB rfl).2
              have fB := blk_free (hM.b gB rfl).2
              unfold zRound at cB
              refine wpAnyH_ready (rs := [11]) (by kernel_rfl) (by simp) ?_
              refine AllReadyH.cons rfl (fun K hK => ?_) AllReadyH.nil
              go_simp
              refine hK.out _ _ True.intro (fun hHeld => ?_)
              clear hK K
              try simp only [Act.put, List.setIfInBounds_toArray, List.set_cons_zero, List.set_cons_succ]
              refine wpAnyH_done (by kernel_rfl) ?_ _
              exact ⟨rfl, aQ, cQ, gD, gS, gB, gE, W, hM, rfl, rfl⟩
          · obtain ⟨gB, W2, hg, hW, hM2⟩ := hM.runB
            clear hM
            go_simp
            refine hK.out _ _ True.intro (fun hHeld => ?_)
            clear hK K
            try simp only [Act.put, List.setIfInBounds_toArray, List.set_cons_zero, List.set_cons_succ]
            rw [← hg, ← hW]
            clear hg hW
            rename World => W
            rename Mk _ _ _ _ _ _ _ _ _ => hM
            refine wpAnyH_ready (rs := [5]) (by kernel_rfl) (by simp) ?_
            refine AllReadyH.cons rfl (fun K hK => ?_) AllReadyH.nil
            · obtain ⟨gD, W2, hr, hM2⟩ := hM.runD hn
              clear hM
              refine wp_makeD (by kernel_rfl) (some 10) (.tmp 9) 28 _ _ rfl rfl rfl hr ?_
              clear hr
              refine hK.out _ _ True.intro (fun hHeld => ?_)
              clear hK K
              try simp only [Act.put, List.setIfInBounds_toArray, List.set_cons_zero, List.set_cons_succ]
              rename World => W
              rename Mk _ _ _ _ _ _ _ _ _ => hM
              refine takeD (i := 9) (some 14) (v := ?_) rfl rfl (by kernel_rfl) (by kernel_rfl) (by kernel_rfl) (fun _ _ _ h => absurd h.1 (by simp)) (by kernel_rfl) ?_ (by assumption) ?_
              rotate_left
              · intro wx hSw
                try dsimp only at hSw
                go_simp
                try (with_reducible rfl)
              try simp only [Act.put, List.setIfInBounds_toArray, List.set_cons_zero, List.set_cons_succ]
              have cB := blk_cell (hM.b gB rfl).2
              have fB := blk_free (hM.b gB rfl).2
              unfold zRound at cB
              refine wpAnyH_ready (rs := [11]) (by kernel_rfl) (by simp) ?_
              refine AllReadyH.cons rfl (fun K hK => ?_) AllReadyH.nil
              go_simp
              refine hK.out _ _ True.intro (fun hHeld => ?_)
              clear hK K
              try simp only [Act.put, List.setIfInBounds_toArray, List.set_cons_zero, List.set_cons_succ]
              refine wpAnyH_done (by kernel_rfl) ?_ _
              exact ⟨rfl, aQ, cQ, gD, gS, gB, gE, W, hM, rfl, rfl⟩
        · obtain ⟨gB, W2, hg, hW, hM2⟩ := hM.runB
          clear hM
          go_simp
          refine hK.out _ _ True.intro (fun hHeld => ?_)
          clear hK K
          try simp only [Act.put, List.setIfInBounds_toArray, List.set_cons_zero, List.set_cons_succ]
          rw [← hg, ← hW]
          clear hg hW
          rename World => W
          rename Mk _ _ _ _ _ _ _ _ _ => hM
          refine wpAnyH_ready (rs := [5, 8]) (by kernel_rfl) (by simp) ?_
          refine AllReadyH.cons rfl (fun K hK => ?_) (AllReadyH.cons rfl (fun K hK => ?_) AllReadyH.nil)
          · obtain ⟨gD, W2, hr, hM2⟩ := hM.runD hn
            clear hM
            refine wp_makeD (by kernel_rfl) (some 10) (.tmp 9) 28 _ _ rfl rfl rfl hr ?_
            clear hr
            refine hK.out _ _ True.intro (fun hHeld => ?_)
            clear hK K
            try simp only [Act.put, List.setIfInBounds_toArray, List.set_cons_zero, List.set_cons_succ]
            rename World => W
            rename Mk _ _ _ _ _ _ _ _ _ => hM
            refine wpAnyH_ready (rs := [8]) (by kernel_rfl) (by simp) ?_
            refine AllReadyH.cons rfl (fun K hK => ?_) AllReadyH.nil
            · obtain ⟨gS, W2, hr, hM2⟩ := hM.runS hn
              clear hM
              refine wp_makeD (by kernel_rfl) (some 13) (.tmp 12) 47 _ _ rfl rfl rfl hr ?_
              clear hr
              refine hK.out _ _ True.intro (fun hHeld => ?_)
              clear hK K
              try simp only [Act.put, List.setIfInBounds_toArray, List.set_cons_zero, List.set_cons_succ]
              rename World => W
              rename Mk _ _ _ _ _ _ _ _ _ => hM
              refine takeD (i := 9) (some 14) (v := ?_) rfl rfl (by kernel_rfl) (by kernel_rfl) (by kernel_rfl) (fun _ _ _ h => absurd h.1 (by simp)) (by kernel_rfl) ?_ (by assumption) ?_
              rotate_left
              · intro wx hSw
                try dsimp only at hSw
                go_simp
                try (with_reducible rfl)
              try simp only [Act.put, List.setIfInBounds_toArray, List.set_cons_zero, List.set_cons_succ]
              have cB := blk_cell (hM.b gB rfl).2
              have fB := blk_free (hM.b gB rfl).2
              unfold zRound at cB
              refine wpAnyH_ready (rs := [11]) (by kernel_rfl) (by simp) ?_
              refine AllReadyH.cons rfl (fun K hK => ?_) AllReadyH.nil
              go_simp
              refine hK.out _ _ True.intro (fun hHeld => ?_)
              clear hK K
              try simp only [Act.put, List.setIfInBounds_toArray, List.set_cons_zero, List.set_cons_succ]
              refine wpAnyH_done (by kernel_rfl) ?_ _
              exact ⟨rfl, aQ, cQ, gD, gS, gB, gE, W, hM, rfl, rfl⟩
          · obtain ⟨gS, W2, hr, hM2⟩ := hM.runS hn
            clear hM
            refine wp_makeD (by kernel_rfl) (some 13) (.tmp 12) 47 _ _ rfl rfl rfl hr ?_
            clear hr
            refine hK.out _ _ True.intro (fun hHeld => ?_)
            clear hK K
            try simp only [Act.put, List.setIfInBounds_toArray, List.set_cons_zero, List.set_cons_succ]
            rename World => W
            rename Mk _ _ _ _ _ _ _ _ _ => hM
            refine wpAnyH_ready (rs := [5]) (by kernel_rfl) (by simp) ?_
            refine AllReadyH.cons rfl (fun K hK => ?_) AllReadyH.nil
            · obtain ⟨gD, W2, hr, hM2⟩ := hM.runD hn
              clear hM
              refine wp_makeD (by kernel_rfl) (some 10) (.tmp 9) 28 _ _ rfl rfl rfl hr ?_
              clear hr
              refine hK.out _ _ True.intro (fun hHeld => ?_)
              clear hK K
              try simp only [Act.put, List.setIfInBounds_toArray, List.set_cons_zero, List.set_cons_succ]
              rename World => W
              rename Mk _ _ _ _ _ _ _ _ _ => hM
              refine takeD (i := 9) (some 14) (v := ?_) rfl rfl (by kernel_rfl) (by kernel_rfl) (by kernel_rfl) (fun _ _ _ h => absurd h.1 (by simp)) (by kernel_rfl) ?_ (by assumption) ?_
              rotate_left
              · intro wx hSw
                try dsimp only at hSw
                go_simp
                try (with_reducible rfl)
              try simp only [Act.put, List.setIfInBounds_toArray, List.set_cons_zero, List.set_cons_succ]
              have cB := blk_cell (hM.b gB rfl).2
              have fB := blk_free (hM.b gB rfl).2
              unfold zRound at cB
              refine wpAnyH_ready (rs := [11]) (by kernel_rfl) (by simp) ?_
              refine AllReadyH.cons rfl (fun K hK => ?_) AllReadyH.nil
              go_simp
              refine hK.out _ _ True.intro (fun hHeld => ?_)
              clear hK K
              try simp only [Act.put, List.setIfInBounds_toArray, List.set_cons_zero, List.set_cons_succ]
              refine wpAnyH_done (by kernel_rfl) ?_ _
              exact ⟨rfl, aQ, cQ, gD, gS, gB, gE, W, hM, rfl, rfl⟩
      · obtain ⟨gD, W2, hr, hM2⟩ := hM.runD hn
        clear hM
        refine wp_makeD (by kernel_rfl) (some 10) (.tmp 9) 28 _ _ rfl rfl rfl hr ?_
        clear hr
        refine hK.out _ _ True.intro (fun hHeld => ?_)
        clear hK K
        try simp only [Act.put, List.setIfInBounds_toArray, List.set_cons_zero, List.set_cons_succ]
        rename World => W
        rename Mk _ _ _ _ _ _ _ _ _ => hM
        refine wpAnyH_ready (rs := [2, 8, 10]) (by kernel_rfl) (by simp) ?_
        refine AllReadyH.cons rfl (fun K hK => ?_) (AllReadyH.cons rfl (fun K hK => ?_) (AllReadyH.cons rfl (fun K hK => ?_) AllReadyH.nil))
        · obtain ⟨aQ, cQ, W2, hr, hM2⟩ := hM.runEQ cap hn (HRd.out _ hM.below)
          clear hM
          refine wp_appD (by kernel_rfl) (some 7) (.tmp 5) (.tmp 6) 28 _ _ _ rfl rfl rfl rfl rfl hr ?_
          clear hr
          refine hK.out _ _ True.intro (fun hHeld => ?_)
          clear hK K
          try simp only [Act.put, List.setIfInBounds_toArray, List.set_cons_zero, List.set_cons_succ]
          rename World => W
          rename Mk _ _ _ _ _ _ _ _ _ => hM
          refine wpAnyH_ready (rs := [8, 10]) (by kernel_rfl) (by simp) ?_
          refine AllReadyH.cons rfl (fun K hK => ?_) (AllReadyH.cons rfl (fun K hK => ?_) AllReadyH.nil)
          · obtain ⟨gS, W2, hr, hM2⟩ := hM.runS hn
            clear hM
            refine wp_makeD (by kernel_rfl) (some 13) (.tmp 12) 47 _ _ rfl rfl rfl hr ?_
            clear hr
            refine hK.out _ _ True.intro (fun hHeld => ?_)
            clear hK K
            try simp only [Act.put, List.setIfInBounds_toArray, List.set_cons_zero, List.set_cons_succ]
            rename World => W
            rename Mk _ _ _ _ _ _ _ _ _ => hM
            refine takeD (i := 9) (some 14) (v := ?_) rfl rfl (by kernel_rfl) (by kernel_rfl) (by kernel_rfl) (fun _ _ _ h => absurd h.1 (by simp)) (by kernel_rfl) ?_ (by assumption) ?_
            rotate_left
            · intro wx hSw
              try dsimp only at hSw
              go_simp
              try (with_reducible rfl)
            try simp only [Act.put, List.setIfInBounds_toArray, List.set_cons_zero, List.set_cons_succ]
            refine wpAnyH_ready (rs := [10]) (by kernel_rfl) (by simp) ?_
            refine AllReadyH.cons rfl (fun K hK => ?_) AllReadyH.nil
            · obtain ⟨gB, W2, hg, hW, hM2⟩ := hM.runB
              clear hM
              go_simp
              refine hK.out _ _ True.intro (fun hHeld => ?_)
              clear hK K
              try simp only [Act.put, List.setIfInBounds_toArray, List.set_cons_zero, List.set_cons_succ]
              rw [← hg, ← hW]
              clear hg hW
              rename World => W
              rename Mk _ _ _ _ _ _ _ _ _ => hM
              have cB := blk_cell (hM.b gB rfl).2
              have fB := blk_free (hM.b gB rfl).2
              unfold zRound at cB
              refine wpAnyH_ready (rs := [11]) (by kernel_rfl) (by simp) ?_
              refine AllReadyH.cons rfl (fun K hK => ?_) AllReadyH.nil
              go_simp
              refine hK.out _ _ True.intro (fun hHeld => ?_)
              clear hK K
              try simp only [Act.put, List.setIfInBounds_toArray, List.set_cons_zero, List.set_cons_succ]
              refine wpAnyH_done (by kernel_rfl) ?_ _
              exact ⟨rfl, aQ, cQ, gD, gS, gB, gE, W, hM, rfl, rfl⟩
          · obtain ⟨gB, W2, hg, hW, hM2⟩ := hM.runB
            clear hM
            go_simp
            refine hK.out _ _ True.intro (fun hHeld => ?_)
            clear hK K
            try simp only [Act.put, List.setIfInBounds_toArray, List.set_cons_zero, List.set_cons_succ]
            rw [← hg, ← hW]
            clear hg hW
            rename World => W
            rename Mk _ _ _ _ _ _ _ _ _ => hM
            refine wpAnyH_ready (rs := [8]) (by kernel_rfl) (by simp) ?_
            refine AllReadyH.cons rfl (fun K hK => ?_) AllReadyH.nil
            · obtain ⟨gS, W2, hr, hM2⟩ := hM.runS hn
              clear hM
              refine wp_makeD (by kernel_rfl) (some 13) (.tmp 12) 47 _ _ rfl rfl rfl hr ?_
              clear hr
              refine hK.out _ _ True.intro (fun hHeld => ?_)
              clear hK K
              try simp only [Act.put, List.setIfInBounds_toArray, List.set_cons_zero, List.set_cons_succ]
              rename World => W
              rename Mk _ _ _ _ _ _ _ _ _ => hM
              refine takeD (i := 9) (some 14) (v := ?_) rfl rfl (by kernel_rfl) (by kernel_rfl) (by kernel_rfl) (fun _ _ _ h => absurd h.1 (by simp)) (by kernel_rfl) ?_ (by assumption) ?_
              rotate_left
              · intro wx hSw
                try dsimp only at hSw
                go_simp
                try (with_reducible rfl)
              try simp only [Act.put, List.setIfInBounds_toArray, List.set_cons_zero, List.set_cons_succ]
              have cB := blk_cell (hM.b gB rfl).2
              have fB := blk_free (hM.b gB rfl).2
              unfold zRound at cB
              refine wpAnyH_ready (rs := [11]) (by kernel_rfl) (by simp) ?_
              refine AllReadyH.cons rfl (fun K hK => ?_) AllReadyH.nil
              go_simp
              refine hK.out _ _ True.intro (fun hHeld => ?_)
              clear hK K
              try simp only [Act.put, List.setIfInBounds_toArray, List.set_cons_zero, List.set_cons_succ]
              refine wpAnyH_done (by kernel_rfl) ?_ _
              exact ⟨rfl, aQ, cQ, gD, gS, gB, gE, W, hM, rfl, rfl⟩
        · obtain ⟨gS, W2, hr, hM2⟩ := hM.runS hn
          clear hM
          refine wp_makeD (by kernel_rfl) (some 13) (.tmp 12) 47 _ _ rfl rfl rfl hr ?_
          clear hr
          refine hK.out _ _ True.intro (fun hHeld => ?_)
          clear hK K
          try simp only [Act.put, List.setIfInBounds_toArray, List.set_cons_zero, List.set_cons_succ]
          rename World => W
          rename Mk _ _ _ _ _ _ _ _ _ => hM
          refine wpAnyH_ready (rs := [2, 10]) (by kernel_rfl) (by simp) ?_
          refine AllReadyH.cons rfl (fun K hK => ?_) (AllReadyH.cons rfl (fun K hK => ?_) AllReadyH.nil)
          · obtain ⟨aQ, cQ, W2, hr, hM2⟩ := hM.runEQ cap hn (HRd.out _ hM.below)
            clear hM
            refine wp_appD (by kernel_rfl) (some 7) (.tmp 5) (.tmp 6) 28 _ _ _ rfl rfl rfl rfl rfl hr ?_
            clear hr
            refine hK.out _ _ True.intro (fun hHeld => ?_)
            clear hK K
            try simp only [Act.put, List.setIfInBounds_toArray, List.set_cons_zero, List.set_cons_succ]
            rename World => W
            rename Mk _ _ _ _ _ _ _ _ _ => hM
            refine takeD (i := 9) (some 14) (v := ?_) rfl rfl (by kernel_rfl) (by kernel_rfl) (by kernel_rfl) (fun _ _ _ h => absurd h.1 (by simp)) (by kernel_rfl) ?_ (by assumption) ?_
            rotate_left
            · intro wx hSw
              try dsimp only at hSw
              go_simp
              try (with_reducible rfl)
            try simp only [Act.put, List.setIfInBounds_toArray, List.set_cons_zero, List.set_cons_succ]
            refine wpAnyH_ready (rs := [10]) (by kernel_rfl) (by simp) ?_
            refine AllReadyH.cons rfl (fun K hK => ?_) AllReadyH.nil
            · obtain ⟨gB, W2, hg, hW, hM2⟩ := hM.runB
              clear hM
              go_simp
              refine hK.out _ _ True.intro (fun hHeld => ?_)
              clear hK K
              try simp only [Act.put, List.setIfInBounds_toArray, List.set_cons_zero, List.set_cons_succ]
              rw [← hg, ← hW]
              clear hg hW
              rename World => W
              rename Mk _ _ _ _ _ _ _ _ _ => hM
              have cB := blk_cell (hM.b gB rfl).2
              have fB := blk_free (hM.b gB rfl).2
              unfold zRound at cB
              refine wpAnyH_ready (rs := [11]) (by kernel_rfl) (by simp) ?_
              refine AllReadyH.cons rfl (fun K hK => ?_) AllReadyH.nil
              go_simp
              refine hK.out _ _ True.intro (fun hHeld => ?_)
              clear hK K
              try simp only [Act.put, List.setIfInBounds_toArray, List.set_cons_zero, List.set_cons_succ]
              refine wpAnyH_done (by kernel_rfl) ?_ _
              exact ⟨rfl, aQ, cQ, gD, gS, gB, gE, W, hM, rfl, rfl⟩
          · obtain ⟨gB, W2, hg, hW, hM2⟩ := hM.runB
            clear hM
            go_simp
            refine hK.out _ _ True.intro (fun hHeld => ?_)
            clear hK K
            try simp only [Act.put, List.setIfInBounds_toArray, List.set_cons_zero, List.set_cons_succ]
            rw [← hg, ← hW]
            clear hg hW
            rename World => W
            rename Mk _ _ _ _ _ _ _ _ _ => hM
            refine wpAnyH_ready (rs := [2]) (by kernel_rfl) (by simp) ?_
            refine AllReadyH.cons rfl (fun K hK => ?_) AllReadyH.nil
            · obtain ⟨aQ, cQ, W2, hr, hM2⟩ := hM.runEQ cap hn (HRd.out _ hM.below)
              clear hM
              refine wp_appD (by kernel_rfl) (some 7) (.tmp 5) (.tmp 6) 28 _ _ _ rfl rfl rfl rfl rfl hr ?_
              clear hr
              refine hK.out _ _ True.intro (fun hHeld => ?_)
              clear hK K
              try simp only [Act.put, List.setIfInBounds_toArray, List.set_cons_zero, List.set_cons_succ]
              rename World => W
              rename Mk _ _ _ _ _ _ _ _ _ => hM
              refine takeD (i := 9) (some 14) (v := ?_) rfl rfl (by kernel_rfl) (by kernel_rfl) (by kernel_rfl) (fun _ _ _ h => absurd h.1 (by simp)) (by kernel_rfl) ?_ (by assumption) ?_
              rotate_left
              · intro wx hSw
                try dsimp only at hSw
                go_simp
                try (with_reducible rfl)
              try simp only [Act.put, List.setIfInBounds_toArray, List.set_cons_zero, List.set_cons_succ]
              have cB := blk_cell (hM.b gB rfl).2
              have fB := blk_free (hM.b gB rfl).2
              unfold zRound at cB
              refine wpAnyH_ready (rs := [11]) (by kernel_rfl) (by simp) ?_
              refine AllReadyH.cons rfl (fun K hK => ?_) AllReadyH.nil
              go_simp
              refine hK.out _ _ True.intro (fun hHeld => ?_)
              clear hK K
              try simp only [Act.put, List.setIfInBounds_toArray, List.set_cons_zero, List.set_cons_succ]
              refine wpAnyH_done (by kernel_rfl) ?_ _
              exact ⟨rfl, aQ, cQ, gD, gS, gB, gE, W, hM, rfl, rfl⟩
        · obtain ⟨gB, W2, hg, hW, hM2⟩ := hM.runB
          clear hM
          go_simp
          refine hK.out _ _ True.intro (fun hHeld => ?_)
          clear hK K
          try simp only [Act.put, List.setIfInBounds_toArray, List.set_cons_zero, List.set_cons_succ]
          rw [← hg, ← hW]
          clear hg hW
          rename World => W
          rename Mk _ _ _ _ _ _ _ _ _ => hM
          refine wpAnyH_ready (rs := [2, 8]) (by kernel_rfl) (by simp) ?_
          refine AllReadyH.cons rfl (fun K hK => ?_) (AllReadyH.cons rfl (fun K hK => ?_) AllReadyH.nil)
          · obtain ⟨aQ, cQ, W2, hr, hM2⟩ := hM.runEQ cap hn (HRd.out _ hM.below)
            clear hM
            refine wp_appD (by kernel_rfl) (some 7) (.tmp 5) (.tmp 6) 28 _ _ _ rfl rfl rfl rfl rfl hr ?_
            clear hr
            refine hK.out _ _ True.intro (fun hHeld => ?_)
            clear hK K
            try simp only [Act.put, List.setIfInBounds_toArray, List.set_cons_zero, List.set_cons_succ]
            rename World => W
            rename Mk _ _ _ _ _ _ _ _ _ => hM
            refine wpAnyH_ready (rs := [8]) (by kernel_rfl) (by simp) ?_
            refine AllReadyH.cons rfl (fun K hK => ?_) AllReadyH.nil
            · obtain ⟨gS, W2, hr, hM2⟩ := hM.runS hn
              clear hM
              refine wp_makeD (by kernel_rfl) (some 13) (.tmp 12) 47 _ _ rfl rfl rfl hr ?_
              clear hr
              refine hK.out _ _ True.intro (fun hHeld => ?_)
              clear hK K
              try simp only [Act.put, List.setIfInBounds_toArray, List.set_cons_zero, List.set_cons_succ]
              rename World => W
              rename Mk _ _ _ _ _ _ _ _ _ => hM
              refine takeD (i := 9) (some 14) (v := ?_) rfl rfl (by kernel_rfl) (by kernel_rfl) (by kernel_rfl) (fun _ _ _ h => absurd h.1 (by simp)) (by kernel_rfl) ?_ (by assumption) ?_
              rotate_left
              · intro wx hSw
                try dsimp only at hSw
                go_simp
                try (with_reducible rfl)
              try simp only [Act.put, List.setIfInBounds_toArray, List.set_cons_zero, List.set_cons_succ]
              have cB := blk_cell (hM.b gB rfl).2
              have fB := blk_free (hM.b gB rfl).2
              unfold zRound at cB
              refine wpAnyH_ready (rs := [11]) (by kernel_rfl) (by simp) ?_
              refine AllReadyH.cons rfl (fun K hK => ?_) AllReadyH.nil
              go_simp
              refine hK.out _ _ True.intro (fun hHeld => ?_)
              clear hK K
              try simp only [Act.put, List.setIfInBounds_toArray, List.set_cons_zero, List.set_cons_succ]
              refine wpAnyH_done (by kernel_rfl) ?_ _
              exact ⟨rfl, aQ, cQ, gD, gS, gB, gE, W, hM, rfl, rfl⟩
          · obtain ⟨gS, W2, hr, hM2⟩ := hM.runS hn
            clear hM
            refine wp_makeD (by kernel_rfl) (some 13) (.tmp 12) 47 _ _ rfl rfl rfl hr ?_
            clear hr
            refine hK.out _ _ True.intro (fun hHeld => ?_)
            clear hK K
            try simp only [Act.put, List.setIfInBounds_toArray, List.set_cons_zero, List.set_cons_succ]
            rename World => W
            rename Mk _ _ _ _ _ _ _ _ _ => hM
            refine wpAnyH_ready (rs := [2]) (by kernel_rfl) (by simp) ?_
            refine AllReadyH.cons rfl (fun K hK => ?_) AllReadyH.nil
            · obtain ⟨aQ, cQ, W2, hr, hM2⟩ := hM.runEQ cap hn (HRd.out _ hM.below)
              clear hM
              refine wp_appD (by kernel_rfl) (some 7) (.tmp 5) (.tmp 6) 28 _ _ _ rfl rfl rfl rfl rfl hr ?_
              clear hr
              refine hK.out _ _ True.intro (fun hHeld => ?_)
              clear hK K
              try simp only [Act.put, List.setIfInBounds_toArray, List.set_cons_zero, List.set_cons_succ]
              rename World => W
              rename Mk _ _ _ _ _ _ _ _ _ => hM
              refine takeD (i := 9) (some 14) (v := ?_) rfl rfl (by kernel_rfl) (by kernel_rfl) (by kernel_rfl) (fun _ _ _ h => absurd h.1 (by simp)) (by kernel_rfl) ?_ (by assumption) ?_
              rotate_left
              · intro wx hSw
                try dsimp only at hSw
                go_simp
                try (with_reducible rfl)
              try simp only [Act.put, List.setIfInBounds_toArray, List.set_cons_zero, List.set_cons_succ]
              have cB := blk_cell (hM.b gB rfl).2
              have fB := blk_free (hM.b gB rfl).2
              unfold zRound at cB
              refine wpAnyH_ready (rs := [11]) (by kernel_rfl) (by simp) ?_
              refine AllReadyH.cons rfl (fun K hK => ?_) AllReadyH.nil
              go_simp
              refine hK.out _ _ True.intro (fun hHeld => ?_)
              clear hK K
              try simp only [Act.put, List.setIfInBounds_toArray, List.set_cons_zero, List.set_cons_succ]
              refine wpAnyH_done (by kernel_rfl) ?_ _
              exact ⟨rfl, aQ, cQ, gD, gS, gB, gE, W, hM, rfl, rfl⟩
      · obtain ⟨gS, W2, hr, hM2⟩ := hM.runS hn
        clear hM
        refine wp_makeD (by kernel_rfl) (some 13) (.tmp 12) 47 _ _ rfl rfl rfl hr ?_
        clear hr
        refine hK.out _ _ True.intro (fun hHeld => ?_)
        clear hK K
        try simp only [Act.put, List.setIfInBounds_toArray, List.set_cons_zero, List.set_cons_succ]
        rename World => W
        rename Mk _ _ _ _ _ _ _ _ _ => hM
        refine wpAnyH_ready (rs := [2, 5, 10]) (by kernel_rfl) (by simp) ?_
        refine AllReadyH.cons rfl (fun K hK => ?_) (AllReadyH.cons rfl (fun K hK => ?_) (AllReadyH.cons rfl (fun K hK => ?_) AllReadyH.nil))
        · obtain ⟨aQ, cQ, W2, hr, hM2⟩ := hM.runEQ cap hn (HRd.out _ hM.below)
          clear hM
          refine wp_appD (by kernel_rfl) (some 7) (.tmp 5) (.tmp 6) 28 _ _ _ rfl rfl rfl rfl rfl hr ?_
          clear hr
          refine hK.out _ _ True.intro (fun hHeld => ?_)
          clear hK K
          try simp only [Act.put, List.setIfInBounds_toArray, List.set_cons_zero, List.set_cons_succ]
          rename World => W
          rename Mk _ _ _ _ _ _ _ _ _ => hM
          refine wpAnyH_ready (rs := [5, 10]) (by kernel_rfl) (by simp) ?_
          refine AllReadyH.cons rfl (fun K hK => ?_) (AllReadyH.cons rfl (fun K hK => ?_) AllReadyH.nil)
          · obtain ⟨gD, W2, hr, hM2⟩ := hM.runD hn
            clear hM
            refine wp_makeD (by kernel_rfl) (some 10) (.tmp 9) 28 _ _ rfl rfl rfl hr ?_
            clear hr
            refine hK.out _ _ True.intro (fun hHeld => ?_)
            clear hK K
            try simp only [Act.put, List.setIfInBounds_toArray, List.set_cons_zero, List.set_cons_succ]
            rename World => W
            rename Mk _ _ _ _ _ _ _ _ _ => hM
            refine takeD (i := 9) (some 14) (v := ?_) rfl rfl (by kernel_rfl) (by kernel_rfl) (by kernel_rfl) (fun _ _ _ h => absurd h.1 (by simp)) (by kernel_rfl) ?_ (by assumption) ?_
            rotate_left
            · intro wx hSw
              try dsimp only at hSw
              go_simp
              try (with_reducible rfl)
            try simp only [Act.put, List.setIfInBounds_toArray, List.set_cons_zero, List.set_cons_succ]
            refine wpAnyH_ready (rs := [10]) (by kernel_rfl) (by simp) ?_
            refine AllReadyH.cons rfl (fun K hK => ?_) AllReadyH.nil
            · obtain ⟨gB, W2, hg, hW, hM2⟩ := hM.runB
              clear hM
              go_simp
              refine hK.out _ _ True.intro (fun hHeld => ?_)
              clear hK K
              try simp only [Act.put, List.setIfInBounds_toArray, List.set_cons_zero, List.set_cons_succ]
              rw [← hg, ← hW]
              clear hg hW
              rename World => W
              rename Mk _ _ _ _ _ _ _ _ _ => hM
              have cB := blk_cell (hM.b gB rfl).2
              have fB := blk_free (hM.b gB rfl).2
              unfold zRound at cB
              refine wpAnyH_ready (rs := [11]) (by kernel_rfl) (by simp) ?_
              refine AllReadyH.cons rfl (fun K hK => ?_) AllReadyH.nil
              go_simp
              refine hK.out _ _ True.intro (fun hHeld => ?_)
              clear hK K
              try simp only [Act.put, List.setIfInBounds_toArray, List.set_cons_zero, List.set_cons_succ]
              refine wpAnyH_done (by kernel_rfl) ?_ _
              exact ⟨rfl, aQ, cQ, gD, gS, gB, gE, W, hM, rfl, rfl⟩
          · obtain ⟨gB, W2, hg, hW, hM2⟩ := hM.runB
            clear hM
            go_simp
            refine hK.out _ _ True.intro (fun hHeld => ?_)
            clear hK K
            try simp only [Act.put, List.setIfInBounds_toArray, List.set_cons_zero, List.set_cons_succ]
            rw [← hg, ← hW]
            clear hg hW
            rename World => W
            rename Mk _ _ _ _ _ _ _ _ _ => hM
            refine wpAnyH_ready (rs := [5]) (by kernel_rfl) (by simp) ?_
            refine AllReadyH.cons rfl (fun K hK => ?_) AllReadyH.nil
            · obtain ⟨gD, W2, hr, hM2⟩ := hM.runD hn
              clear hM
              refine wp_makeD (by kernel_rfl) (some 10) (.tmp 9) 28 _ _ rfl rfl rfl hr ?_
              clear hr
              refine hK.out _ _ True.intro (fun hHeld => ?_)
              clear hK K
              try simp only [Act.put, List.setIfInBounds_toArray, List.set_cons_zero, List.set_cons_succ]
              rename World => W
              rename Mk _ _ _ _ _ _ _ _ _ => hM
              refine takeD (i := 9) (some 14) (v := ?_) rfl rfl (by kernel_rfl) (by kernel_rfl) (by kernel_rfl) (fun _ _ _ h => absurd h.1 (by simp)) (by kernel_rfl) ?_ (by assumption) ?_
              rotate_left
              · intro wx hSw
                try dsimp only at hSw
                go_simp
                try (with_reducible rfl)
              try simp only [Act.put, List.setIfInBounds_toArray, List.set_cons_zero, List.set_cons_succ]
              have cB := blk_cell (hM.b gB rfl).2
              have fB := blk_free (hM.b gB rfl).2
              unfold zRound at cB
              refine wpAnyH_ready (rs := [11]) (by kernel_rfl) (by simp) ?_
              refine AllReadyH.cons rfl (fun K hK => ?_) AllReadyH.nil
              go_simp
              refine hK.out _ _ True.intro (fun hHeld => ?_)
              clear hK K
              try simp only [Act.put, List.setIfInBounds_toArray, List.set_cons_zero, List.set_cons_succ]
              refine wpAnyH_done (by kernel_rfl) ?_ _
              exact ⟨rfl, aQ, cQ, gD, gS, gB, gE, W, hM, rfl, rfl⟩
        · obtain ⟨gD, W2, hr, hM2⟩ := hM.runD hn
          clear hM
          refine wp_makeD (by kernel_rfl) (some 10) (.tmp 9) 28 _ _ rfl rfl rfl hr ?_
          clear hr
          refine hK.out _ _ True.intro (fun hHeld => ?_)
          clear hK K
          try simp only [Act.put, List.setIfInBounds_toArray, List.set_cons_zero, List.set_cons_succ]
          rename World => W
          rename Mk _ _ _ _ _ _ _ _ _ => hM
          refine wpAnyH_ready (rs := [2, 10]) (by kernel_rfl) (by simp) ?_
          refine AllReadyH.cons rfl (fun K hK => ?_) (AllReadyH.cons rfl (fun K hK => ?_) AllReadyH.nil)
          · obtain ⟨aQ, cQ, W2, hr, hM2⟩ := hM.runEQ cap hn (HRd.out _ hM.below)
            clear hM
            refine wp_appD (by kernel_rfl) (some 7) (.tmp 5) (.tmp 6) 28 _ _ _ rfl rfl rfl rfl rfl hr ?_
            clear hr
            refine hK.out _ _ True.intro (fun hHeld => ?_)
            clear hK K
            try simp only [Act.put, List.setIfInBounds_toArray, List.set_cons_zero, List.set_cons_succ]
            rename World => W
            rename Mk _ _ _ _ _ _ _ _ _ => hM
            refine takeD (i := 9) (some 14) (v := ?_) rfl rfl (by kernel_rfl) (by kernel_rfl) (by kernel_rfl) (fun _ _ _ h => absurd h.1 (by simp)) (by kernel_rfl) ?_ (by assumption) ?_
            rotate_left
            · intro wx hSw
              try dsimp only at hSw
              go_simp
              try (with_reducible rfl)
            try simp only [Act.put, List.setIfInBounds_toArray, List.set_cons_zero, List.set_cons_succ]
            refine wpAnyH_ready (rs := [10]) (by kernel_rfl) (by simp) ?_
            refine AllReadyH.cons rfl (fun K hK => ?_) AllReadyH.nil
            · obtain ⟨gB, W2, hg, hW, hM2⟩ := hM.runB
              clear hM
              go_simp
              refine hK.out _ _ True.intro (fun hHeld => ?_)
              clear hK K
              try simp only [Act.put, List.setIfInBounds_toArray, List.set_cons_zero, List.set_cons_succ]
              rw [← hg, ← hW]
              clear hg hW
              rename World => W
              rename Mk _ _ _ _ _ _ _ _ _ => hM
              have cB := blk_cell (hM.b gB rfl).2
              have fB := blk_free (hM.b gB rfl).2
              unfold zRound at cB
              refine wpAnyH_ready (rs := [11]) (by kernel_rfl) (by simp) ?_
              refine AllReadyH.cons rfl (fun K hK => ?_) AllReadyH.nil
              go_simp
              refine hK.out _ _ True.intro (fun hHeld => ?_)
              clear hK K
              try simp only [Act.put, List.setIfInBounds_toArray, List.set_cons_zero, List.set_cons_succ]
              refine wpAnyH_done (by kernel_rfl) ?_ _
              exact ⟨rfl, aQ, cQ, gD, gS, gB, gE, W, hM, rfl, rfl⟩
          · obtain ⟨gB, W2, hg, hW, hM2⟩ := hM.runB
            clear hM
            go_simp
            refine hK.out _ _ True.intro (fun hHeld => ?_)
            clear hK K
            try simp only [Act.put, List.setIfInBounds_toArray, List.set_cons_zero, List.set_cons_succ]
            rw [← hg, ← hW]
            clear hg hW
            rename World => W
            rename Mk _ _ _ _ _ _ _ _ _ => hM
            refine wpAnyH_ready (rs := [2]) (by kernel_rfl) (by simp) ?_
            refine AllReadyH.cons rfl (fun K hK => ?_) AllReadyH.nil
            · obtain ⟨aQ, cQ, W2, hr, hM2⟩ := hM.runEQ cap hn (HRd.out _ hM.below)
              clear hM
              refine wp_appD (by kernel_rfl) (some 7) (.tmp 5) (.tmp 6) 28 _ _ _ rfl rfl rfl rfl rfl hr ?_
              clear hr
              refine hK.out _ _ True.intro (fun hHeld => ?_)
              clear hK K
              try simp only [Act.put, List.setIfInBounds_toArray, List.set_cons_zero, List.set_cons_succ]
              rename World => W
              rename Mk _ _ _ _ _ _ _ _ _ => hM
              refine takeD (i := 9) (some 14) (v := ?_) rfl rfl (by kernel_rfl) (by kernel_rfl) (by kernel_rfl) (fun _ _ _ h => absurd h.1 (by simp)) (by kernel_rfl) ?_ (by assumption) ?_
              rotate_left
              · intro wx hSw
                try dsimp only at hSw
                go_simp
                try (with_reducible rfl)
              try simp only [Act.put, List.setIfInBounds_toArray, List.set_cons_zero, List.set_cons_succ]
              have cB := blk_cell (hM.b gB rfl).2
              have fB := blk_free (hM.b gB rfl).2
              unfold zRound at cB
              refine wpAnyH_ready (rs := [11]) (by kernel_rfl) (by simp) ?_
              refine AllReadyH.cons rfl (fun K hK => ?_) AllReadyH.nil
              go_simp
              refine hK.out _ _ True.intro (fun hHeld => ?_)
              clear hK K
              try simp only [Act.put, List.setIfInBounds_toArray, List.set_cons_zero, List.set_cons_succ]
              refine wpAnyH_done (by kernel_rfl) ?_ _
              exact ⟨rfl, aQ, cQ, gD, gS, gB, gE, W, hM, rfl, rfl⟩
        · obtain ⟨gB, W2, hg, hW, hM2⟩ := hM.runB
          clear hM
          go_simp
          refine hK.out _ _ True.intro (fun hHeld => ?_)
          clear hK K
          try simp only [Act.put, List.setIfInBounds_toArray, List.set_cons_zero, List.set_cons_succ]
          rw [← hg, ← hW]
          clear hg hW
          rename World => W
          rename Mk _ _ _ _ _ _ _ _ _ => hM
          refine wpAnyH_ready (rs := [2, 5]) (by kernel_rfl) (by simp) ?_
          refine AllReadyH.cons rfl (fun K hK => ?_) (AllReadyH.cons rfl (fun K hK => ?_) AllReadyH.nil)
          · obtain ⟨aQ, cQ, W2, hr, hM2⟩ := hM.runEQ cap hn (HRd.out _ hM.below)
            clear hM
            refine wp_appD (by kernel_rfl) (some 7) (.tmp 5) (.tmp 6) 28 _ _ _ rfl rfl rfl rfl rfl hr ?_
            clear hr
            refine hK.out _ _ True.intro (fun hHeld => ?_)
            clear hK K
            try simp only [Act.put, List.setIfInBounds_toArray, List.set_cons_zero, List.set_cons_succ]
            rename World => W
            rename Mk _ _ _ _ _ _ _ _ _ => hM
            refine wpAnyH_ready (rs := [5]) (by kernel_rfl) (by simp) ?_
            refine AllReadyH.cons rfl (fun K hK => ?_) AllReadyH.nil
            · obtain ⟨gD, W2, hr, hM2⟩ := hM.runD hn
              clear hM
              refine wp_makeD (by kernel_rfl) (some 10) (.tmp 9) 28 _ _ rfl rfl rfl hr ?_
              clear hr
              refine hK.out _ _ True.intro (fun hHeld => ?_)
              clear hK K
              try simp only [Act.put, List.setIfInBounds_toArray, List.set_cons_zero, List.set_cons_succ]
              rename World => W
              rename Mk _ _ _ _ _ _ _ _ _ => hM
              refine takeD (i := 9) (some 14) (v := ?_) rfl rfl (by kernel_rfl) (by kernel_rfl) (by kernel_rfl) (fun _ _ _ h => absurd h.1 (by simp)) (by kernel_rfl) ?_ (by assumption) ?_
              rotate_left
              · intro wx hSw
                try dsimp only at hSw
                go_simp
                try (with_reducible rfl)
              try simp only [Act.put, List.setIfInBounds_toArray, List.set_cons_zero, List.set_cons_succ]
              have cB := blk_cell (hM.b gB rfl).2
              have fB := blk_free (hM.b gB rfl).2
              unfold zRound at cB
              refine wpAnyH_ready (rs := [11]) (by kernel_rfl) (by simp) ?_
              refine AllReadyH.cons rfl (fun K hK => ?_) AllReadyH.nil
              go_simp
              refine hK.out _ _ True.intro (fun hHeld => ?_)
              clear hK K
              try simp only [Act.put, List.setIfInBounds_toArray, List.set_cons_zero, List.set_cons_succ]
              refine wpAnyH_done (by kernel_rfl) ?_ _
              exact ⟨rfl, aQ, cQ, gD, gS, gB, gE, W, hM, rfl, rfl⟩
          · obtain ⟨gD, W2, hr, hM2⟩ := hM.runD hn
            clear hM
            refine wp_makeD (by kernel_rfl) (some 10) (.tmp 9) 28 _ _ rfl rfl rfl hr ?_
            clear hr
            refine hK.out _ _ True.intro (fun hHeld => ?_)
            clear hK K
            try simp only [Act.put, List.setIfInBounds_toArray, List.set_cons_zero, List.set_cons_succ]
            rename World => W
            rename Mk _ _ _ _ _ _ _ _ _ => hM
            refine wpAnyH_ready (rs := [2]) (by kernel_rfl) (by simp) ?_
            refine AllReadyH.cons rfl (fun K hK => ?_) AllReadyH.nil
            · obtain ⟨aQ, cQ, W2, hr, hM2⟩ := hM.runEQ cap hn (HRd.out _ hM.below)
              clear hM
              refine wp_appD (by kernel_rfl) (some 7) (.tmp 5) (.tmp 6) 28 _ _ _ rfl rfl rfl rfl rfl hr ?_
              clear hr
              refine hK.out _ _ True.intro (fun hHeld => ?_)
              clear hK K
              try simp only [Act.put, List.setIfInBounds_toArray, List.set_cons_zero, List.set_cons_succ]
              rename World => W
              rename Mk _ _ _ _ _ _ _ _ _ => hM
              refine takeD (i := 9) (some 14) (v := ?_) rfl rfl (by kernel_rfl) (by kernel_rfl) (by kernel_rfl) (fun _ _ _ h => absurd h.1 (by simp)) (by kernel_rfl) ?_ (by assumption) ?_
              rotate_left
              · intro wx hSw
                try dsimp only at hSw
                go_simp
                try (with_reducible rfl)
              try simp only [Act.put, List.setIfInBounds_toArray, List.set_cons_zero, List.set_cons_succ]
              have cB := blk_cell (hM.b gB rfl).2
              have fB := blk_free (hM.b gB rfl).2
              unfold zRound at cB
              refine wpAnyH_ready (rs := [11]) (by kernel_rfl) (by simp) ?_
              refine AllReadyH.cons rfl (fun K hK => ?_) AllReadyH.nil
              go_simp
              refine hK.out _ _ True.intro (fun hHeld => ?_)
              clear hK K
              try simp only [Act.put, List.setIfInBounds_toArray, List.set_cons_zero, List.set_cons_succ]
              refine wpAnyH_done (by kernel_rfl) ?_ _
              exact ⟨rfl, aQ, cQ, gD, gS, gB, gE, W, hM, rfl, rfl⟩
      · obtain ⟨gB, W2, hg, hW, hM2⟩ := hM.runB
        clear hM
        go_simp
        refine hK.out _ _ True.intro (fun hHeld => ?_)
        clear hK K
        try simp only [Act.put, List.setIfInBounds_toArray, List.set_cons_zero, List.set_cons_succ]
        rw [← hg, ← hW]
        clear hg hW
        rename World => W
        rename Mk _ _ _ _ _ _ _ _ _ => hM
        refine wpAnyH_ready (rs := [2, 5, 8]) (by kernel_rfl) (by simp) ?_
        refine AllReadyH.cons rfl (fun K hK => ?_) (AllReadyH.cons rfl (fun K hK => ?_) (AllReadyH.cons rfl (fun K hK => ?_) AllReadyH.nil))
        · obtain ⟨aQ, cQ, W2, hr, hM2⟩ := hM.runEQ cap hn (HRd.out _ hM.below)
          clear hM
          refine wp_appD (by kernel_rfl) (some 7) (.tmp 5) (.tmp 6) 28 _ _ _ rfl rfl rfl rfl rfl hr ?_
          clear hr
          refine hK.out _ _ True.intro (fun hHeld => ?_)
          clear hK K
          try simp only [Act.put, List.setIfInBounds_toArray, List.set_cons_zero, List.set_cons_succ]
          rename World => W
          rename Mk _ _ _ _ _ _ _ _ _ => hM
          refine wpAnyH_ready (rs := [5, 8]) (by kernel_rfl) (by simp) ?_
          refine AllReadyH.cons rfl (fun K hK => ?_) (AllReadyH.cons rfl (fun K hK => ?_) AllReadyH.nil)
          · obtain ⟨gD, W2, hr, hM2⟩ := hM.runD hn
            clear hM
            refine wp_makeD (by kernel_rfl) (some 10) (.tmp 9) 28 _ _ rfl rfl rfl hr ?_
            clear hr
            refine hK.out _ _ True.intro (fun hHeld => ?_)
            clear hK K
            try simp only [Act.put, List.setIfInBounds_toArray, List.set_cons_zero, List.set_cons_succ]
            rename World => W
            rename Mk _ _ _ _ _ _ _ _ _ => hM
            refine wpAnyH_ready (rs := [8]) (by kernel_rfl) (by simp) ?_
            refine AllReadyH.cons rfl (fun K hK => ?_) AllReadyH.nil
            · obtain ⟨gS, W2, hr, hM2⟩ := hM.runS hn
              clear hM
              refine wp_makeD (by kernel_rfl) (some 13) (.tmp 12) 47 _ _ rfl rfl rfl hr ?_
              clear hr
              refine hK.out _ _ True.intro (fun hHeld => ?_)
              clear hK K
              try simp only [Act.put, List.setIfInBounds_toArray, List.set_cons_zero, List.set_cons_succ]
              rename World => W
              rename Mk _ _ _ _ _ _ _ _ _ => hM
              refine takeD (i := 9) (some 14) (v := ?_) rfl rfl (by kernel_rfl) (by kernel_rfl) (by kernel_rfl) (fun _ _ _ h => absurd h.1 (by simp)) (by kernel_rfl) ?_ (by assumption) ?_
              rotate_left
              · intro wx hSw
                try dsimp only at hSw
                go_simp
                try (with_reducible rfl)
              try simp only [Act.put, List.setIfInBounds_toArray, List.set_cons_zero, List.set_cons_succ]
              have cB := blk_cell (hM.b gB rfl).2
              have fB := blk_free (hM.b gB rfl).2
              unfold zRound at cB
              refine wpAnyH_ready (rs := [11]) (by kernel_rfl) (by simp) ?_
              refine AllReadyH.cons rfl (fun K hK => ?_) AllReadyH.nil
              go_simp
              refine hK.out _ _ True.intro (fun hHeld => ?_)
              clear hK K
              try simp only [Act.put, List.setIfInBounds_toArray, List.set_cons_zero, List.set_cons_succ]
              refine wpAnyH_done (by kernel_rfl) ?_ _
              exact ⟨rfl, aQ, cQ, gD, gS, gB, gE, W, hM, rfl, rfl⟩
          · obtain ⟨gS, W2, hr, hM2⟩ := hM.runS hn
            clear hM
            refine wp_makeD (by kernel_rfl) (some 13) (.tmp 12) 47 _ _ rfl rfl rfl hr ?_
            clear hr
            refine hK.out _ _ True.intro (fun hHeld => ?_)
            clear hK K
            try simp only [Act.put, List.setIfInBounds_toArray, List.set_cons_zero, List.set_cons_succ]
            rename World => W
            rename Mk _ _ _ _ _ _ _ _ _ => hM
            refine wpAnyH_ready (rs := [5]) (by kernel_rfl) (by simp) ?_
            refine AllReadyH.cons rfl (fun K hK => ?_) AllReadyH.nil
            · obtain ⟨gD, W2, hr, hM2⟩ := hM.runD hn
              clear hM
              refine wp_makeD (by kernel_rfl) (some 10) (.tmp 9) 28 _ _ rfl rfl rfl hr ?_
              clear hr
              refine hK.out _ _ True.intro (fun hHeld => ?_)
              clear hK K
              try simp only [Act.put, List.setIfInBounds_toArray, List.set_cons_zero, List.set_cons_succ]
              rename World => W
              rename Mk _ _ _ _ _ _ _ _ _ => hM
              refine takeD (i := 9) (some 14) (v := ?_) rfl rfl (by kernel_rfl) (by kernel_rfl) (by kernel_rfl) (fun _ _ _ h => absurd h.1 (by simp)) (by kernel_rfl) ?_ (by assumption) ?_
              rotate_left
              · intro wx hSw
                try dsimp only at hSw
                go_simp
                try (with_reducible rfl)
              try simp only [Act.put, List.setIfInBounds_toArray, List.set_cons_zero, List.set_cons_succ]
              have cB := blk_cell (hM.b gB rfl).2
              have fB := blk_free (hM.b gB rfl).2
              unfold zRound at cB
              refine wpAnyH_ready (rs := [11]) (by kernel_rfl) (by simp) ?_
              refine AllReadyH.cons rfl (fun K hK => ?_) AllReadyH.nil
              go_simp
              refine hK.out _ _ True.intro (fun hHeld => ?_)
              clear hK K
              try simp only [Act.put, List.setIfInBounds_toArray, List.set_cons_zero, List.set_cons_succ]
              refine wpAnyH_done (by kernel_rfl) ?_ _
              exact ⟨rfl, aQ, cQ, gD, gS, gB, gE, W, hM, rfl, rfl⟩
        · obtain ⟨gD, W2, hr, hM2⟩ := hM.runD hn
          clear hM
          refine wp_makeD (by kernel_rfl) (some 10) (.tmp 9) 28 _ _ rfl rfl rfl hr ?_
          clear hr
          refine hK.out _ _ True.intro (fun hHeld => ?_)
          clear hK K
          try simp only [Act.put, List.setIfInBounds_toArray, List.set_cons_zero, List.set_cons_succ]
          rename World => W
          rename Mk _ _ _ _ _ _ _ _ _ => hM
          refine wpAnyH_ready (rs := [2, 8]) (by kernel_rfl) (by simp) ?_
          refine AllReadyH.cons rfl (fun K hK => ?_) (AllReadyH.cons rfl (fun K hK => ?_) AllReadyH.nil)
          · obtain ⟨aQ, cQ, W2, hr, hM2⟩ := hM.runEQ cap hn (HRd.out _ hM.below)
            clear hM
            refine wp_appD (by kernel_rfl) (some 7) (.tmp 5) (.tmp 6) 28 _ _ _ rfl rfl rfl rfl rfl hr ?_
            clear hr
            refine hK.out _ _ True.intro (fun hHeld => ?_)
            clear hK K
            try simp only [Act.put, List.setIfInBounds_toArray, List.set_cons_zero, List.set_cons_succ]
            rename World => W
            rename Mk _ _ _ _ _ _ _ _ _ => hM
            refine wpAnyH_ready (rs := [8]) (by kernel_rfl) (by simp) ?_
            refine AllReadyH.cons rfl (fun K hK => ?_) AllReadyH.nil
            · obtain ⟨gS, W2, hr, hM2⟩ := hM.runS hn
              clear hM
              refine wp_makeD (by kernel_rfl) (some 13) (.tmp 12) 47 _ _ rfl rfl rfl hr ?_
              clear hr
              refine hK.out _ _ True.intro (fun hHeld => ?_)
              clear hK K
              try simp only [Act.put, List.setIfInBounds_toArray, List.set_cons_zero, List.set_cons_succ]
              rename World => W
              rename Mk _ _ _ _ _ _ _ _ _ => hM
              refine takeD (i := 9) (some 14) (v := ?_) rfl rfl (by kernel_rfl) (by kernel_rfl) (by kernel_rfl) (fun _ _ _ h => absurd h.1 (by simp)) (by kernel_rfl) ?_ (by assumption) ?_
              rotate_left
              · intro wx hSw
                try dsimp only at hSw
                go_simp
                try (with_reducible rfl)
              try simp only [Act.put, List.setIfInBounds_toArray, List.set_cons_zero, List.set_cons_succ]
              have cB := blk_cell (hM.b gB rfl).2
              have fB := blk_free (hM.b gB rfl).2
              unfold zRound at cB
              refine wpAnyH_ready (rs := [11]) (by kernel_rfl) (by simp) ?_
              refine AllReadyH.cons rfl (fun K hK => ?_) AllReadyH.nil
              go_simp
              refine hK.out _ _ True.intro (fun hHeld => ?_)
              clear hK K
              try simp only [Act.put, List.setIfInBounds_toArray, List.set_cons_zero, List.set_cons_succ]
              refine wpAnyH_done (by kernel_rfl) ?_ _
              exact ⟨rfl, aQ, cQ, gD, gS, gB, gE, W, hM, rfl, rfl⟩
          · obtain ⟨gS, W2, hr, hM2⟩ := hM.runS hn
            clear hM
            refine wp_makeD (by kernel_rfl) (some 13) (.tmp 12) 47 _ _ rfl rfl rfl hr ?_
            clear hr
            refine hK.out _ _ True.intro (fun hHeld => ?_)
            clear hK K
            try simp only [Act.put, List.setIfInBounds_toArray, List.set_cons_zero, List.set_cons_succ]
            rename World => W
            rename Mk _ _ _ _ _ _ _ _ _ => hM
            refine wpAnyH_ready (rs := [2]) (by kernel_rfl) (by simp) ?_
            refine AllReadyH.cons rfl (fun K hK => ?_) AllReadyH.nil
            · obtain ⟨aQ, cQ, W2, hr, hM2⟩ := hM.runEQ cap hn (HRd.out _ hM.below)
              clear hM
              refine wp_appD (by kernel_rfl) (some 7) (.tmp 5) (.tmp 6) 28 _ _ _ rfl rfl rfl rfl rfl hr ?_
              clear hr
              refine hK.out _ _ True.intro (fun hHeld => ?_)
              clear hK K
              try simp only [Act.put, List.setIfInBounds_toArray, List.set_cons_zero, List.set_cons_succ]
              rename World => W
              rename Mk _ _ _ _ _ _ _ _ _ => hM
              refine takeD (i := 9) (some 14) (v := ?_) rfl rfl (by kernel_rfl) (by kernel_rfl) (by kernel_rfl) (fun _ _ _ h => absurd h.1 (by simp)) (by kernel_rfl) ?_ (by assumption) ?_
              rotate_left
              · intro wx hSw
                try dsimp only at hSw
                go_simp
                try (with_reducible rfl)
              try simp only [Act.put, List.setIfInBounds_toArray, List.set_cons_zero, List.set_cons_succ]
              have cB := blk_cell (hM.b gB rfl).2
              have fB := blk_free (hM.b gB rfl).2
              unfold zRound at cB
              refine wpAnyH_ready (rs := [11]) (by kernel_rfl) (by simp) ?_
              refine AllReadyH.cons rfl (fun K hK => ?_) AllReadyH.nil
              go_simp
              refine hK.out _ _ True.intro (fun hHeld => ?_)
              clear hK K
              try simp only [Act.put, List.setIfInBounds_toArray, List.set_cons_zero, List.set_cons_succ]
              refine wpAnyH_done (by kernel_rfl) ?_ _
              exact ⟨rfl, aQ, cQ, gD, gS, gB, gE, W, hM, rfl, rfl⟩
        · obtain ⟨gS, W2, hr, hM2⟩ := hM.runS hn
          clear hM
          refine wp_makeD (by kernel_rfl) (some 13) (.tmp 12) 47 _ _ rfl rfl rfl hr ?_
          clear hr
          refine hK.out _ _ True.intro (fun hHeld => ?_)
          clear hK K
          try simp only [Act.put, List.setIfInBounds_toArray, List.set_cons_zero, List.set_cons_succ]
          rename World => W
          rename Mk _ _ _ _ _ _ _ _ _ => hM
          refine wpAnyH_ready (rs := [2, 5]) (by kernel_rfl) (by simp) ?_
          refine AllReadyH.cons rfl (fun K hK => ?_) (AllReadyH.cons rfl (fun K hK => ?_) AllReadyH.nil)
          · obtain ⟨aQ, cQ, W2, hr, hM2⟩ := hM.runEQ cap hn (HRd.out _ hM.below)
            clear hM
            refine wp_appD (by kernel_rfl) (some 7) (.tmp 5) (.tmp 6) 28 _ _ _ rfl rfl rfl rfl rfl hr ?_
            clear hr
            refine hK.out _ _ True.intro (fun hHeld => ?_)
            clear hK K
            try simp only [Act.put, List.setIfInBounds_toArray, List.set_cons_zero, List.set_cons_succ]
            rename World => W
            rename Mk _ _ _ _ _ _ _ _ _ => hM
            refine wpAnyH_ready (rs := [5]) (by kernel_rfl) (by simp) ?_
            refine AllReadyH.cons rfl (fun K hK => ?_) AllReadyH.nil
            · obtain ⟨gD, W2, hr, hM2⟩ := hM.runD hn
              clear hM
              refine wp_makeD (by kernel_rfl) (some 10) (.tmp 9) 28 _ _ rfl rfl rfl hr ?_
              clear hr
              refine hK.out _ _ True.intro (fun hHeld => ?_)
              clear hK K
              try simp only [Act.put, List.setIfInBounds_toArray, List.set_cons_zero, List.set_cons_succ]
              rename World => W
              rename Mk _ _ _ _ _ _ _ _ _ => hM
              refine takeD (i := 9) (some 14) (v := ?_) rfl rfl (by kernel_rfl) (by kernel_rfl) (by kernel_rfl) (fun _ _ _ h => absurd h.1 (by simp)) (by kernel_rfl) ?_ (by assumption) ?_
              rotate_left
              · intro wx hSw
                try dsimp only at hSw
                go_simp
                try (with_reducible rfl)
              try simp only [Act.put, List.setIfInBounds_toArray, List.set_cons_zero, List.set_cons_succ]
              have cB := blk_cell (hM.b gB rfl).2
              have fB := blk_free (hM.b gB rfl).2
              unfold zRound at cB
              refine wpAnyH_ready (rs := [11]) (by kernel_rfl) (by simp) ?_
              refine AllReadyH.cons rfl (fun K hK => ?_) AllReadyH.nil
              go_simp
              refine hK.out _ _ True.intro (fun hHeld => ?_)
              clear hK K
              try simp only [Act.put, List.setIfInBounds_toArray, List.set_cons_zero, List.set_cons_succ]
              refine wpAnyH_done (by kernel_rfl) ?_ _
              exact ⟨rfl, aQ, cQ, gD, gS, gB, gE, W, hM, rfl, rfl⟩
          · obtain ⟨gD, W2, hr, hM2⟩ := hM.runD hn
            clear hM
            refine wp_makeD (by kernel_rfl) (some 10) (.tmp 9) 28 _ _ rfl rfl rfl hr ?_
            clear hr
            refine hK.out _ _ True.intro (fun hHeld => ?_)
            clear hK K
            try simp only [Act.put, List.setIfInBounds_toArray, List.set_cons_zero, List.set_cons_succ]
            rename World => W
            rename Mk _ _ _ _ _ _ _ _ _ => hM
            refine wpAnyH_ready (rs := [2]) (by kernel_rfl) (by simp) ?_
            refine AllReadyH.cons rfl (fun K hK => ?_) AllReadyH.nil
            · obtain ⟨aQ, cQ, W2, hr, hM2⟩ := hM.runEQ cap hn (HRd.out _ hM.below)
              clear hM
              refine wp_appD (by kernel_rfl) (some 7) (.tmp 5) (.tmp 6) 28 _ _ _ rfl rfl rfl rfl rfl hr ?_
              clear hr
              refine hK.out _ _ True.intro (fun hHeld => ?_)
              clear hK K
              try simp only [Act.put, List.setIfInBounds_toArray, List.set_cons_zero, List.set_cons_succ]
              rename World => W
              rename Mk _ _ _ _ _ _ _ _ _ => hM
              refine takeD (i := 9) (some 14) (v := ?_) rfl rfl (by kernel_rfl) (by kernel_rfl) (by kernel_rfl) (fun _ _ _ h => absurd h.1 (by simp)) (by kernel_rfl) ?_ (by assumption) ?_
              rotate_left
              · intro wx hSw
                try dsimp only at hSw
                go_simp
                try (with_reducible rfl)
              try simp only [Act.put, List.setIfInBounds_toArray, List.set_cons_zero, List.set_cons_succ]
              have cB := blk_cell (hM.b gB rfl).2
              have fB := blk_free (hM.b gB rfl).2
              unfold zRound at cB
              refine wpAnyH_ready (rs := [11]) (by kernel_rfl) (by simp) ?_
              refine AllReadyH.cons rfl (fun K hK => ?_) AllReadyH.nil
              go_simp
              refine hK.out _ _ True.intro (fun hHeld => ?_)
              clear hK K
              try simp only [Act.put, List.setIfInBounds_toArray, List.set_cons_zero, List.set_cons_succ]
              refine wpAnyH_done (by kernel_rfl) ?_ _
              exact ⟨rfl, aQ, cQ, gD, gS, gB, gE, W, hM, rfl, rfl⟩
    · obtain ⟨gD, W2, hr, hM2⟩ := hM.runD hn
      clear hM
      refine wp_makeD (by kernel_rfl) (some 10) (.tmp 9) 28 _ _ rfl rfl rfl hr ?_
      clear hr
      refine hK.out _ _ True.intro (fun hHeld => ?_)
      clear hK K
      try simp only [Act.put, List.setIfInBounds_toArray, List.set_cons_zero, List.set_cons_succ]
      rename World => W
      rename Mk _ _ _ _ _ _ _ _ _ => hM
      refine wpAnyH_ready (rs := [0, 8, 10]) (by kernel_rfl) (by simp) ?_
      refine AllReadyH.cons rfl (fun K hK => ?_) (AllReadyH.cons rfl (fun K hK => ?_) (AllReadyH.cons rfl (fun K hK => ?_) AllReadyH.nil))
      · obtain ⟨gE, W2, hg, hW, hM2⟩ := hM.runE
        clear hM
        go_simp
        refine hK.out _ _ True.intro (fun hHeld => ?_)
        clear hK K
        try simp only [Act.put, List.setIfInBounds_toArray, List.set_cons_zero, List.set_cons_succ]
        rw [← hg, ← hW]
        clear hg hW
        rename World => W
        rename Mk _ _ _ _ _ _ _ _ _ => hM
        refine wpAnyH_ready (rs := [2, 8, 10]) (by kernel_rfl) (by simp) ?_
        refine AllReadyH.cons rfl (fun K hK => ?_) (AllReadyH.cons rfl (fun K hK => ?_) (AllReadyH.cons rfl (fun K hK => ?_) AllReadyH.nil))
        · obtain ⟨aQ, cQ, W2, hr, hM2⟩ := hM.runEQ cap hn (HRd.out _ hM.below)
          clear hM
          refine wp_appD (by kernel_rfl) (some 7) (.tmp 5) (.tmp 6) 28 _ _ _ rfl rfl rfl rfl rfl hr ?_
          clear hr
          refine hK.out _ _ True.intro (fun hHeld => ?_)
          clear hK K
          try simp only [Act.put, List.setIfInBounds_toArray, List.set_cons_zero, List.set_cons_succ]
          rename World => W
          rename Mk _ _ _ _ _ _ _ _ _ => hM
          refine wpAnyH_ready (rs := [8, 10]) (by kernel_rfl) (by simp) ?_
          refine AllReadyH.cons rfl (fun K hK => ?_) (AllReadyH.cons rfl (fun K hK => ?_) AllReadyH.nil)
          · obtain ⟨gS, W2, hr, hM2⟩ := hM.runS hn
            clear hM
            refine wp_makeD (by kernel_rfl) (some 13) (.tmp 12) 47 _ _ rfl rfl rfl hr ?_
            clear hr
            refine hK.out _ _ True.intro (fun hHeld => ?_)
            clear hK K
            try simp only [Act.put, List.setIfInBounds_toArray, List.set_cons_zero, List.set_cons_succ]
            rename World => W
            rename Mk _ _ _ _ _ _ _ _ _ => hM
            refine takeD (i := 9) (some 14) (v := ?_) rfl rfl (by kernel_rfl) (by kernel_rfl) (by kernel_rfl) (fun _ _ _ h => absurd h.1 (by simp)) (by kernel_rfl) ?_ (by assumption) ?_
            rotate_left
            · intro wx hSw
              try dsimp only at hSw
              go_simp
              try (with_reducible rfl)
            try simp only [Act.put, List.setIfInBounds_toArray, List.set_cons_zero, List.set_cons_succ]
            refine wpAnyH_ready (rs := [10]) (by kernel_rfl) (by simp) ?_
            refine AllReadyH.cons rfl (fun K hK => ?_) AllReadyH.nil
            · obtain ⟨gB, W2, hg, hW, hM2⟩ := hM.runB
              clear hM
              go_simp
              refine hK.out _ _ True.intro (fun hHeld => ?_)
              clear hK K
              try simp only [Act.put, List.setIfInBounds_toArray, List.set_cons_zero, List.set_cons_succ]
              rw [← hg, ← hW]
              clear hg hW
              rename World => W
              rename Mk _ _ _ _ _ _ _ _ _ => hM
              have cB := blk_cell (hM.b gB rfl).2
              have fB := blk_free (hM.b gB rfl).2
              unfold zRound at cB
              refine wpAnyH_ready (rs := [11]) (by kernel_rfl) (by simp) ?_
              refine AllReadyH.cons rfl (fun K hK => ?_) AllReadyH.nil
              go_simp
              refine hK.out _ _ True.intro (fun hHeld => ?_)
              clear hK K
              try simp only [Act.put, List.setIfInBounds_toArray, List.set_cons_zero, List.set_cons_succ]
              refine wpAnyH_done (by kernel_rfl) ?_ _
              exact ⟨rfl, aQ, cQ, gD, gS, gB, gE, W, hM, rfl, rfl⟩
          · obtain ⟨gB, W2, hg, hW, hM2⟩ := hM.runB
            clear hM
            go_simp
            refine hK.out _ _ True.intro (fun hHeld => ?_)
            clear hK K
            try simp only [Act.put, List.setIfInBounds_toArray, List.set_cons_zero, List.set_cons_succ]
            rw [← hg, ← hW]
            clear hg hW
            rename World => W
            rename Mk _ _ _ _ _ _ _ _ _ => hM
            refine wpAnyH_ready (rs := [8]) (by kernel_rfl) (by simp) ?_
            refine AllReadyH.cons rfl (fun K hK => ?_) AllReadyH.nil
            · obtain ⟨gS, W2, hr, hM2⟩ := hM.runS hn
              clear hM
              refine wp_makeD (by kernel_rfl) (some 13) (.tmp 12) 47 _ _ rfl rfl rfl hr ?_
              clear hr
              refine hK.out _ _ True.intro (fun hHeld => ?_)
              clear hK K
              try simp only [Act.put, List.setIfInBounds_toArray, List.set_cons_zero, List.set_cons_succ]
              rename World => W
              rename Mk _ _ _ _ _ _ _ _ _ => hM
              refine takeD (i := 9) (some 14) (v := ?_) rfl rfl (by kernel_rfl) (by kernel_rfl) (by kernel_rfl) (fun _ _ _ h => absurd h.1 (by simp)) (by kernel_rfl) ?_ (by assumption) ?_
              rotate_left
              · intro wx hSw
                try dsimp only at hSw
                go_simp
                try (with_reducible rfl)
              try simp only [Act.put, List.setIfInBounds_toArray, List.set_cons_zero, List.set_cons_succ]
              have cB := blk_cell (hM.b gB rfl).2
              have fB := blk_free (hM.b gB rfl).2
              unfold zRound at cB
              refine wpAnyH_ready (rs := [11]) (by kernel_rfl) (by simp) ?_
              refine AllReadyH.cons rfl (fun K hK => ?_) AllReadyH.nil
              go_simp
              refine hK.out _ _ True.intro (fun hHeld => ?_)
              clear hK K
              try simp only [Act.put, List.setIfInBounds_toArray, List.set_cons_zero, List.set_cons_succ]
              refine wpAnyH_done (by kernel_rfl) ?_ _
              exact ⟨rfl, aQ, cQ, gD, gS, gB, gE, W, hM, rfl, rfl⟩
        · obtain ⟨gS, W2, hr, hM2⟩ := hM.runS hn
          clear hM
          refine wp_makeD (by kernel_rfl) (some 13) (.tmp 12) 47 _ _ rfl rfl rfl hr ?_
          clear hr
          refine hK.out _ _ True.intro (fun hHeld => ?_)
          clear hK K
          try simp only [Act.put, List.setIfInBounds_toArray, List.set_cons_zero, List.set_cons_succ]
          rename World => W
          rename Mk _ _ _ _ _ _ _ _ _ => hM
          refine wpAnyH_ready (rs := [2, 10]) (by kernel_rfl) (by simp) ?_
          refine AllReadyH.cons rfl (fun K hK => ?_) (AllReadyH.cons rfl (fun K hK => ?_) AllReadyH.nil)
          · obtain ⟨aQ, cQ, W2, hr, hM2⟩ := hM.runEQ cap hn (HRd.out _ hM.below)
            clear hM
            refine wp_appD (by kernel_rfl) (some 7) (.tmp 5) (.tmp 6) 28 _ _ _ rfl rfl rfl rfl rfl hr ?_
            clear hr
            refine hK.out _ _ True.intro (fun hHeld => ?_)
            clear hK K
            try simp only [Act.put, List.setIfInBounds_toArray, List.set_cons_zero, List.set_cons_succ]
            rename World => W
            rename Mk _ _ _ _ _ _ _ _ _ => hM
            refine takeD (i := 9) (some 14) (v := ?_) rfl rfl (by kernel_rfl) (by kernel_rfl) (by kernel_rfl) (fun _ _ _ h => absurd h.1 (by simp)) (by kernel_rfl) ?_ (by assumption) ?_
            rotate_left
            · intro wx hSw
              try dsimp only at hSw
              go_simp
              try (with_reducible rfl)
            try simp only [Act.put, List.setIfInBounds_toArray, List.set_cons_zero, List.set_cons_succ]
            refine wpAnyH_ready (rs := [10]) (by kernel_rfl) (by simp) ?_
            refine AllReadyH.cons rfl (fun K hK => ?_) AllReadyH.nil
            · obtain ⟨gB, W2, hg, hW, hM2⟩ := hM.runB
              clear hM
              go_simp
              refine hK.out _ _ True.intro (fun hHeld => ?_)
              clear hK K
              try simp only [Act.put, List.setIfInBounds_toArray, List.set_cons_zero, List.set_cons_succ]
              rw [← hg, ← hW]
              clear hg hW
              rename World => W
              rename Mk _ _ _ _ _ _ _ _ _ => hM
              have cB := blk_cell (hM.b gB rfl).2
              have fB := blk_free (hM.b gB rfl).2
              unfold zRound at cB
              refine wpAnyH_ready (rs := [11]) (by kernel_rfl) (by simp) ?_
              refine AllReadyH.cons rfl (fun K hK => ?_) AllReadyH.nil
              go_simp
              refine hK.out _ _ True.intro (fun hHeld => ?_)
              clear hK K
              try simp only [Act.put, List.setIfInBounds_toArray, List.set_cons_zero, List.set_cons_succ]
              refine wpAnyH_done (by kernel_rfl) ?_ _
              exact ⟨rfl, aQ, cQ, gD, gS, gB, gE, W, hM, rfl, rfl⟩
          · obtain ⟨gB, W2, hg, hW, hM2⟩ := hM.runB
            clear hM
            go_simp
            refine hK.out _ _ True.intro (fun hHeld => ?_)
            clear hK K
            try simp only [Act.put, List.setIfInBounds_toArray, List.set_cons_zero, List.set_cons_succ]
            rw [← hg, ← hW]
            clear hg hW
            rename World => W
            rename Mk _ _ _ _ _ _ _ _ _ => hM
            refine wpAnyH_ready (rs := [2]) (by kernel_rfl) (by simp) ?_
            refine AllReadyH.cons rfl (fun K hK => ?_) AllReadyH.nil
            · obtain ⟨aQ, cQ, W2, hr, hM2⟩ := hM.runEQ cap hn (HRd.out _ hM.below)
              clear hM
              refine wp_appD (by kernel_rfl) (some 7) (.tmp 5) (.tmp 6) 28 _ _ _ rfl rfl rfl rfl rfl hr ?_
              clear hr
              refine hK.out _ _ True.intro (fun hHeld => ?_)
              clear hK K
              try simp only [Act.put, List.setIfInBounds_toArray, List.set_cons_zero, List.set_cons_succ]
              rename World => W
              rename Mk _ _ _ _ _ _ _ _ _ => hM
              refine takeD (i := 9) (some 14) (v := ?_) rfl rfl (by kernel_rfl) (by kernel_rfl) (by kernel_rfl) (fun _ _ _ h => absurd h.1 (by simp)) (by kernel_rfl) ?_ (by assumption) ?_
              rotate_left
              · intro wx hSw
                try dsimp only at hSw
                go_simp
                try (with_reducible rfl)
              try simp only [Act.put, List.setIfInBounds_toArray, List.set_cons_zero, List.set_cons_succ]
              have cB := blk_cell (hM.b gB rfl).2
              have fB := blk_free (hM.b gB rfl).2
              unfold zRound at cB
              refine wpAnyH_ready (rs := [11]) (by kernel_rfl) (by simp) ?_
              refine AllReadyH.cons rfl (fun K hK => ?_) AllReadyH.nil
              go_simp
              refine hK.out _ _ True.intro (fun hHeld => ?_)
              clear hK K
              try simp only [Act.put, List.setIfInBounds_toArray, List.set_cons_zero, List.set_cons_succ]
              refine wpAnyH_done (by kernel_rfl) ?_ _
              exact ⟨rfl, aQ, cQ, gD, gS, gB, gE, W, hM, rfl, rfl⟩
        · obtain ⟨gB, W2, hg, hW, hM2⟩ := hM.runB
          clear hM
          go_simp
          refine hK.out _ _ True.intro (fun hHeld => ?_)
          clear hK K
          try simp only [Act.put, List.setIfInBounds_toArray, List.set_cons_zero, List.set_cons_succ]
          rw [← hg, ← hW]
          clear hg hW
          rename World => W
          rename Mk _ _ _ _ _ _ _ _ _ => hM
          refine wpAnyH_ready (rs := [2, 8]) (by kernel_rfl) (by simp) ?_
          refine AllReadyH.cons rfl (fun K hK => ?_) (AllReadyH.cons rfl (fun K hK => ?_) AllReadyH.nil)
          · obtain ⟨aQ, cQ, W2, hr, hM2⟩ := hM.runEQ cap hn (HRd.out _ hM.below)
            clear hM
            refine wp_appD (by kernel_rfl) (some 7) (.tmp 5) (.tmp 6) 28 _ _ _ rfl rfl rfl rfl rfl hr ?_
            clear hr
            refine hK.out _ _ True.intro (fun hHeld => ?_)
            clear hK K
            try simp only [Act.put, List.setIfInBounds_toArray, List.set_cons_zero, List.set_cons_succ]
            rename World => W
            rename Mk _ _ _ _ _ _ _ _ _ => hM
            refine wpAnyH_ready (rs := [8]) (by kernel_rfl) (by simp) ?_
            refine AllReadyH.cons rfl (fun K hK => ?_) AllReadyH.nil
            · obtain ⟨gS, W2, hr, hM2⟩ := hM.runS hn
              clear hM
              refine wp_makeD (by kernel_rfl) (some 13) (.tmp 12) 47 _ _ rfl rfl rfl hr ?_
              clear hr
              refine hK.out _ _ True.intro (fun hHeld => ?_)
              clear hK K
              try simp only [Act.put, List.setIfInBounds_toArray, List.set_cons_zero, List.set_cons_succ]
              rename World => W
              rename Mk _ _ _ _ _ _ _ _ _ => hM
              refine takeD (i := 9) (some 14) (v := ?_) rfl rfl (by kernel_rfl) (by kernel_rfl) (by kernel_rfl) (fun _ _ _ h => absurd h.1 (by simp)) (by kernel_rfl) ?_ (by assumption) ?_
              rotate_left
              · intro wx hSw
                try dsimp only at hSw
                go_simp
                try (with_reducible rfl)
              try simp only [Act.put, List.setIfInBounds_toArray, List.set_cons_zero, List.set_cons_succ]
              have cB := blk_cell (hM.b gB rfl).2
              have fB := blk_free (hM.b gB rfl).2
              unfold zRound at cB
              refine wpAnyH_ready (rs := [11]) (by kernel_rfl) (by simp) ?_
              refine AllReadyH.cons rfl (fun K hK => ?_) AllReadyH.nil
              go_simp
              refine hK.out _ _ True.intro (fun hHeld => ?_)
              clear hK K
              try simp only [Act.put, List.setIfInBounds_toArray, List.set_cons_zero, List.set_cons_succ]
              refine wpAnyH_done (by kernel_rfl) ?_ _
              exact ⟨rfl, aQ, cQ, gD, gS, gB, gE, W, hM, rfl, rfl⟩
          · obtain ⟨gS, W2, hr, hM2⟩ := hM.runS hn
            clear hM
            refine wp_makeD (by kernel_rfl) (some 13) (.tmp 12) 47 _ _ rfl rfl rfl hr ?_
            clear hr
            refine hK.out _ _ True.intro (fun hHeld => ?_)
            clear hK K
            try simp only [Act.put, List.setIfInBounds_toArray, List.set_cons_zero, List.set_cons_succ]
            rename World => W
            rename Mk _ _ _ _ _ _ _ _ _ => hM
            refine wpAnyH_ready (rs := [2]) (by kernel_rfl) (by simp) ?_
            refine AllReadyH.cons rfl (fun K hK => ?_) AllReadyH.nil
            · obtain ⟨aQ, cQ, W2, hr, hM2⟩ := hM.runEQ cap hn (HRd.out _ hM.below)
              clear hM
              refine wp_appD (by kernel_rfl) (some 7) (.tmp 5) (.tmp 6) 28 _ _ _ rfl rfl rfl rfl rfl hr ?_
              clear hr
              refine hK.out _ _ True.intro (fun hHeld => ?_)
              clear hK K
              try simp only [Act.put, List.setIfInBounds_toArray, List.set_cons_zero, List.set_cons_succ]
              rename World => W
              rename Mk _ _ _ _ _ _ _ _ _ => hM
              refine takeD (i := 9) (some 14) (v := ?_) rfl rfl (by kernel_rfl) (by kernel_rfl) (by kernel_rfl) (fun _ _ _ h => absurd h.1 (by simp)) (by kernel_rfl) ?_ (by assumption) ?_
              rotate_left
              · intro wx hSw
                try dsimp only at hSw
                go_simp
                try (with_reducible rfl)
              try simp only [Act.put, List.setIfInBounds_toArray, List.set_cons_zero, List.set_cons_succ]
              have cB := blk_cell (hM.b gB rfl).2
              have fB := blk_free (hM.b gB rfl).2
              unfold zRound at cB
              refine wpAnyH_ready (rs := [11]) (by kernel_rfl) (by simp) ?_
              refine AllReadyH.cons rfl (fun K hK => ?_) AllReadyH.nil
              go_simp
              refine hK.out _ _ True.intro (fun hHeld => ?_)
              clear hK K
              try simp only [Act.put, List.setIfInBounds_toArray, List.set_cons_zero, List.set_cons_succ]
              refine wpAnyH_done (by kernel_rfl) ?_ _
              exact ⟨rfl, aQ, cQ, gD, gS, gB, gE, W, hM, rfl, rfl⟩
      · obtain ⟨gS, W2, hr, hM2⟩ := hM.runS hn
        clear hM
        refine wp_makeD (by kernel_rfl) (some 13) (.tmp 12) 47 _ _ rfl rfl rfl hr ?_
        clear hr
        refine hK.out _ _ True.intro (fun hHeld => ?_)
        clear hK K
        try simp only [Act.put, List.setIfInBounds_toArray, List.set_cons_zero, List.set_cons_succ]
        rename World => W
        rename Mk _ _ _ _ _ _ _ _ _ => hM
        refine wpAnyH_ready (rs := [0, 10]) (by kernel_rfl) (by simp) ?_
        refine AllReadyH.cons rfl (fun K hK => ?_) (AllReadyH.cons rfl (fun K hK => ?_) AllReadyH.nil)
        · obtain ⟨gE, W2, hg, hW, hM2⟩ := hM.runE
          clear hM
          go_simp
          refine hK.out _ _ True.intro (fun hHeld => ?_)
          clear hK K
          try simp only [Act.put, List.setIfInBounds_toArray, List.set_cons_zero, List.set_cons_succ]
          rw [← hg, ← hW]
          clear hg hW
          rename World => W
          rename Mk _ _ _ _ _ _ _ _ _ => hM
          refine wpAnyH_ready (rs := [2, 10]) (by kernel_rfl) (by simp) ?_
          refine AllReadyH.cons rfl (fun K hK => ?_) (AllReadyH.cons rfl (fun K hK => ?_) AllReadyH.nil)
          · obtain ⟨aQ, cQ, W2, hr, hM2⟩ := hM.runEQ cap hn (HRd.out _ hM.below)
            clear hM
            refine wp_appD (by kernel_rfl) (some 7) (.tmp 5) (.tmp 6) 28 _ _ _ rfl rfl rfl rfl rfl hr ?_
            clear hr
            refine hK.out _ _ True.intro (fun hHeld => ?_)
            clear hK K
            try simp only [Act.put, List.setIfInBounds_toArray, List.set_cons_zero, List.set_cons_succ]
            rename World => W
            rename Mk _ _ _ _ _ _ _ _ _ => hM
            refine takeD (i := 9) (some 14) (v := ?_) rfl rfl (by kernel_rfl) (by kernel_rfl) (by kernel_rfl) (fun _ _ _ h => absurd h.1 (by simp)) (by kernel_rfl) ?_ (by assumption) ?_
            rotate_left
            · intro wx hSw
              try dsimp only at hSw
              go_simp
              try (with_reducible rfl)
            try simp only [Act.put, List.setIfInBounds_toArray, List.set_cons_zero, List.set_cons_succ]
            refine wpAnyH_ready (rs := [10]) (by kernel_rfl) (by simp) ?_
            refine AllReadyH.cons rfl (fun K hK => ?_) AllReadyH.nil
            · obtain ⟨gB, W2, hg, hW, hM2⟩ := hM.runB
              clear hM
              go_simp
              refine hK.out _ _ True.intro (fun hHeld => ?_)
              clear hK K
              try simp only [Act.put, List.setIfInBounds_toArray, List.set_cons_zero, List.set_cons_succ]
              rw [← hg, ← hW]
              clear hg hW
              rename World => W
              rename Mk _ _ _ _ _ _ _ _ _ => hM
              have cB := blk_cell (hM.b gB rfl).2
              have fB := blk_free (hM.b gB rfl).2
              unfold zRound at cB
              refine wpAnyH_ready (rs := [11]) (by kernel_rfl) (by simp) ?_
              refine AllReadyH.cons rfl (fun K hK => ?_) AllReadyH.nil
              go_simp
              refine hK.out _ _ True.intro (fun hHeld => ?_)
              clear hK K
              try simp only [Act.put, List.setIfInBounds_toArray, List.set_cons_zero, List.set_cons_succ]
              refine wpAnyH_done (by kernel_rfl) ?_ _
              exact ⟨rfl, aQ, cQ, gD, gS, gB, gE, W, hM, rfl, rfl⟩
          · obtain ⟨gB, W2, hg, hW, hM2⟩ := hM.runB
            clear hM
            go_simp
            refine hK.out _ _ True.intro (fun hHeld => ?_)
            clear hK K
            try simp only [Act.put, List.setIfInBounds_toArray, List.set_cons_zero, List.set_cons_succ]
            rw [← hg, ← hW]
            clear hg hW
            rename World => W
            rename Mk _ _ _ _ _ _ _ _ _ => hM
            refine wpAnyH_ready (rs := [2]) (by kernel_rfl) (by simp) ?_
            refine AllReadyH.cons rfl (fun K hK => ?_) AllReadyH.nil
            · obtain ⟨aQ, cQ, W2, hr, hM2⟩ := hM.runEQ cap hn (HRd.out _ hM.below)
              clear hM
              refine wp_appD (by kernel_rfl) (some 7) (.tmp 5) (.tmp 6) 28 _ _ _ rfl rfl rfl rfl rfl hr ?_
              clear hr
              refine hK.out _ _ True.intro (fun hHeld => ?_)
              clear hK K
              try simp only [Act.put, List.setIfInBounds_toArray, List.set_cons_zero, List.set_cons_succ]
              rename World => W
              rename Mk _ _ _ _ _ _ _ _ _ => hM
              refine takeD (i := 9) (some 14) (v := ?_) rfl rfl (by kernel_rfl) (by kernel_rfl) (by kernel_rfl) (fun _ _ _ h => absurd h.1 (by simp)) (by kernel_rfl) ?_ (by assumption) ?_
              rotate_left
              · intro wx hSw
                try dsimp only at hSw
                go_simp
                try (with_reducible rfl)
              try simp only [Act.put, List.setIfInBounds_toArray, List.set_cons_zero, List.set_cons_succ]
              have cB := blk_cell (hM.b gB rfl).2
              have fB := blk_free (hM.b gB rfl).2
              unfold zRound at cB
              refine wpAnyH_ready (rs := [11]) (by kernel_rfl) (by simp) ?_
              refine AllReadyH.cons rfl (fun K hK => ?_) AllReadyH.nil
              go_simp
              refine hK.out _ _ True.intro (fun hHeld => ?_)
              clear hK K
              try simp only [Act.put, List.setIfInBounds_toArray, List.set_cons_zero, List.set_cons_succ]
              refine wpAnyH_done (by kernel_rfl) ?_ _
              exact ⟨rfl, aQ, cQ, gD, gS, gB, gE, W, hM, rfl, rfl⟩
        · obtain ⟨gB, W2, hg, hW, hM2⟩ := hM.runB
          clear hM
          go_simp
          refine hK.out _ _ True.intro (fun hHeld => ?_)
          clear hK K
          try simp only [Act.put, List.setIfInBounds_toArray, List.set_cons_zero, List.set_cons_succ]
          rw [← hg, ← hW]
          clear hg hW
          rename World => W
          rename Mk _ _ _ _ _ _ _ _ _ => hM
          refine wpAnyH_ready (rs := [0]) (by kernel_rfl) (by simp) ?_
          refine AllReadyH.cons rfl (fun K hK => ?_) AllReadyH.nil
          · obtain ⟨gE, W2, hg, hW, hM2⟩ := hM.runE
            clear hM
            go_simp
            refine hK.out _ _ True.intro (fun hHeld => ?_)
            clear hK K
            try simp only [Act.put, List.setIfInBounds_toArray, List.set_cons_zero, List.set_cons_succ]
            rw [← hg, ← hW]
            clear hg hW
            rename World => W
            rename Mk _ _ _ _ _ _ _ _ _ => hM
            refine wpAnyH_ready (rs := [2]) (by kernel_rfl) (by simp) ?_
            refine AllReadyH.cons rfl (fun K hK => ?_) AllReadyH.nil
            · obtain ⟨aQ, cQ, W2, hr, hM2⟩ := hM.runEQ cap hn (HRd.out _ hM.below)
              clear hM
              refine wp_appD (by kernel_rfl) (some 7) (.tmp 5) (.tmp 6) 28 _ _ _ rfl rfl rfl rfl rfl hr ?_
              clear hr
              refine hK.out _ _ True.intro (fun hHeld => ?_)
              clear hK K
              try simp only [Act.put, List.setIfInBounds_toArray, List.set_cons_zero, List.set_cons_succ]
              rename World => W
              rename Mk _ _ _ _ _ _ _ _ _ => hM
              refine takeD (i := 9) (some 14) (v := ?_) rfl rfl (by kernel_rfl) (by kernel_rfl) (by kernel_rfl) (fun _ _ _ h => absurd h.1 (by simp)) (by kernel_rfl) ?_ (by assumption) ?_
              rotate_left
              · intro wx hSw
                try dsimp only at hSw
                go_simp
                try (with_reducible rfl)
              try simp only [Act.put, List.setIfInBounds_toArray, List.set_cons_zero, List.set_cons_succ]
              have cB := blk_cell (hM.b gB rfl).2
              have fB := blk_free (hM.b gB rfl).2
              unfold zRound at cB
              refine wpAnyH_ready (rs := [11]) (by kernel_rfl) (by simp) ?_
              refine AllReadyH.cons rfl (fun K hK => ?_) AllReadyH.nil
              go_simp
              refine hK.out _ _ True.intro (fun hHeld => ?_)
              clear hK K
              try simp only [Act.put, List.setIfInBounds_toArray, List.set_cons_zero, List.set_cons_succ]
              refine wpAnyH_done (by kernel_rfl) ?_ _
              exact ⟨rfl, aQ, cQ, gD, gS, gB, gE, W, hM, rfl, rfl⟩
      · obtain ⟨gB, W2, hg, hW, hM2⟩ := hM.runB
        clear hM
        go_simp
        refine hK.out _ _ True.intro (fun hHeld => ?_)
        clear hK K
        try simp only [Act.put, List.setIfInBounds_toArray, List.set_cons_zero, List.set_cons_succ]
        rw [← hg, ← hW]
        clear hg hW
        rename World => W
        rename Mk _ _ _ _ _ _ _ _ _ => hM
        refine wpAnyH_ready (rs := [0, 8]) (by kernel_rfl) (by simp) ?_
        refine AllReadyH.cons rfl (fun K hK => ?_) (AllReadyH.cons rfl (fun K hK => ?_) AllReadyH.nil)
        · obtain ⟨gE, W2, hg, hW, hM2⟩ := hM.runE
          clear hM
          go_simp
          refine hK.out _ _ True.intro (fun hHeld => ?_)
          clear hK K
          try simp only [Act.put, List.setIfInBounds_toArray, List.set_cons_zero, List.set_cons_succ]
          rw [← hg, ← hW]
          clear hg hW
          rename World => W
          rename Mk _ _ _ _ _ _ _ _ _ => hM
          refine wpAnyH_ready (rs := [2, 8]) (by kernel_rfl) (by simp) ?_
          refine AllReadyH.cons rfl (fun K hK => ?_) (AllReadyH.cons rfl (fun K hK => ?_) AllReadyH.nil)
          · obtain ⟨aQ, cQ, W2, hr, hM2⟩ := hM.runEQ cap hn (HRd.out _ hM.below)
            clear hM
            refine wp_appD (by kernel_rfl) (some 7) (.tmp 5) (.tmp 6) 28 _ _ _ rfl rfl rfl rfl rfl hr ?_
            clear hr
            refine hK.out _ _ True.intro (fun hHeld => ?_)
            clear hK K
            try simp only [Act.put, List.setIfInBounds_toArray, List.set_cons_zero, List.set_cons_succ]
            rename World => W
            rename Mk _ _ _ _ _ _ _ _ _ => hM
            refine wpAnyH_ready (rs := [8]) (by kernel_rfl) (by simp) ?_
            refine AllReadyH.cons rfl (fun K hK => ?_) AllReadyH.nil
            · obtain ⟨gS, W2, hr, hM2⟩ := hM.runS hn
              clear hM
              refine wp_makeD (by kernel_rfl) (some 13) (.tmp 12) 47 _ _ rfl rfl rfl hr ?_
              clear hr
              refine hK.out _ _ True.intro (fun hHeld => ?_)
              clear hK K
              try simp only [Act.put, List.setIfInBounds_toArray, List.set_cons_zero, List.set_cons_succ]
              rename World => W
              rename Mk _ _ _ _ _ _ _ _ _ => hM
              refine takeD (i := 9) (some 14) (v := ?_) rfl rfl (by kernel_rfl) (by kernel_rfl) (by kernel_rfl) (fun _ _ _ h => absurd h.1 (by simp)) (by kernel_rfl) ?_ (by assumption) ?_
              rotate_left
              · intro wx hSw
                try dsimp only at hSw
                go_simp
                try (with_reducible rfl)
              try simp only [Act.put, List.setIfInBounds_toArray, List.set_cons_zero, List.set_cons_succ]
              have cB := blk_cell (hM.b gB rfl).2
              have fB := blk_free (hM.b gB rfl).2
              unfold zRound at cB
              refine wpAnyH_ready (rs := [11]) (by kernel_rfl) (by simp) ?_
              refine AllReadyH.cons rfl (fun K hK => ?_) AllReadyH.nil
              go_simp
              refine hK.out _ _ True.intro (fun hHeld => ?_)
              clear hK K
              try simp only [Act.put, List.setIfInBounds_toArray, List.set_cons_zero, List.set_cons_succ]
              refine wpAnyH_done (by kernel_rfl) ?_ _
              exact ⟨rfl, aQ, cQ, gD, gS, gB, gE, W, hM, rfl, rfl⟩
          · obtain ⟨gS, W2, hr, hM2⟩ := hM.runS hn
            clear hM
            refine wp_makeD (by kernel_rfl) (some 13) (.tmp 12) 47 _ _ rfl rfl rfl hr ?_
            clear hr
            refine hK.out _ _ True.intro (fun hHeld => ?_)
            clear hK K
            try simp only [Act.put, List.setIfInBounds_toArray, List.set_cons_zero, List.set_cons_succ]
            rename World => W
            rename Mk _ _ _ _ _ _ _ _ _ => hM
            refine wpAnyH_ready (rs := [2]) (by kernel_rfl) (by simp) ?_
            refine AllReadyH.cons rfl (fun K hK => ?_) AllReadyH.nil
            · obtain ⟨aQ, cQ, W2, hr, hM2⟩ := hM.runEQ cap hn (HRd.out _ hM.below)
              clear hM
              refine wp_appD (by kernel_rfl) (some 7) (.tmp 5) (.tmp 6) 28 _ _ _ rfl rfl rfl rfl rfl hr ?_
              clear hr
              refine hK.out _ _ True.intro (fun hHeld => ?_)
              clear hK K
              try simp only [Act.put, List.setIfInBounds_toArray, List.set_cons_zero, List.set_cons_succ]
              rename World => W
              rename Mk _ _ _ _ _ _ _ _ _ => hM
              refine takeD (i := 9) (some 14) (v := ?_) rfl rfl (by kernel_rfl) (by kernel_rfl) (by kernel_rfl) (fun _ _ _ h => absurd h.1 (by simp)) (by kernel_rfl) ?_ (by assumption) ?_
              rotate_left
              · intro wx hSw
                try dsimp only at hSw
                go_simp
                try (with_reducible rfl)
              try simp only [Act.put, List.setIfInBounds_toArray, List.set_cons_zero, List.set_cons_succ]
              have cB := blk_cell (hM.b gB rfl).2
              have fB := blk_free (hM.b gB rfl).2
              unfold zRound at cB
              refine wpAnyH_ready (rs := [11]) (by kernel_rfl) (by simp) ?_
              refine AllReadyH.cons rfl (fun K hK => ?_) AllReadyH.nil
              go_simp
              refine hK.out _ _ True.intro (fun hHeld => ?_)
              clear hK K
              try simp only [Act.put, List.setIfInBounds_toArray, List.set_cons_zero, List.set_cons_succ]
              refine wpAnyH_done (by kernel_rfl) ?_ _
              exact ⟨rfl, aQ, cQ, gD, gS, gB, gE, W, hM, rfl, rfl⟩
        · obtain ⟨gS, W2, hr, hM2⟩ := hM.runS hn
          clear hM
          refine wp_makeD (by kernel_rfl) (some 13) (.tmp 12) 47 _ _ rfl rfl rfl hr ?_
          clear hr
          refine hK.out _ _ True.intro (fun hHeld => ?_)
          clear hK K
          try simp only [Act.put, List.setIfInBounds_toArray, List.set_cons_zero, List.set_cons_succ]
          rename World => W
          rename Mk _ _ _ _ _ _ _ _ _ => hM
          refine wpAnyH_ready (rs := [0]) (by kernel_rfl) (by simp) ?_
          refine AllReadyH.cons rfl (fun K hK => ?_) AllReadyH.nil
          · obtain ⟨gE, W2, hg, hW, hM2⟩ := hM.runE
            clear hM
            go_simp
            refine hK.out _ _ True.intro (fun hHeld => ?_)
            clear hK K
            try simp only [Act.put, List.setIfInBounds_toArray, List.set_cons_zero, List.set_cons_succ]
            rw [← hg, ← hW]
            clear hg hW
            rename World => W
            rename Mk _ _ _ _ _ _ _ _ _ => hM
            refine wpAnyH_ready (rs := [2]) (by kernel_rfl) (by simp) ?_
            refine AllReadyH.cons rfl (fun K hK => ?_) AllReadyH.nil
            · obtain ⟨aQ, cQ, W2, hr, hM2⟩ := hM.runEQ cap hn (HRd.out _ hM.below)
              clear hM
              refine wp_appD (by kernel_rfl) (some 7) (.tmp 5) (.tmp 6) 28 _ _ _ rfl rfl rfl rfl rfl hr ?_
              clear hr
              refine hK.out _ _ True.intro (fun hHeld => ?_)
              clear hK K
              try simp only [Act.put, List.setIfInBounds_toArray, List.set_cons_zero, List.set_cons_succ]
              rename World => W
              rename Mk _ _ _ _ _ _ _ _ _ => hM
              refine takeD (i := 9) (some 14) (v := ?_) rfl rfl (by kernel_rfl) (by kernel_rfl) (by kernel_rfl) (fun _ _ _ h => absurd h.1 (by simp)) (by kernel_rfl) ?_ (by assumption) ?_
              rotate_left
              · intro wx hSw
                try dsimp only at hSw
                go_simp
                try (with_reducible rfl)
              try simp only [Act.put, List.setIfInBounds_toArray, List.set_cons_zero, List.set_cons_succ]
              have cB := blk_cell (hM.b gB rfl).2
              have fB := blk_free (hM.b gB rfl).2
              unfold zRound at cB
              refine wpAnyH_ready (rs := [11]) (by kernel_rfl) (by simp) ?_
              refine AllReadyH.cons rfl (fun K hK => ?_) AllReadyH.nil
              go_simp
              refine hK.out _ _ True.intro (fun hHeld => ?_)
              clear hK K
              try simp only [Act.put, List.setIfInBounds_toArray, List.set_cons_zero, List.set_cons_succ]
              refine wpAnyH_done (by kernel_rfl) ?_ _
              exact ⟨rfl, aQ, cQ, gD, gS, gB, gE, W, hM, rfl, rfl⟩
    · obtain ⟨gS, W2, hr, hM2⟩ := hM.runS hn
      clear hM
      refine wp_makeD (by kernel_rfl) (some 13) (.tmp 12) 47 _ _ rfl rfl rfl hr ?_
      clear hr
      refine hK.out _ _ True.intro (fun hHeld => ?_)
      clear hK K
      try simp only [Act.put, List.setIfInBounds_toArray, List.set_cons_zero, List.set_cons_succ]
      rename World => W
      rename Mk _ _ _ _ _ _ _ _ _ => hM
      refine wpAnyH_ready (rs := [0, 5, 10]) (by kernel_rfl) (by simp) ?_
      refine AllReadyH.cons rfl (fun K hK => ?_) (AllReadyH.cons rfl (fun K hK => ?_) (AllReadyH.cons rfl (fun K hK => ?_) AllReadyH.nil))
      · obtain ⟨gE, W2, hg, hW, hM2⟩ := hM.runE
        clear hM
        go_simp
        refine hK.out _ _ True.intro (fun hHeld => ?_)
        clear hK K
        try simp only [Act.put, List.setIfInBounds_toArray, List.set_cons_zero, List.set_cons_succ]
        rw [← hg, ← hW]
        clear hg hW
        rename World => W
        rename Mk _ _ _ _ _ _ _ _ _ => hM
        refine wpAnyH_ready (rs := [2, 5, 10]) (by kernel_rfl) (by simp) ?_
        refine AllReadyH.cons rfl (fun K hK => ?_) (AllReadyH.cons rfl (fun K hK => ?_) (AllReadyH.cons rfl (fun K hK => ?_) AllReadyH.nil))
        · obtain ⟨aQ, cQ, W2, hr, hM2⟩ := hM.runEQ cap hn (HRd.out _ hM.below)
          clear hM
          refine wp_appD (by kernel_rfl) (some 7) (.tmp 5) (.tmp 6) 28 _ _ _ rfl rfl rfl rfl rfl hr ?_
          clear hr
          refine hK.out _ _ True.intro (fun hHeld => ?_)
          clear hK K
          try simp only [Act.put, List.setIfInBounds_toArray, List.set_cons_zero, List.set_cons_succ]
          rename World => W
          rename Mk _ _ _ _ _ _ _ _ _ => hM
          refine wpAnyH_ready (rs := [5, 10]) (by kernel_rfl) (by simp) ?_
          refine AllReadyH.cons rfl (fun K hK => ?_) (AllReadyH.cons rfl (fun K hK => ?_) AllReadyH.nil)
          · obtain ⟨gD, W2, hr, hM2⟩ := hM.runD hn
            clear hM
            refine wp_makeD (by kernel_rfl) (some 10) (.tmp 9) 28 _ _ rfl rfl rfl hr ?_
            clear hr
            refine hK.out _ _ True.intro (fun hHeld => ?_)
            clear hK K
            try simp only [Act.put, List.setIfInBounds_toArray, List.set_cons_zero, List.set_cons_succ]
            rename World => W
            rename Mk _ _ _ _ _ _ _ _ _ => hM
            refine takeD (i := 9) (some 14) (v := ?_) rfl rfl (by kernel_rfl) (by kernel_rfl) (by kernel_rfl) (fun _ _ _ h => absurd h.1 (by simp)) (by kernel_rfl) ?_ (by assumption) ?_
            rotate_left
            · intro wx hSw
              try dsimp only at hSw
              go_simp
              try (with_reducible rfl)
            try simp only [Act.put, List.setIfInBounds_toArray, List.set_cons_zero, List.set_cons_succ]
            refine wpAnyH_ready (rs := [10]) (by kernel_rfl) (by simp) ?_
            refine AllReadyH.cons rfl (fun K hK => ?_) AllReadyH.nil
            · obtain ⟨gB, W2, hg, hW, hM2⟩ := hM.runB
              clear hM
              go_simp
              refine hK.out _ _ True.intro (fun hHeld => ?_)
              clear hK K
              try simp only [Act.put, List.setIfInBounds_toArray, List.set_cons_zero, List.set_cons_succ]
              rw [← hg, ← hW]
              clear hg hW
              rename World => W
              rename Mk _ _ _ _ _ _ _ _ _ => hM
              have cB := blk_cell (hM.b gB rfl).2
              have fB := blk_free (hM.b gB rfl).2
              unfold zRound at cB
              refine wpAnyH_ready (rs := [11]) (by kernel_rfl) (by simp) ?_
              refine AllReadyH.cons rfl (fun K hK => ?_) AllReadyH.nil
              go_simp
              refine hK.out _ _ True.intro (fun hHeld => ?_)
              clear hK K
              try simp only [Act.put, List.setIfInBounds_toArray, List.set_cons_zero, List.set_cons_succ]
              refine wpAnyH_done (by kernel_rfl) ?_ _
              exact ⟨rfl, aQ, cQ, gD, gS, gB, gE, W, hM, rfl, rfl⟩
          · obtain ⟨gB, W2, hg, hW, hM2⟩ := hM.runB
            clear hM
            go_simp
            refine hK.out _ _ True.intro (fun hHeld => ?_)
            clear hK K
            try simp only [Act.put, List.setIfInBounds_toArray, List.set_cons_zero, List.set_cons_succ]
            rw [← hg, ← hW]
            clear hg hW
            rename World => W
            rename Mk _ _ _ _ _ _ _ _ _ => hM
            refine wpAnyH_ready (rs := [5]) (by kernel_rfl) (by simp) ?_
            refine AllReadyH.cons rfl (fun K hK => ?_) AllReadyH.nil
            · obtain ⟨gD, W2, hr, hM2⟩ := hM.runD hn
              clear hM
              refine wp_makeD (by kernel_rfl) (some 10) (.tmp 9) 28 _ _ rfl rfl rfl hr ?_
              clear hr
              refine hK.out _ _ True.intro (fun hHeld => ?_)
              clear hK K
              try simp only [Act.put, List.setIfInBounds_toArray, List.set_cons_zero, List.set_cons_succ]
              rename World => W
              rename Mk _ _ _ _ _ _ _ _ _ => hM
              refine takeD (i := 9) (some 14) (v := ?_) rfl rfl (by kernel_rfl) (by kernel_rfl) (by kernel_rfl) (fun _ _ _ h => absurd h.1 (by simp)) (by kernel_rfl) ?_ (by assumption) ?_
              rotate_left
              · intro wx hSw
                try dsimp only at hSw
                go_simp
                try (with_reducible rfl)
              try simp only [Act.put, List.setIfInBounds_toArray, List.set_cons_zero, List.set_cons_succ]
              have cB := blk_cell (hM.b gB rfl).2
              have fB := blk_free (hM.b gB rfl).2
              unfold zRound at cB
              refine wpAnyH_ready (rs := [11]) (by kernel_rfl) (by simp) ?_
              refine AllReadyH.cons rfl (fun K hK => ?_) AllReadyH.nil
              go_simp
              refine hK.out _ _ True.intro (fun hHeld => ?_)
              clear hK K
              try simp only [Act.put, List.setIfInBounds_toArray, List.set_cons_zero, List.set_cons_succ]
              refine wpAnyH_done (by kernel_rfl) ?_ _
              exact ⟨rfl, aQ, cQ, gD, gS, gB, gE, W, hM, rfl, rfl⟩
        · obtain ⟨gD, W2, hr, hM2⟩ := hM.runD hn
          clear hM
          refine wp_makeD (by kernel_rfl) (some 10) (.tmp 9) 28 _ _ rfl rfl rfl hr ?_
          clear hr
          refine hK.out _ _ True.intro (fun hHeld => ?_)
          clear hK K
          try simp only [Act.put, List.setIfInBounds_toArray, List.set_cons_zero, List.set_cons_succ]
          rename World => W
          rename Mk _ _ _ _ _ _ _ _ _ => hM
          refine wpAnyH_ready (rs := [2, 10]) (by kernel_rfl) (by simp) ?_
          refine AllReadyH.cons rfl (fun K hK => ?_) (AllReadyH.cons rfl (fun K hK => ?_) AllReadyH.nil)
          · obtain ⟨aQ, cQ, W2, hr, hM2⟩ := hM.runEQ cap hn (HRd.out _ hM.below)
            clear hM
            refine wp_appD (by kernel_rfl) (some 7) (.tmp 5) (.tmp 6) 28 _ _ _ rfl rfl rfl rfl rfl hr ?_
            clear hr
            refine hK.out _ _ True.intro (fun hHeld => ?_)
            clear hK K
            try simp only [Act.put, List.setIfInBounds_toArray, List.set_cons_zero, List.set_cons_succ]
            rename World => W
            rename Mk _ _ _ _ _ _ _ _ _ => hM
            refine takeD (i := 9) (some 14) (v := ?_) rfl rfl (by kernel_rfl) (by kernel_rfl) (by kernel_rfl) (fun _ _ _ h => absurd h.1 (by simp)) (by kernel_rfl) ?_ (by assumption) ?_
            rotate_left
            · intro wx hSw
              try dsimp only at hSw
              go_simp
              try (with_reducible rfl)
            try simp only [Act.put, List.setIfInBounds_toArray, List.set_cons_zero, List.set_cons_succ]
            refine wpAnyH_ready (rs := [10]) (by kernel_rfl) (by simp) ?_
            refine AllReadyH.cons rfl (fun K hK => ?_) AllReadyH.nil
            · obtain ⟨gB, W2, hg, hW, hM2⟩ := hM.runB
              clear hM
              go_simp
              refine hK.out _ _ True.intro (fun hHeld => ?_)
              clear hK K
              try simp only [Act.put, List.setIfInBounds_toArray, List.set_cons_zero, List.set_cons_succ]
              rw [← hg, ← hW]
              clear hg hW
              rename World => W
              rename Mk _ _ _ _ _ _ _ _ _ => hM
              have cB := blk_cell (hM.b gB rfl).2
              have fB := blk_free (hM.b gB rfl).2
              unfold zRound at cB
              refine wpAnyH_ready (rs := [11]) (by kernel_rfl) (by simp) ?_
              refine AllReadyH.cons rfl (fun K hK => ?_) AllReadyH.nil
              go_simp
              refine hK.out _ _ True.intro (fun hHeld => ?_)
              clear hK K
              try simp only [Act.put, List.setIfInBounds_toArray, List.set_cons_zero, List.set_cons_succ]
              refine wpAnyH_done (by kernel_rfl) ?_ _
              exact ⟨rfl, aQ, cQ, gD, gS, gB, gE, W, hM, rfl, rfl⟩
          · obtain ⟨gB, W2, hg, hW, hM2⟩ := hM.runB
            clear hM
            go_simp
            refine hK.out _ _ True.intro (fun hHeld => ?_)
            clear hK K
            try simp only [Act.put, List.setIfInBounds_toArray, List.set_cons_zero, List.set_cons_succ]
            rw [← hg, ← hW]
            clear hg hW
            rename World => W
            rename Mk _ _ _ _ _ _ _ _ _ => hM
            refine wpAnyH_ready (rs := [2]) (by kernel_rfl) (by simp) ?_
            refine AllReadyH.cons rfl (fun K hK => ?_) AllReadyH.nil
            · obtain ⟨aQ, cQ, W2, hr, hM2⟩ := hM.runEQ cap hn (HRd.out _ hM.below)
              clear hM
              refine wp_appD (by kernel_rfl) (some 7) (.tmp 5) (.tmp 6) 28 _ _ _ rfl rfl rfl rfl rfl hr ?_
              clear hr
              refine hK.out _ _ True.intro (fun hHeld => ?_)
              clear hK K
              try simp only [Act.put, List.setIfInBounds_toArray, List.set_cons_zero, List.set_cons_succ]
              rename World => W
              rename Mk _ _ _ _ _ _ _ _ _ => hM
              refine takeD (i := 9) (some 14) (v := ?_) rfl rfl (by kernel_rfl) (by kernel_rfl) (by kernel_rfl) (fun _ _ _ h => absurd h.1 (by simp)) (by kernel_rfl) ?_ (by assumption) ?_
              rotate_left
              · intro wx hSw
                try dsimp only at hSw
                go_simp
                try (with_reducible rfl)
              try simp only [Act.put, List.setIfInBounds_toArray, List.set_cons_zero, List.set_cons_succ]
              have cB := blk_cell (hM.b gB rfl).2
              have fB := blk_free (hM.b gB rfl).2
              unfold zRound at cB
              refine wpAnyH_ready (rs := [11]) (by kernel_rfl) (by simp) ?_
              refine AllReadyH.cons rfl (fun K hK => ?_) AllReadyH.nil
              go_simp
              refine hK.out _ _ True.intro (fun hHeld => ?_)
              clear hK K
              try simp only [Act.put, List.setIfInBounds_toArray, List.set_cons_zero, List.set_cons_succ]
              refine wpAnyH_done (by kernel_rfl) ?_ _
              exact ⟨rfl, aQ, cQ, gD, gS, gB, gE, W, hM, rfl, rfl⟩
        · obtain ⟨gB, W2, hg, hW, hM2⟩ := hM.runB
          clear hM
          go_simp
          refine hK.out _ _ True.intro (fun hHeld => ?_)
          clear hK K
          try simp only [Act.put, List.setIfInBounds_toArray, List.set_cons_zero, List.set_cons_succ]
          rw [← hg, ← hW]
          clear hg hW
          rename World => W
          rename Mk _ _ _ _ _ _ _ _ _ => hM
          refine wpAnyH_ready (rs := [2, 5]) (by kernel_rfl) (by simp) ?_
          refine AllReadyH.cons rfl (fun K hK => ?_) (AllReadyH.cons rfl (fun K hK => ?_) AllReadyH.nil)
          · obtain ⟨aQ, cQ, W2, hr, hM2⟩ := hM.runEQ cap hn (HRd.out _ hM.below)
            clear hM
            refine wp_appD (by kernel_rfl) (some 7) (.tmp 5) (.tmp 6) 28 _ _ _ rfl rfl rfl rfl rfl hr ?_
            clear hr
            refine hK.out _ _ True.intro (fun hHeld => ?_)
            clear hK K
            try simp only [Act.put, List.setIfInBounds_toArray, List.set_cons_zero, List.set_cons_succ]
            rename World => W
            rename Mk _ _ _ _ _ _ _ _ _ => hM
            refine wpAnyH_ready (rs := [5]) (by kernel_rfl) (by simp) ?_
            refine AllReadyH.cons rfl (fun K hK => ?_) AllReadyH.nil
            · obtain ⟨gD, W2, hr, hM2⟩ := hM.runD hn
              clear hM
              refine wp_makeD (by kernel_rfl) (some 10) (.tmp 9) 28 _ _ rfl rfl rfl hr ?_
              clear hr
              refine hK.out _ _ True.intro (fun hHeld => ?_)
              clear hK K
              try simp only [Act.put, List.setIfInBounds_toArray, List.set_cons_zero, List.set_cons_succ]
              rename World => W
              rename Mk _ _ _ _ _ _ _ _ _ => hM
              refine takeD (i := 9) (some 14) (v := ?_) rfl rfl (by kernel_rfl) (by kernel_rfl) (by kernel_rfl) (fun _ _ _ h => absurd h.1 (by simp)) (by kernel_rfl) ?_ (by assumption) ?_
              rotate_left
              · intro wx hSw
                try dsimp only at hSw
                go_simp
                try (with_reducible rfl)
              try simp only [Act.put, List.setIfInBounds_toArray, List.set_cons_zero, List.set_cons_succ]
              have cB := blk_cell (hM.b gB rfl).2
              have fB := blk_free (hM.b gB rfl).2
              unfold zRound at cB
              refine wpAnyH_ready (rs := [11]) (by kernel_rfl) (by simp) ?_
              refine AllReadyH.cons rfl (fun K hK => ?_) AllReadyH.nil
              go_simp
              refine hK.out _ _ True.intro (fun hHeld => ?_)
              clear hK K
              try simp only [Act.put, List.setIfInBounds_toArray, List.set_cons_zero, List.set_cons_succ]
              refine wpAnyH_done (by kernel_rfl) ?_ _
              exact ⟨rfl, aQ, cQ, gD, gS, gB, gE, W, hM, rfl, rfl⟩
          · obtain ⟨gD, W2, hr, hM2⟩ := hM.runD hn
            clear hM
            refine wp_makeD (by kernel_rfl) (some 10) (.tmp 9) 28 _ _ rfl rfl rfl hr ?_
            clear hr
            refine hK.out _ _ True.intro (fun hHeld => ?_)
            clear hK K
            try simp only [Act.put, List.setIfInBounds_toArray, List.set_cons_zero, List.set_cons_succ]
            rename World => W
            rename Mk _ _ _ _ _ _ _ _ _ => hM
            refine wpAnyH_ready (rs := [2]) (by kernel_rfl) (by simp) ?_
            refine AllReadyH.cons rfl (fun K hK => ?_) AllReadyH.nil
            · obtain ⟨aQ, cQ, W2, hr, hM2⟩ := hM.runEQ cap hn (HRd.out _ hM.below)
              clear hM
              refine wp_appD (by kernel_rfl) (some 7) (.tmp 5) (.tmp 6) 28 _ _ _ rfl rfl rfl rfl rfl hr ?_
              clear hr
              refine hK.out _ _ True.intro (fun hHeld => ?_)
              clear hK K
              try simp only [Act.put, List.setIfInBounds_toArray, List.set_cons_zero, List.set_cons_succ]
              rename World => W
              rename Mk _ _ _ _ _ _ _ _ _ => hM
              refine takeD (i := 9) (some 14) (v := ?_) rfl rfl (by kernel_rfl) (by kernel_rfl) (by kernel_rfl) (fun _ _ _ h => absurd h.1 (by simp)) (by kernel_rfl) ?_ (by assumption) ?_
              rotate_left
              · intro wx hSw
                try dsimp only at hSw
                go_simp
                try (with_reducible rfl)
              try simp only [Act.put, List.setIfInBounds_toArray, List.set_cons_zero, List.set_cons_succ]
              have cB := blk_cell (hM.b gB rfl).2
              have fB := blk_free (hM.b gB rfl).2
              unfold zRound at cB
              refine wpAnyH_ready (rs := [11]) (by kernel_rfl) (by simp) ?_
              refine AllReadyH.cons rfl (fun K hK => ?_) AllReadyH.nil
              go_simp
              refine hK.out _ _ True.intro (fun hHeld => ?_)
              clear hK K
              try simp only [Act.put, List.setIfInBounds_toArray, List.set_cons_zero, List.set_cons_succ]
              refine wpAnyH_done (by kernel_rfl) ?_ _
              exact ⟨rfl, aQ, cQ, gD, gS, gB, gE, W, hM, rfl, rfl⟩
      · obtain ⟨gD, W2, hr, hM2⟩ := hM.runD hn
        clear hM
        refine wp_makeD (by kernel_rfl) (some 10) (.tmp 9) 28 _ _ rfl rfl rfl hr ?_
        clear hr
        refine hK.out _ _ True.intro (fun hHeld => ?_)
        clear hK K
        try simp only [Act.put, List.setIfInBounds_toArray, List.set_cons_zero, List.set_cons_succ]
        rename World => W
        rename Mk _ _ _ _ _ _ _ _ _ => hM
        refine wpAnyH_ready (rs := [0, 10]) (by kernel_rfl) (by simp) ?_
        refine AllReadyH.cons rfl (fun K hK => ?_) (AllReadyH.cons rfl (fun K hK => ?_) AllReadyH.nil)
        · obtain ⟨gE, W2, hg, hW, hM2⟩ := hM.runE
          clear hM
          go_simp
          refine hK.out _ _ True.intro (fun hHeld => ?_)
          clear hK K
          try simp only [Act.put, List.setIfInBounds_toArray, List.set_cons_zero, List.set_cons_succ]
          rw [← hg, ← hW]
          clear hg hW
          rename World => W
          rename Mk _ _ _ _ _ _ _ _ _ => hM
          refine wpAnyH_ready (rs := [2, 10]) (by kernel_rfl) (by simp) ?_
          refine AllReadyH.cons rfl (fun K hK => ?_) (AllReadyH.cons rfl (fun K hK => ?_) AllReadyH.nil)
          · obtain ⟨aQ, cQ, W2, hr, hM2⟩ := hM.runEQ cap hn (HRd.out _ hM.below)
            clear hM
            refine wp_appD (by kernel_rfl) (some 7) (.tmp 5) (.tmp 6) 28 _ _ _ rfl rfl rfl rfl rfl hr ?_
            clear hr
            refine hK.out _ _ True.intro (fun hHeld => ?_)
            clear hK K
            try simp only [Act.put, List.setIfInBounds_toArray, List.set_cons_zero, List.set_cons_succ]
            rename World => W
            rename Mk _ _ _ _ _ _ _ _ _ => hM
            refine takeD (i := 9) (some 14) (v := ?_) rfl rfl (by kernel_rfl) (by kernel_rfl) (by kernel_rfl) (fun _ _ _ h => absurd h.1 (by simp)) (by kernel_rfl) ?_ (by assumption) ?_
            rotate_left
            · intro wx hSw
              try dsimp only at hSw
              go_simp
              try (with_reducible rfl)
            try simp only [Act.put, List.setIfInBounds_toArray, List.set_cons_zero, List.set_cons_succ]
            refine wpAnyH_ready (rs := [10]) (by kernel_rfl) (by simp) ?_
            refine AllReadyH.cons rfl (fun K hK => ?_) AllReadyH.nil
            · obtain ⟨gB, W2, hg, hW, hM2⟩ := hM.runB
              clear hM
              go_simp
              refine hK.out _ _ True.intro (fun hHeld => ?_)
              clear hK K
              try simp only [Act.put, List.setIfInBounds_toArray, List.set_cons_zero, List.set_cons_succ]
              rw [← hg, ← hW]
              clear hg hW
              rename World => W
              rename Mk _ _ _ _ _ _ _ _ _ => hM
              have cB := blk_cell (hM.b gB rfl).2
              have fB := blk_free (hM.b gB rfl).2
              unfold zRound at cB
              refine wpAnyH_ready (rs := [11]) (by kernel_rfl) (by simp) ?_
              refine AllReadyH.cons rfl (fun K hK => ?_) AllReadyH.nil
              go_simp
              refine hK.out _ _ True.intro (fun hHeld => ?_)
              clear hK K
              try simp only [Act.put, List.setIfInBounds_toArray, List.set_cons_zero, List.set_cons_succ]
              refine wpAnyH_done (by kernel_rfl) ?_ _
              exact ⟨rfl, aQ, cQ, gD, gS, gB, gE, W, hM, rfl, rfl⟩
          · obtain ⟨gB, W2, hg, hW, hM2⟩ := hM.runB
            clear hM
            go_simp
            refine hK.out _ _ True.intro (fun hHeld => ?_)
            clear hK K
            try simp only [Act.put, List.setIfInBounds_toArray, List.set_cons_zero, List.set_cons_succ]
            rw [← hg, ← hW]
            clear hg hW
            rename World => W
            rename Mk _ _ _ _ _ _ _ _ _ => hM
            refine wpAnyH_ready (rs := [2]) (by kernel_rfl) (by simp) ?_
            refine AllReadyH.cons rfl (fun K hK => ?_) AllReadyH.nil
            · obtain ⟨aQ, cQ, W2, hr, hM2⟩ := hM.runEQ cap hn (HRd.out _ hM.below)
              clear hM
              refine wp_appD (by kernel_rfl) (some 7) (.tmp 5) (.tmp 6) 28 _ _ _ rfl rfl rfl rfl rfl hr ?_
              clear hr
              refine hK.out _ _ True.intro (fun hHeld => ?_)
              clear hK K
              try simp only [Act.put, List.setIfInBounds_toArray, List.set_cons_zero, List.set_cons_succ]
              rename World => W
              rename Mk _ _ _ _ _ _ _ _ _ => hM
              refine takeD (i := 9) (some 14) (v := ?_) rfl rfl (by kernel_rfl) (by kernel_rfl) (by kernel_rfl) (fun _ _ _ h => absurd h.1 (by simp)) (by kernel_rfl) ?_ (by assumption) ?_
              rotate_left
              · intro wx hSw
                try dsimp only at hSw
                go_simp
                try (with_reducible rfl)
              try simp only [Act.put, List.setIfInBounds_toArray, List.set_cons_zero, List.set_cons_succ]
              have cB := blk_cell (hM.b gB rfl).2
              have fB := blk_free (hM.b gB rfl).2
              unfold zRound at cB
              refine wpAnyH_ready (rs := [11]) (by kernel_rfl) (by simp) ?_
              refine AllReadyH.cons rfl (fun K hK => ?_) AllReadyH.nil
              go_simp
              refine hK.out _ _ True.intro (fun hHeld => ?_)
              clear hK K
              try simp only [Act.put, List.setIfInBounds_toArray, List.set_cons_zero, List.set_cons_succ]
              refine wpAnyH_done (by kernel_rfl) ?_ _
              exact ⟨rfl, aQ, cQ, gD, gS, gB, gE, W, hM, rfl, rfl⟩
        · obtain ⟨gB, W2, hg, hW, hM2⟩ := hM.runB
          clear hM
          go_simp
          refine hK.out _ _ True.intro (fun hHeld => ?_)
          clear hK K
          try simp only [Act.put, List.setIfInBounds_toArray, List.set_cons_zero, List.set_cons_succ]
          rw [← hg, ← hW]
          clear hg hW
          rename World => W
          rename Mk _ _ _ _ _ _ _ _ _ => hM
          refine wpAnyH_ready (rs := [0]) (by kernel_rfl) (by simp) ?_
          refine AllReadyH.cons rfl (fun K hK => ?_) AllReadyH.nil
          · obtain ⟨gE, W2, hg, hW, hM2⟩ := hM.runE
            clear hM
            go_simp
            refine hK.out _ _ True.intro (fun hHeld => ?_)
            clear hK K
            try simp only [Act.put, List.setIfInBounds_toArray, List.set_cons_zero, List.set_cons_succ]
            rw [← hg, ← hW]
            clear hg hW
            rename World => W
            rename Mk _ _ _ _ _ _ _ _ _ => hM
            refine wpAnyH_ready (rs := [2]) (by kernel_rfl) (by simp) ?_
            refine AllReadyH.cons rfl (fun K hK => ?_) AllReadyH.nil
            · obtain ⟨aQ, cQ, W2, hr, hM2⟩ := hM.runEQ cap hn (HRd.out _ hM.below)
              clear hM
              refine wp_appD (by kernel_rfl) (some 7) (.tmp 5) (.tmp 6) 28 _ _ _ rfl rfl rfl rfl rfl hr ?_
              clear hr
              refine hK.out _ _ True.intro (fun hHeld => ?_)
              clear hK K
              try simp only [Act.put, List.setIfInBounds_toArray, List.set_cons_zero, List.set_cons_succ]
              rename World => W
              rename Mk _ _ _ _ _ _ _ _ _ => hM
              refine takeD (i := 9) (some 14) (v := ?_) rfl rfl (by kernel_rfl) (by kernel_rfl) (by kernel_rfl) (fun _ _ _ h => absurd h.1 (by simp)) (by kernel_rfl) ?_ (by assumption) ?_
              rotate_left
              · intro wx hSw
                try dsimp only at hSw
                go_simp
                try (with_reducible rfl)
              try simp only [Act.put, List.setIfInBounds_toArray, List.set_cons_zero, List.set_cons_succ]
              have cB := blk_cell (hM.b gB rfl).2
              have fB := blk_free (hM.b gB rfl).2
              unfold zRound at cB
              refine wpAnyH_ready (rs := [11]) (by kernel_rfl) (by simp) ?_
              refine AllReadyH.cons rfl (fun K hK => ?_) AllReadyH.nil
              go_simp
              refine hK.out _ _ True.intro (fun hHeld => ?_)
              clear hK K
              try simp only [Act.put, List.setIfInBounds_toArray, List.set_cons_zero, List.set_cons_succ]
              refine wpAnyH_done (by kernel_rfl) ?_ _
              exact ⟨rfl, aQ, cQ, gD, gS, gB, gE, W, hM, rfl, rfl⟩
      · obtain ⟨gB, W2, hg, hW, hM2⟩ := hM.runB
        clear hM
        go_simp
        refine hK.out _ _ True.intro (fun hHeld => ?_)
        clear hK K
        try simp only [Act.put, List.setIfInBounds_toArray, List.set_cons_zero, List.set_cons_succ]
        rw [← hg, ← hW]
        clear hg hW
        rename World => W
        rename Mk _ _ _ _ _ _ _ _ _ => hM
        refine wpAnyH_ready (rs := [0, 5]) (by kernel_rfl) (by simp) ?_
        refine AllReadyH.cons rfl (fun K hK => ?_) (AllReadyH.cons rfl (fun K hK => ?_) AllReadyH.nil)
        · obtain ⟨gE, W2, hg, hW, hM2⟩ := hM.runE
          clear hM
          go_simp
          refine hK.out _ _ True.intro (fun hHeld => ?_)
          clear hK K
          try simp only [Act.put, List.setIfInBounds_toArray, List.set_cons_zero, List.set_cons_succ]
          rw [← hg, ← hW]
          clear hg hW
          rename World => W
          rename Mk _ _ _ _ _ _ _ _ _ => hM
          refine wpAnyH_ready (rs := [2, 5]) (by kernel_rfl) (by simp) ?_
          refine AllReadyH.cons rfl (fun K hK => ?_) (AllReadyH.cons rfl (fun K hK => ?_) AllReadyH.nil)
          · obtain ⟨aQ, cQ, W2, hr, hM2⟩ := hM.runEQ cap hn (HRd.out _ hM.below)
            clear hM
            refine wp_appD (by kernel_rfl) (some 7) (.tmp 5) (.tmp 6) 28 _ _ _ rfl rfl rfl rfl rfl hr ?_
            clear hr
            refine hK.out _ _ True.intro (fun hHeld => ?_)
            clear hK K
            try simp only [Act.put, List.setIfInBounds_toArray, List.set_cons_zero, List.set_cons_succ]
            rename World => W
            rename Mk _ _ _ _ _ _ _ _ _ => hM
            refine wpAnyH_ready (rs := [5]) (by kernel_rfl) (by simp) ?_
            refine AllReadyH.cons rfl (fun K hK => ?_) AllReadyH.nil
            · obtain ⟨gD, W2, hr, hM2⟩ := hM.runD hn
              clear hM
              refine wp_makeD (by kernel_rfl) (some 10) (.tmp 9) 28 _ _ rfl rfl rfl hr ?_
              clear hr
              refine hK.out _ _ True.intro (fun hHeld => ?_)
              clear hK K
              try simp only [Act.put, List.setIfInBounds_toArray, List.set_cons_zero, List.set_cons_succ]
              rename World => W
              rename Mk _ _ _ _ _ _ _ _ _ => hM
              refine takeD (i := 9) (some 14) (v := ?_) rfl rfl (by kernel_rfl) (by kernel_rfl) (by kernel_rfl) (fun _ _ _ h => absurd h.1 (by simp)) (by kernel_rfl) ?_ (by assumption) ?_
              rotate_left
              · intro wx hSw
                try dsimp only at hSw
                go_simp
                try (with_reducible rfl)
              try simp only [Act.put, List.setIfInBounds_toArray, List.set_cons_zero, List.set_cons_succ]
              have cB := blk_cell (hM.b gB rfl).2
              have fB := blk_free (hM.b gB rfl).2
              unfold zRound at cB
              refine wpAnyH_ready (rs := [11]) (by kernel_rfl) (by simp) ?_
              refine AllReadyH.cons rfl (fun K hK => ?_) AllReadyH.nil
              go_simp
              refine hK.out _ _ True.intro (fun hHeld => ?_)
              clear hK K
              try simp only [Act.put, List.setIfInBounds_toArray, List.set_cons_zero, List.set_cons_succ]
              refine wpAnyH_done (by kernel_rfl) ?_ _
              exact ⟨rfl, aQ, cQ, gD, gS, gB, gE, W, hM, rfl, rfl⟩
          · obtain ⟨gD, W2, hr, hM2⟩ := hM.runD hn
            clear hM
            refine wp_makeD (by kernel_rfl) (some 10) (.tmp 9) 28 _ _ rfl rfl rfl hr ?_
            clear hr
            refine hK.out _ _ True.intro (fun hHeld => ?_)
            clear hK K
            try simp only [Act.put, List.setIfInBounds_toArray, List.set_cons_zero, List.set_cons_succ]
            rename World => W
            rename Mk _ _ _ _ _ _ _ _ _ => hM
            refine wpAnyH_ready (rs := [2]) (by kernel_rfl) (by simp) ?_
            refine AllReadyH.cons rfl (fun K hK => ?_) AllReadyH.nil
            · obtain ⟨aQ, cQ, W2, hr, hM2⟩ := hM.runEQ cap hn (HRd.out _ hM.below)
              clear hM
              refine wp_appD (by kernel_rfl) (some 7) (.tmp 5) (.tmp 6) 28 _ _ _ rfl rfl rfl rfl rfl hr ?_
              clear hr
              refine hK.out _ _ True.intro (fun hHeld => ?_)
              clear hK K
              try simp only [Act.put, List.setIfInBounds_toArray, List.set_cons_zero, List.set_cons_succ]
              rename World => W
              rename Mk _ _ _ _ _ _ _ _ _ => hM
              refine takeD (i := 9) (some 14) (v := ?_) rfl rfl (by kernel_rfl) (by kernel_rfl) (by kernel_rfl) (fun _ _ _ h => absurd h.1 (by simp)) (by kernel_rfl) ?_ (by assumption) ?_
              rotate_left
              · intro wx hSw
                try dsimp only at hSw
                go_simp
                try (with_reducible rfl)
              try simp only [Act.put, List.setIfInBounds_toArray, List.set_cons_zero, List.set_cons_succ]
              have cB := blk_cell (hM.b gB rfl).2
              have fB := blk_free (hM.b gB rfl).2
              unfold zRound at cB
              refine wpAnyH_ready (rs := [11]) (by kernel_rfl) (by simp) ?_
              refine AllReadyH.cons rfl (fun K hK => ?_) AllReadyH.nil
              go_simp
              refine hK.out _ _ True.intro (fun hHeld => ?_)
              clear hK K
              try simp only [Act.put, List.setIfInBounds_toArray, List.set_cons_zero, List.set_cons_succ]
              refine wpAnyH_done (by kernel_rfl) ?_ _
              exact ⟨rfl, aQ, cQ, gD, gS, gB, gE, W, hM, rfl, rfl⟩
        · obtain ⟨gD, W2, hr, hM2⟩ := hM.runD hn
          clear hM
          refine wp_makeD (by kernel_rfl) (some 10) (.tmp 9) 28 _ _ rfl rfl rfl hr ?_
          clear hr
          refine hK.out _ _ True.intro (fun hHeld => ?_)
          clear hK K
          try simp only [Act.put, List.setIfInBounds_toArray, List.set_cons_zero, List.set_cons_succ]
          rename World => W
          rename Mk _ _ _ _ _ _ _ _ _ => hM
          refine wpAnyH_ready (rs := [0]) (by kernel_rfl) (by simp) ?_
          refine AllReadyH.cons rfl (fun K hK => ?_) AllReadyH.nil
          · obtain ⟨gE, W2, hg, hW, hM2⟩ := hM.runE
            clear hM
            go_simp
            refine hK.out _ _ True.intro (fun hHeld => ?_)
            clear hK K
            try simp only [Act.put, List.setIfInBounds_toArray, List.set_cons_zero, List.set_cons_succ]
            rw [← hg, ← hW]
            clear hg hW
            rename World => W
            rename Mk _ _ _ _ _ _ _ _ _ => hM
            refine wpAnyH_ready (rs := [2]) (by kernel_rfl) (by simp) ?_
            refine AllReadyH.cons rfl (fun K hK => ?_) AllReadyH.nil
            · obtain ⟨aQ, cQ, W2, hr, hM2⟩ := hM.runEQ cap hn (HRd.out _ hM.below)
              clear hM
              refine wp_appD (by kernel_rfl) (some 7) (.tmp 5) (.tmp 6) 28 _ _ _ rfl rfl rfl rfl rfl hr ?_
              clear hr
              refine hK.out _ _ True.intro (fun hHeld => ?_)
              clear hK K
              try simp only [Act.put, List.setIfInBounds_toArray, List.set_cons_zero, List.set_cons_succ]
              rename World => W
              rename Mk _ _ _ _ _ _ _ _ _ => hM
              refine takeD (i := 9) (some 14) (v := ?_) rfl rfl (by kernel_rfl) (by kernel_rfl) (by kernel_rfl) (fun _ _ _ h => absurd h.1 (by simp)) (by kernel_rfl) ?_ (by assumption) ?_
              rotate_left
              · intro wx hSw
                try dsimp only at hSw
                go_simp
                try (with_reducible rfl)
              try simp only [Act.put, List.setIfInBounds_toArray, List.set_cons_zero, List.set_cons_succ]
              have cB := blk_cell (hM.b gB rfl).2
              have fB := blk_free (hM.b gB rfl).2
              unfold zRound at cB
              refine wpAnyH_ready (rs := [11]) (by kernel_rfl) (by simp) ?_
              refine AllReadyH.cons rfl (fun K hK => ?_) AllReadyH.nil
              go_simp
              refine hK.out _ _ True.intro (fun hHeld => ?_)
              clear hK K
              try simp only [Act.put, List.setIfInBounds_toArray, List.set_cons_zero, List.set_cons_succ]
              refine wpAnyH_done (by kernel_rfl) ?_ _
              exact ⟨rfl, aQ, cQ, gD, gS, gB, gE, W, hM, rfl, rfl⟩
    · obtain ⟨gB, W2, hg, hW, hM2⟩ := hM.runB
      clear hM
      go_simp
      refine hK.out _ _ True.intro (fun hHeld => ?_)
      clear hK K
      try simp only [Act.put, List.setIfInBounds_toArray, List.set_cons_zero, List.set_cons_succ]
      rw [← hg, ← hW]
      clear hg hW
      rename World => W
      rename Mk _ _ _ _ _ _ _ _ _ => hM
      refine wpAnyH_ready (rs := [0, 5, 8]) (by kernel_rfl) (by simp) ?_
      refine AllReadyH.cons rfl (fun K hK => ?_) (AllReadyH.cons rfl (fun K hK => ?_) (AllReadyH.cons rfl (fun K hK => ?_) AllReadyH.nil))
      · obtain ⟨gE, W2, hg, hW, hM2⟩ := hM.runE
        clear hM
        go_simp
        refine hK.out _ _ True.intro (fun hHeld => ?_)
        clear hK K
        try simp only [Act.put, List.setIfInBounds_toArray, List.set_cons_zero, List.set_cons_succ]
        rw [← hg, ← hW]
        clear hg hW
        rename World => W
        rename Mk _ _ _ _ _ _ _ _ _ => hM
        refine wpAnyH_ready (rs := [2, 5, 8]) (by kernel_rfl) (by simp) ?_
        refine AllReadyH.cons rfl (fun K hK => ?_) (AllReadyH.cons rfl (fun K hK => ?_) (AllReadyH.cons rfl (fun K hK => ?_) AllReadyH.nil))
        · obtain ⟨aQ, cQ, W2, hr, hM2⟩ := hM.runEQ cap hn (HRd.out _ hM.below)
          clear hM
          refine wp_appD (by kernel_rfl) (some 7) (.tmp 5) (.tmp 6) 28 _ _ _ rfl rfl rfl rfl rfl hr ?_
          clear hr
          refine hK.out _ _ True.intro (fun hHeld => ?_)
          clear hK K
          try simp only [Act.put, List.setIfInBounds_toArray, List.set_cons_zero, List.set_cons_succ]
          rename World => W
          rename Mk _ _ _ _ _ _ _ _ _ => hM
          refine wpAnyH_ready (rs := [5, 8]) (by kernel_rfl) (by simp) ?_
          refine AllReadyH.cons rfl (fun K hK => ?_) (AllReadyH.cons rfl (fun K hK => ?_) AllReadyH.nil)
          · obtain ⟨gD, W2, hr, hM2⟩ := hM.runD hn
            clear hM
            refine wp_makeD (by kernel_rfl) (some 10) (.tmp 9) 28 _ _ rfl rfl rfl hr ?_
            clear hr
            refine hK.out _ _ True.intro (fun hHeld => ?_)
            clear hK K
            try simp only [Act.put, List.setIfInBounds_toArray, List.set_cons_zero, List.set_cons_succ]
            rename World => W
            rename Mk _ _ _ _ _ _ _ _ _ => hM
            refine wpAnyH_ready (rs := [8]) (by kernel_rfl) (by simp) ?_
            refine AllReadyH.cons rfl (fun K hK => ?_) AllReadyH.nil
            · obtain ⟨gS, W2, hr, hM2⟩ := hM.runS hn
              clear hM
              refine wp_makeD (by kernel_rfl) (some 13) (.tmp 12) 47 _ _ rfl rfl rfl hr ?_
              clear hr
              refine hK.out _ _ True.intro (fun hHeld => ?_)
              clear hK K
              try simp only [Act.put, List.setIfInBounds_toArray, List.set_cons_zero, List.set_cons_succ]
              rename World => W
              rename Mk _ _ _ _ _ _ _ _ _ => hM
              refine takeD (i := 9) (some 14) (v := ?_) rfl rfl (by kernel_rfl) (by kernel_rfl) (by kernel_rfl) (fun _ _ _ h => absurd h.1 (by simp)) (by kernel_rfl) ?_ (by assumption) ?_
              rotate_left
              · intro wx hSw
                try dsimp only at hSw
                go_simp
                try (with_reducible rfl)
              try simp only [Act.put, List.setIfInBounds_toArray, List.set_cons_zero, List.set_cons_succ]
              have cB := blk_cell (hM.b gB rfl).2
              have fB := blk_free (hM.b gB rfl).2
              unfold zRound at cB
              refine wpAnyH_ready (rs := [11]) (by kernel_rfl) (by simp) ?_
              refine AllReadyH.cons rfl (fun K hK => ?_) AllReadyH.nil
              go_simp
              refine hK.out _ _ True.intro (fun hHeld => ?_)
              clear hK K
              try simp only [Act.put, List.setIfInBounds_toArray, List.set_cons_zero, List.set_cons_succ]
              refine wpAnyH_done (by kernel_rfl) ?_ _
              exact ⟨rfl, aQ, cQ, gD, gS, gB, gE, W, hM, rfl, rfl⟩
          · obtain ⟨gS, W2, hr, hM2⟩ := hM.runS hn
            clear hM
            refine wp_makeD (by kernel_rfl) (some 13) (.tmp 12) 47 _ _ rfl rfl rfl hr ?_
            clear hr
            refine hK.out _ _ True.intro (fun hHeld => ?_)
            clear hK K
            try simp only [Act.put, List.setIfInBounds_toArray, List.set_cons_zero, List.set_cons_succ]
            rename World => W
            rename Mk _ _ _ _ _ _ _ _ _ => hM
            refine wpAnyH_ready (rs := [5]) (by kernel_rfl) (by simp) ?_
            refine AllReadyH.cons rfl (fun K hK => ?_) AllReadyH.nil
            · obtain ⟨gD, W2, hr, hM2⟩ := hM.runD hn
              clear hM
              refine wp_makeD (by kernel_rfl) (some 10) (.tmp 9) 28 _ _ rfl rfl rfl hr ?_
              clear hr
              refine hK.out _ _ True.intro (fun hHeld => ?_)
              clear hK K
              try simp only [Act.put, List.setIfInBounds_toArray, List.set_cons_zero, List.set_cons_succ]
              rename World => W
              rename Mk _ _ _ _ _ _ _ _ _ => hM
              refine takeD (i := 9) (some 14) (v := ?_) rfl rfl (by kernel_rfl) (by kernel_rfl) (by kernel_rfl) (fun _ _ _ h => absurd h.1 (by simp)) (by kernel_rfl) ?_ (by assumption) ?_
              rotate_left
              · intro wx hSw
                try dsimp only at hSw
                go_simp
                try (with_reducible rfl)
              try simp only [Act.put, List.setIfInBounds_toArray, List.set_cons_zero, List.set_cons_succ]
              have cB := blk_cell (hM.b gB rfl).2
              have fB := blk_free (hM.b gB rfl).2
              unfold zRound at cB
              refine wpAnyH_ready (rs := [11]) (by kernel_rfl) (by simp) ?_
              refine AllReadyH.cons rfl (fun K hK => ?_) AllReadyH.nil
              go_simp
              refine hK.out _ _ True.intro (fun hHeld => ?_)
              clear hK K
              try simp only [Act.put, List.setIfInBounds_toArray, List.set_cons_zero, List.set_cons_succ]
              refine wpAnyH_done (by kernel_rfl) ?_ _
              exact ⟨rfl, aQ, cQ, gD, gS, gB, gE, W, hM, rfl, rfl⟩
        · obtain ⟨gD, W2, hr, hM2⟩ := hM.runD hn
          clear hM
          refine wp_makeD (by kernel_rfl) (some 10) (.tmp 9) 28 _ _ rfl rfl rfl hr ?_
          clear hr
          refine hK.out _ _ True.intro (fun hHeld => ?_)
          clear hK K
          try simp only [Act.put, List.setIfInBounds_toArray, List.set_cons_zero, List.set_cons_succ]
          rename World => W
          rename Mk _ _ _ _ _ _ _ _ _ => hM
          refine wpAnyH_ready (rs := [2, 8]) (by kernel_rfl) (by simp) ?_
          refine AllReadyH.cons rfl (fun K hK => ?_) (AllReadyH.cons rfl (fun K hK => ?_) AllReadyH.nil)
          · obtain ⟨aQ, cQ, W2, hr, hM2⟩ := hM.runEQ cap hn (HRd.out _ hM.below)
            clear hM
            refine wp_appD (by kernel_rfl) (some 7) (.tmp 5) (.tmp 6) 28 _ _ _ rfl rfl rfl rfl rfl hr ?_
            clear hr
            refine hK.out _ _ True.intro (fun hHeld => ?_)
            clear hK K
            try simp only [Act.put, List.setIfInBounds_toArray, List.set_cons_zero, List.set_cons_succ]
            rename World => W
            rename Mk _ _ _ _ _ _ _ _ _ => hM
            refine wpAnyH_ready (rs := [8]) (by kernel_rfl) (by simp) ?_
            refine AllReadyH.cons rfl (fun K hK => ?_) AllReadyH.nil
            · obtain ⟨gS, W2, hr, hM2⟩ := hM.runS hn
              clear hM
              refine wp_makeD (by kernel_rfl) (some 13) (.tmp 12) 47 _ _ rfl rfl rfl hr ?_
              clear hr
              refine hK.out _ _ True.intro (fun hHeld => ?_)
              clear hK K
              try simp only [Act.put, List.setIfInBounds_toArray, List.set_cons_zero, List.set_cons_succ]
              rename World => W
              rename Mk _ _ _ _ _ _ _ _ _ => hM
              refine takeD (i := 9) (some 14) (v := ?_) rfl rfl (by kernel_rfl) (by kernel_rfl) (by kernel_rfl) (fun _ _ _ h => absurd h.1 (by simp)) (by kernel_rfl) ?_ (by assumption) ?_
              rotate_left
              · intro wx hSw
                try dsimp only at hSw
                go_simp
                try (with_reducible rfl)
              try simp only [Act.put, List.setIfInBounds_toArray, List.set_cons_zero, List.set_cons_succ]
              have cB := blk_cell (hM.b gB rfl).2
              have fB := blk_free (hM.b gB rfl).2
              unfold zRound at cB
              refine wpAnyH_ready (rs := [11]) (by kernel_rfl) (by simp) ?_
              refine AllReadyH.cons rfl (fun K hK => ?_) AllReadyH.nil
              go_simp
              refine hK.out _ _ True.intro (fun hHeld => ?_)
              clear hK K
              try simp only [Act.put, List.setIfInBounds_toArray, List.set_cons_zero, List.set_cons_succ]
              refine wpAnyH_done (by kernel_rfl) ?_ _
              exact ⟨rfl, aQ, cQ, gD, gS, gB, gE, W, hM, rfl, rfl⟩
          · obtain ⟨gS, W2, hr, hM2⟩ := hM.runS hn
            clear hM
            refine wp_makeD (by kernel_rfl) (some 13) (.tmp 12) 47 _ _ rfl rfl rfl hr ?_
            clear hr
            refine hK.out _ _ True.intro (fun hHeld => ?_)
            clear hK K
            try simp only [Act.put, List.setIfInBounds_toArray, List.set_cons_zero, List.set_cons_succ]
            rename World => W
            rename Mk _ _ _ _ _ _ _ _ _ => hM
            refine wpAnyH_ready (rs := [2]) (by kernel_rfl) (by simp) ?_
            refine AllReadyH.cons rfl (fun K hK => ?_) AllReadyH.nil
            · obtain ⟨aQ, cQ, W2, hr, hM2⟩ := hM.runEQ cap hn (HRd.out _ hM.below)
              clear hM
              refine wp_appD (by kernel_rfl) (some 7) (.tmp 5) (.tmp 6) 28 _ _ _ rfl rfl rfl rfl rfl hr ?_
              clear hr
              refine hK.out _ _ True.intro (fun hHeld => ?_)
              clear hK K
              try simp only [Act.put, List.setIfInBounds_toArray, List.set_cons_zero, List.set_cons_succ]
              rename World => W
              rename Mk _ _ _ _ _ _ _ _ _ => hM
              refine takeD (i := 9) (some 14) (v := ?_) rfl rfl (by kernel_rfl) (by kernel_rfl) (by kernel_rfl) (fun _ _ _ h => absurd h.1 (by simp)) (by kernel_rfl) ?_ (by assumption) ?_
              rotate_left
              · intro wx hSw
                try dsimp only at hSw
                go_simp
                try (with_reducible rfl)
              try simp only [Act.put, List.setIfInBounds_toArray, List.set_cons_zero, List.set_cons_succ]
              have cB := blk_cell (hM.b gB rfl).2
              have fB := blk_free (hM.b gB rfl).2
              unfold zRound at cB
              refine wpAnyH_ready (rs := [11]) (by kernel_rfl) (by simp) ?_
              refine AllReadyH.cons rfl (fun K hK => ?_) AllReadyH.nil
              go_simp
              refine hK.out _ _ True.intro (fun hHeld => ?_)
              clear hK K
              try simp only [Act.put, List.setIfInBounds_toArray, List.set_cons_zero, List.set_cons_succ]
              refine wpAnyH_done (by kernel_rfl) ?_ _
              exact ⟨rfl, aQ, cQ, gD, gS, gB, gE, W, hM, rfl, rfl⟩
        · obtain ⟨gS, W2, hr, hM2⟩ := hM.runS hn
          clear hM
          refine wp_makeD (by kernel_rfl) (some 13) (.tmp 12) 47 _ _ rfl rfl rfl hr ?_
          clear hr
          refine hK.out _ _ True.intro (fun hHeld => ?_)
          clear hK K
          try simp only [Act.put, List.setIfInBounds_toArray, List.set_cons_zero, List.set_cons_succ]
          rename World => W
          rename Mk _ _ _ _ _ _ _ _ _ => hM
          refine wpAnyH_ready (rs := [2, 5]) (by kernel_rfl) (by simp) ?_
          refine AllReadyH.cons rfl (fun K hK => ?_) (AllReadyH.cons rfl (fun K hK => ?_) AllReadyH.nil)
          · obtain ⟨aQ, cQ, W2, hr, hM2⟩ := hM.runEQ cap hn (HRd.out _ hM.below)
            clear hM
            refine wp_appD (by kernel_rfl) (some 7) (.tmp 5) (.tmp 6) 28 _ _ _ rfl rfl rfl rfl rfl hr ?_
            clear hr
            refine hK.out _ _ True.intro (fun hHeld => ?_)
            clear hK K
            try simp only [Act.put, List.setIfInBounds_toArray, List.set_cons_zero, List.set_cons_succ]
            rename World => W
            rename Mk _ _ _ _ _ _ _ _ _ => hM
            refine wpAnyH_ready (rs := [5]) (by kernel_rfl) (by simp) ?_
            refine AllReadyH.cons rfl (fun K hK => ?_) AllReadyH.nil
            · obtain ⟨gD, W2, hr, hM2⟩ := hM.runD hn
              clear hM
              refine wp_makeD (by kernel_rfl) (some 10) (.tmp 9) 28 _ _ rfl rfl rfl hr ?_
              clear hr
              refine hK.out _ _ True.intro (fun hHeld => ?_)
              clear hK K
              try simp only [Act.put, List.setIfInBounds_toArray, List.set_cons_zero, List.set_cons_succ]
              rename World => W
              rename Mk _ _ _ _ _ _ _ _ _ => hM
              refine takeD (i := 9) (some 14) (v := ?_) rfl rfl (by kernel_rfl) (by kernel_rfl) (by kernel_rfl) (fun _ _ _ h => absurd h.1 (by simp)) (by kernel_rfl) ?_ (by assumption) ?_
              rotate_left
              · intro wx hSw
                try dsimp only at hSw
                go_simp
                try (with_reducible rfl)
              try simp only [Act.put, List.setIfInBounds_toArray, List.set_cons_zero, List.set_cons_succ]
              have cB := blk_cell (hM.b gB rfl).2
              have fB := blk_free (hM.b gB rfl).2
              unfold zRound at cB
              refine wpAnyH_ready (rs := [11]) (by kernel_rfl) (by simp) ?_
              refine AllReadyH.cons rfl (fun K hK => ?_) AllReadyH.nil
              go_simp
              refine hK.out _ _ True.intro (fun hHeld => ?_)
              clear hK K
              try simp only [Act.put, List.setIfInBounds_toArray, List.set_cons_zero, List.set_cons_succ]
              refine wpAnyH_done (by kernel_rfl) ?_ _
              exact ⟨rfl, aQ, cQ, gD, gS, gB, gE, W, hM, rfl, rfl⟩
          · obtain ⟨gD, W2, hr, hM2⟩ := hM.runD hn
            clear hM
            refine wp_makeD (by kernel_rfl) (some 10) (.tmp 9) 28 _ _ rfl rfl rfl hr ?_
            clear hr
            refine hK.out _ _ True.intro (fun hHeld => ?_)
            clear hK K
            try simp only [Act.put, List.setIfInBounds_toArray, List.set_cons_zero, List.set_cons_succ]
            rename World => W
            rename Mk _ _ _ _ _ _ _ _ _ => hM
            refine wpAnyH_ready (rs := [2]) (by kernel_rfl) (by simp) ?_
            refine AllReadyH.cons rfl (fun K hK => ?_) AllReadyH.nil
            · obtain ⟨aQ, cQ, W2, hr, hM2⟩ := hM.runEQ cap hn (HRd.out _ hM.below)
              clear hM
              refine wp_appD (by kernel_rfl) (some 7) (.tmp 5) (.tmp 6) 28 _ _ _ rfl rfl rfl rfl rfl hr ?_
              clear hr
              refine hK.out _ _ True.intro (fun hHeld => ?_)
              clear hK K
              try simp only [Act.put, List.setIfInBounds_toArray, List.set_cons_zero, List.set_cons_succ]
              rename World => W
              rename Mk _ _ _ _ _ _ _ _ _ => hM
              refine takeD (i := 9) (some 14) (v := ?_) rfl rfl (by kernel_rfl) (by kernel_rfl) (by kernel_rfl) (fun _ _ _ h => absurd h.1 (by simp)) (by kernel_rfl) ?_ (by assumption) ?_
              rotate_left
              · intro wx hSw
                try dsimp only at hSw
                go_simp
                try (with_reducible rfl)
              try simp only [Act.put, List.setIfInBounds_toArray, List.set_cons_zero, List.set_cons_succ]
              have cB := blk_cell (hM.b gB rfl).2
              have fB := blk_free (hM.b gB rfl).2
              unfold zRound at cB
              refine wpAnyH_ready (rs := [11]) (by kernel_rfl) (by simp) ?_
              refine AllReadyH.cons rfl (fun K hK => ?_) AllReadyH.nil
              go_simp
              refine hK.out _ _ True.intro (fun hHeld => ?_)
              clear hK K
              try simp only [Act.put, List.setIfInBounds_toArray, List.set_cons_zero, List.set_cons_succ]
              refine wpAnyH_done (by kernel_rfl) ?_ _
              exact ⟨rfl, aQ, cQ, gD, gS, gB, gE, W, hM, rfl, rfl⟩
      · obtain ⟨gD, W2, hr, hM2⟩ := hM.runD hn
        clear hM
        refine wp_makeD (by kernel_rfl) (some 10) (.tmp 9) 28 _ _ rfl rfl rfl hr ?_
        clear hr
        refine hK.out _ _ True.intro (fun hHeld => ?_)
        clear hK K
        try simp only [Act.put, List.setIfInBounds_toArray, List.set_cons_zero, List.set_cons_succ]
        rename World => W
        rename Mk _ _ _ _ _ _ _ _ _ => hM
        refine wpAnyH_ready (rs := [0, 8]) (by kernel_rfl) (by simp) ?_
        refine AllReadyH.cons rfl (fun K hK => ?_) (AllReadyH.cons rfl (fun K hK => ?_) AllReadyH.nil)
        · obtain ⟨gE, W2, hg, hW, hM2⟩ := hM.runE
          clear hM
          go_simp
          refine hK.out _ _ True.intro (fun hHeld => ?_)
          clear hK K
          try simp only [Act.put, List.setIfInBounds_toArray, List.set_cons_zero, List.set_cons_succ]
          rw [← hg, ← hW]
          clear hg hW
          rename World => W
          rename Mk _ _ _ _ _ _ _ _ _ => hM
          refine wpAnyH_ready (rs := [2, 8]) (by kernel_rfl) (by simp) ?_
          refine AllReadyH.cons rfl (fun K hK => ?_) (AllReadyH.cons rfl (fun K hK => ?_) AllReadyH.nil)
          · obtain ⟨aQ, cQ, W2, hr, hM2⟩ := hM.runEQ cap hn (HRd.out _ hM.below)
            clear hM
            refine wp_appD (by kernel_rfl) (some 7) (.tmp 5) (.tmp 6) 28 _ _ _ rfl rfl rfl rfl rfl hr ?_
            clear hr
            refine hK.out _ _ True.intro (fun hHeld => ?_)
            clear hK K
            try simp only [Act.put, List.setIfInBounds_toArray, List.set_cons_zero, List.set_cons_succ]
            rename World => W
            rename Mk _ _ _ _ _ _ _ _ _ => hM
            refine wpAnyH_ready (rs := [8]) (by kernel_rfl) (by simp) ?_
            refine AllReadyH.cons rfl (fun K hK => ?_) AllReadyH.nil
            · obtain ⟨gS, W2, hr, hM2⟩ := hM.runS hn
              clear hM
              refine wp_makeD (by kernel_rfl) (some 13) (.tmp 12) 47 _ _ rfl rfl rfl hr ?_
              clear hr
              refine hK.out _ _ True.intro (fun hHeld => ?_)
              clear hK K
              try simp only [Act.put, List.setIfInBounds_toArray, List.set_cons_zero, List.set_cons_succ]
              rename World => W
              rename Mk _ _ _ _ _ _ _ _ _ => hM
              refine takeD (i := 9) (some 14) (v := ?_) rfl rfl (by kernel_rfl) (by kernel_rfl) (by kernel_rfl) (fun _ _ _ h => absurd h.1 (by simp)) (by kernel_rfl) ?_ (by assumption) ?_
              rotate_left
              · intro wx hSw
                try dsimp only at hSw
                go_simp
                try (with_reducible rfl)
              try simp only [Act.put, List.setIfInBounds_toArray, List.set_cons_zero, List.set_cons_succ]
              have cB := blk_cell (hM.b gB rfl).2
              have fB := blk_free (hM.b gB rfl).2
              unfold zRound at cB
              refine wpAnyH_ready (rs := [11]) (by kernel_rfl) (by simp) ?_
              refine AllReadyH.cons rfl (fun K hK => ?_) AllReadyH.nil
              go_simp
              refine hK.out _ _ True.intro (fun hHeld => ?_)
              clear hK K
              try simp only [Act.put, List.setIfInBounds_toArray, List.set_cons_zero, List.set_cons_succ]
              refine wpAnyH_done (by kernel_rfl) ?_ _
              exact ⟨rfl, aQ, cQ, gD, gS, gB, gE, W, hM, rfl, rfl⟩
          · obtain ⟨gS, W2, hr, hM2⟩ := hM.runS hn
            clear hM
            refine wp_makeD (by kernel_rfl) (some 13) (.tmp 12) 47 _ _ rfl rfl rfl hr ?_
            clear hr
            refine hK.out _ _ True.intro (fun hHeld => ?_)
            clear hK K
            try simp only [Act.put, List.setIfInBounds_toArray, List.set_cons_zero, List.set_cons_succ]
            rename World => W
            rename Mk _ _ _ _ _ _ _ _ _ => hM
            refine wpAnyH_ready (rs := [2]) (by kernel_rfl) (by simp) ?_
            refine AllReadyH.cons rfl (fun K hK => ?_) AllReadyH.nil
            · obtain ⟨aQ, cQ, W2, hr, hM2⟩ := hM.runEQ cap hn (HRd.out _ hM.below)
              clear hM
              refine wp_appD (by kernel_rfl) (some 7) (.tmp 5) (.tmp 6) 28 _ _ _ rfl rfl rfl rfl rfl hr ?_
              clear hr
              refine hK.out _ _ True.intro (fun hHeld => ?_)
              clear hK K
              try simp only [Act.put, List.setIfInBounds_toArray, List.set_cons_zero, List.set_cons_succ]
              rename World => W
              rename Mk _ _ _ _ _ _ _ _ _ => hM
              refine takeD (i := 9) (some 14) (v := ?_) rfl rfl (by kernel_rfl) (by kernel_rfl) (by kernel_rfl) (fun _ _ _ h => absurd h.1 (by simp)) (by kernel_rfl) ?_ (by assumption) ?_
              rotate_left
              · intro wx hSw
                try dsimp only at hSw
                go_simp
                try (with_reducible rfl)
              try simp only [Act.put, List.setIfInBounds_toArray, List.set_cons_zero, List.set_cons_succ]
              have cB := blk_cell (hM.b gB rfl).2
              have fB := blk_free (hM.b gB rfl).2
              unfold zRound at cB
              refine wpAnyH_ready (rs := [11]) (by kernel_rfl) (by simp) ?_
              refine AllReadyH.cons rfl (fun K hK => ?_) AllReadyH.nil
              go_simp
              refine hK.out _ _ True.intro (fun hHeld => ?_)
              clear hK K
              try simp only [Act.put, List.setIfInBounds_toArray, List.set_cons_zero, List.set_cons_succ]
              refine wpAnyH_done (by kernel_rfl) ?_ _
              exact ⟨rfl, aQ, cQ, gD, gS, gB, gE, W, hM, rfl, rfl⟩
        · obtain ⟨gS, W2, hr, hM2⟩ := hM.runS hn
          clear hM
          refine wp_makeD (by kernel_rfl) (some 13) (.tmp 12) 47 _ _ rfl rfl rfl hr ?_
          clear hr
          refine hK.out _ _ True.intro (fun hHeld => ?_)
          clear hK K
          try simp only [Act.put, List.setIfInBounds_toArray, List.set_cons_zero, List.set_cons_succ]
          rename World => W
          rename Mk _ _ _ _ _ _ _ _ _ => hM
          refine wpAnyH_ready (rs := [0]) (by kernel_rfl) (by simp) ?_
          refine AllReadyH.cons rfl (fun K hK => ?_) AllReadyH.nil
          · obtain ⟨gE, W2, hg, hW, hM2⟩ := hM.runE
            clear hM
            go_simp
            refine hK.out _ _ True.intro (fun hHeld => ?_)
            clear hK K
            try simp only [Act.put, List.setIfInBounds_toArray, List.set_cons_zero, List.set_cons_succ]
            rw [← hg, ← hW]
            clear hg hW
            rename World => W
            rename Mk _ _ _ _ _ _ _ _ _ => hM
            refine wpAnyH_ready (rs := [2]) (by kernel_rfl) (by simp) ?_
            refine AllReadyH.cons rfl (fun K hK => ?_) AllReadyH.nil
            · obtain ⟨aQ, cQ, W2, hr, hM2⟩ := hM.runEQ cap hn (HRd.out _ hM.below)
              clear hM
              refine wp_appD (by kernel_rfl) (some 7) (.tmp 5) (.tmp 6) 28 _ _ _ rfl rfl rfl rfl rfl hr ?_
              clear hr
              refine hK.out _ _ True.intro (fun hHeld => ?_)
              clear hK K
              try simp only [Act.put, List.setIfInBounds_toArray, List.set_cons_zero, List.set_cons_succ]
              rename World => W
              rename Mk _ _ _ _ _ _ _ _ _ => hM
              refine takeD (i := 9) (some 14) (v := ?_) rfl rfl (by kernel_rfl) (by kernel_rfl) (by kernel_rfl) (fun _ _ _ h => absurd h.1 (by simp)) (by kernel_rfl) ?_ (by assumption) ?_
              rotate_left
              · intro wx hSw
                try dsimp only at hSw
                go_simp
                try (with_reducible rfl)
              try simp only [Act.put, List.setIfInBounds_toArray, List.set_cons_zero, List.set_cons_succ]
              have cB := blk_cell (hM.b gB rfl).2
              have fB := blk_free (hM.b gB rfl).2
              unfold zRound at cB
              refine wpAnyH_ready (rs := [11]) (by kernel_rfl) (by simp) ?_
              refine AllReadyH.cons rfl (fun K hK => ?_) AllReadyH.nil
              go_simp
              refine hK.out _ _ True.intro (fun hHeld => ?_)
              clear hK K
              try simp only [Act.put, List.setIfInBounds_toArray, List.set_cons_zero, List.set_cons_succ]
              refine wpAnyH_done (by kernel_rfl) ?_ _
              exact ⟨rfl, aQ, cQ, gD, gS, gB, gE, W, hM, rfl, rfl⟩
      · obtain ⟨gS, W2, hr, hM2⟩ := hM.runS hn
        clear hM
        refine wp_makeD (by kernel_rfl) (some 13) (.tmp 12) 47 _ _ rfl rfl rfl hr ?_
        clear hr
        refine hK.out _ _ True.intro (fun hHeld => ?_)
        clear hK K
        try simp only [Act.put, List.setIfInBounds_toArray, List.set_cons_zero, List.set_cons_succ]
        rename World => W
        rename Mk _ _ _ _ _ _ _ _ _ => hM
        refine wpAnyH_ready (rs := [0, 5]) (by kernel_rfl) (by simp) ?_
        refine AllReadyH.cons rfl (fun K hK => ?_) (AllReadyH.cons rfl (fun K hK => ?_) AllReadyH.nil)
        · obtain ⟨gE, W2, hg, hW, hM2⟩ := hM.runE
          clear hM
          go_simp
          refine hK.out _ _ True.intro (fun hHeld => ?_)
          clear hK K
          try simp only [Act.put, List.setIfInBounds_toArray, List.set_cons_zero, List.set_cons_succ]
          rw [← hg, ← hW]
          clear hg hW
          rename World => W
          rename Mk _ _ _ _ _ _ _ _ _ => hM
          refine wpAnyH_ready (rs := [2, 5]) (by kernel_rfl) (by simp) ?_
          refine AllReadyH.cons rfl (fun K hK => ?_) (AllReadyH.cons rfl (fun K hK => ?_) AllReadyH.nil)
          · obtain ⟨aQ, cQ, W2, hr, hM2⟩ := hM.runEQ cap hn (HRd.out _ hM.below)
            clear hM
            refine wp_appD (by kernel_rfl) (some 7) (.tmp 5) (.tmp 6) 28 _ _ _ rfl rfl rfl rfl rfl hr ?_
            clear hr
            refine hK.out _ _ True.intro (fun hHeld => ?_)
            clear hK K
            try simp only [Act.put, List.setIfInBounds_toArray, List.set_cons_zero, List.set_cons_succ]
            rename World => W
            rename Mk _ _ _ _ _ _ _ _ _ => hM
            refine wpAnyH_ready (rs := [5]) (by kernel_rfl) (by simp) ?_
            refine AllReadyH.cons rfl (fun K hK => ?_) AllReadyH.nil
            · obtain ⟨gD, W2, hr, hM2⟩ := hM.runD hn
              clear hM
              refine wp_makeD (by kernel_rfl) (some 10) (.tmp 9) 28 _ _ rfl rfl rfl hr ?_
              clear hr
              refine hK.out _ _ True.intro (fun hHeld => ?_)
              clear hK K
              try simp only [Act.put, List.setIfInBounds_toArray, List.set_cons_zero, List.set_cons_succ]
              rename World => W
              rename Mk _ _ _ _ _ _ _ _ _ => hM
              refine takeD (i := 9) (some 14) (v := ?_) rfl rfl (by kernel_rfl) (by kernel_rfl) (by kernel_rfl) (fun _ _ _ h => absurd h.1 (by simp)) (by kernel_rfl) ?_ (by assumption) ?_
              rotate_left
              · intro wx hSw
                try dsimp only at hSw
                go_simp
                try (with_reducible rfl)
              try simp only [Act.put, List.setIfInBounds_toArray, List.set_cons_zero, List.set_cons_succ]
              have cB := blk_cell (hM.b gB rfl).2
              have fB := blk_free (hM.b gB rfl).2
              unfold zRound at cB
              refine wpAnyH_ready (rs := [11]) (by kernel_rfl) (by simp) ?_
              refine AllReadyH.cons rfl (fun K hK => ?_) AllReadyH.nil
              go_simp
              refine hK.out _ _ True.intro (fun hHeld => ?_)
              clear hK K
              try simp only [Act.put, List.setIfInBounds_toArray, List.set_cons_zero, List.set_cons_succ]
              refine wpAnyH_done (by kernel_rfl) ?_ _
              exact ⟨rfl, aQ, cQ, gD, gS, gB, gE, W, hM, rfl, rfl⟩
          · obtain ⟨gD, W2, hr, hM2⟩ := hM.runD hn
            clear hM
            refine wp_makeD (by kernel_rfl) (some 10) (.tmp 9) 28 _ _ rfl rfl rfl hr ?_
            clear hr
            refine hK.out _ _ True.intro (fun hHeld => ?_)
            clear hK K
            try simp only [Act.put, List.setIfInBounds_toArray, List.set_cons_zero, List.set_cons_succ]
            rename World => W
            rename Mk _ _ _ _ _ _ _ _ _ => hM
            refine wpAnyH_ready (rs := [2]) (by kernel_rfl) (by simp) ?_
            refine AllReadyH.cons rfl (fun K hK => ?_) AllReadyH.nil
            · obtain ⟨aQ, cQ, W2, hr, hM2⟩ := hM.runEQ cap hn (HRd.out _ hM.below)
              clear hM
              refine wp_appD (by kernel_rfl) (some 7) (.tmp 5) (.tmp 6) 28 _ _ _ rfl rfl rfl rfl rfl hr ?_
              clear hr
              refine hK.out _ _ True.intro (fun hHeld => ?_)
              clear hK K
              try simp only [Act.put, List.setIfInBounds_toArray, List.set_cons_zero, List.set_cons_succ]
              rename World => W
              rename Mk _ _ _ _ _ _ _ _ _ => hM
              refine takeD (i := 9) (some 14) (v := ?_) rfl rfl (by kernel_rfl) (by kernel_rfl) (by kernel_rfl) (fun _ _ _ h => absurd h.1 (by simp)) (by kernel_rfl) ?_ (by assumption) ?_
              rotate_left
              · intro wx hSw
                try dsimp only at hSw
                go_simp
                try (with_reducible rfl)
              try simp only [Act.put, List.setIfInBounds_toArray, List.set_cons_zero, List.set_cons_succ]
              have cB := blk_cell (hM.b gB rfl).2
              have fB := blk_free (hM.b gB rfl).2
              unfold zRound at cB
              refine wpAnyH_ready (rs := [11]) (by kernel_rfl) (by simp) ?_
              refine AllReadyH.cons rfl (fun K hK => ?_) AllReadyH.nil
              go_simp
              refine hK.out _ _ True.intro (fun hHeld => ?_)
              clear hK K
              try simp only [Act.put, List.setIfInBounds_toArray, List.set_cons_zero, List.set_cons_succ]
              refine wpAnyH_done (by kernel_rfl) ?_ _
              exact ⟨rfl, aQ, cQ, gD, gS, gB, gE, W, hM, rfl, rfl⟩
        · obtain ⟨gD, W2, hr, hM2⟩ := hM.runD hn
          clear hM
          refine wp_makeD (by kernel_rfl) (some 10) (.tmp 9) 28 _ _ rfl rfl rfl hr ?_
          clear hr
          refine hK.out _ _ True.intro (fun hHeld => ?_)
          clear hK K
          try simp only [Act.put, List.setIfInBounds_toArray, List.set_cons_zero, List.set_cons_succ]
          rename World => W
          rename Mk _ _ _ _ _ _ _ _ _ => hM
          refine wpAnyH_ready (rs := [0]) (by kernel_rfl) (by simp) ?_
          refine AllReadyH.cons rfl (fun K hK => ?_) AllReadyH.nil
          · obtain ⟨gE, W2, hg, hW, hM2⟩ := hM.runE
            clear hM
            go_simp
            refine hK.out _ _ True.intro (fun hHeld => ?_)
            clear hK K
            try simp only [Act.put, List.setIfInBounds_toArray, List.set_cons_zero, List.set_cons_succ]
            rw [← hg, ← hW]
            clear hg hW
            rename World => W
            rename Mk _ _ _ _ _ _ _ _ _ => hM
            refine wpAnyH_ready (rs := [2]) (by kernel_rfl) (by simp) ?_
            refine AllReadyH.cons rfl (fun K hK => ?_) AllReadyH.nil
            · obtain ⟨aQ, cQ, W2, hr, hM2⟩ := hM.runEQ cap hn (HRd.out _ hM.below)
              clear hM
              refine wp_appD (by kernel_rfl) (some 7) (.tmp 5) (.tmp 6) 28 _ _ _ rfl rfl rfl rfl rfl hr ?_
              clear hr
              refine hK.out _ _ True.intro (fun hHeld => ?_)
              clear hK K
              try simp only [Act.put, List.setIfInBounds_toArray, List.set_cons_zero, List.set_cons_succ]
              rename World => W
              rename Mk _ _ _ _ _ _ _ _ _ => hM
              refine takeD (i := 9) (some 14) (v := ?_) rfl rfl (by kernel_rfl) (by kernel_rfl) (by kernel_rfl) (fun _ _ _ h => absurd h.1 (by simp)) (by kernel_rfl) ?_ (by assumption) ?_
              rotate_left
              · intro wx hSw
                try dsimp only at hSw
                go_simp
                try (with_reducible rfl)
              try simp only [Act.put, List.setIfInBounds_toArray, List.set_cons_zero, List.set_cons_succ]
              have cB := blk_cell (hM.b gB rfl).2
              have fB := blk_free (hM.b gB rfl).2
              unfold zRound at cB
              refine wpAnyH_ready (rs := [11]) (by kernel_rfl) (by simp) ?_
              refine AllReadyH.cons rfl (fun K hK => ?_) AllReadyH.nil
              go_simp
              refine hK.out _ _ True.intro (fun hHeld => ?_)
              clear hK K
              try simp only [Act.put, List.setIfInBounds_toArray, List.set_cons_zero, List.set_cons_succ]
              refine wpAnyH_done (by kernel_rfl) ?_ _
              exact ⟨rfl, aQ, cQ, gD, gS, gB, gE, W, hM, rfl, rfl⟩
  rintro e a' W ⟨rfl, aQ, cQ, gD, gS, gB, gE, W', hM, rfl, rfl⟩
  have hMd := hM.made cQ
  clear hM
  generalize put5 W' gB (.slice aQ n cQ) (.slice (some ⟨gD, 0, none⟩) n n) (.int .i64 0) (.bool true) (.slice (some ⟨gS, 0, none⟩) n n) = W1 at hMd ⊢
  have cB := blk_cell hMd.b
  go_wp2_with fail
  refine (sRoundOk_any (newR n f aQ cQ gD gS) _ (newR_fit hn) hMd.own.rd ok (HO.out _ _ _ _)).mono ?_
  rintro e W2 ⟨rfl, hb2⟩
  have hOwn := hMd.own.up hb2
  have hBB := (hb2.block gB (blk_lt hMd.b)).trans hMd.b
  have hBelow := hMd.below.trans (hb2.mono hMd.below.size)
  have hBox := (hBelow.block w.heap.size (by rw [HSz.out]; omega)).trans HBx.out
  have hlo := hMd.lo
  rw [HSz.out] at hlo hOwn
  have HBw : Hid (Below w.heap.size w W2) := HB0.out.trans (hBelow.mono HB0.out.size)
  have HOw : Hid (OwnRn W2 (w.heap.size + 1) (newR n f aQ cQ gD gS)) := hOwn
  have cB2 := blk_cell hBB
  have cX := blk_cell hBox
  have fX := blk_free hBox
  clear hMd hb2 cB hBB hBelow hOwn
  cases ok
  · go_wp2_with fail
    have ht := put5_touch W2 w.heap.size (.slice none 0 0) (.slice none 0 0) (.int .i64 0) (.bool false) (.slice none 0 0)
    have cF := blk_cell (put5_blk hBox (.slice none 0 0) (.slice none 0 0) (.int .i64 0) (.bool false) (.slice none 0 0))
    have hBf := HBw.out.trans (ht.below HBw.out.size (fun x hx => by simp at hx; omega))
    unfold put5 at cF hBf
    exact bodyPost_ret (v := .tuple #[.agg zR.cells, .bool false]) (by simp [results, Try.results17, go_sem, cF, zR, Rnd.cells]) rfl ⟨zR, rfl, zR_own _ _, hBf, Alike.refl _⟩
  · go_wp2_with fail
    have ht := put5_touch W2 w.heap.size (.slice aQ n cQ) (.slice (some ⟨gD, 0, none⟩) n n) (.int .i64 0) (.bool true) (.slice (some ⟨gS, 0, none⟩) n n)
    have cF := blk_cell (put5_blk hBox (.slice aQ n cQ) (.slice (some ⟨gD, 0, none⟩) n n) (.int .i64 0) (.bool true) (.slice (some ⟨gS, 0, none⟩) n n))
    have hBf := HBw.out.trans (ht.below HBw.out.size (fun x hx => by simp at hx; omega))
    have hOf := (HOw.out.touch ht (fun x hx => by simp at hx; omega)).mono (Nat.le_succ _)
    unfold put5 at cF hBf hOf
    exact bodyPost_ret (v := .tuple #[.agg (newR n f aQ cQ gD gS).cells, .bool true]) (by simp [results, Try.results17, go_sem, cF, newR, Rnd.cells]) rfl ⟨newR n f aQ cQ gD gS, rfl, hOf, hBf, ⟨rfl, rfl, rfl, rfl, rfl, rfl, rfl, rfl, rfl⟩⟩
end Go.Proofs.Ytaiodombphpcgaa
