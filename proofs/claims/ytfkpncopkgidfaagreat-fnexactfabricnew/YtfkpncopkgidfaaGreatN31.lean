import Derived.Test.YtfkpncopkgidfaaGreatN23
namespace Go.Proofs.YtfkpncopkgidfaaGreat
open Go.RowKit
set_option linter.unusedVariables false
set_option linter.unusedSimpArgs false
set_option maxRecDepth 100000 in
set_option maxHeartbeats 4000000 in
theorem sRoundNew_any (g q n cap : Nat) (f : Nat → Int) (w : World) (hn : n ≤ 1048576) (h : RdRow w (some ⟨g, q, none⟩) n fun i => .int .i64 (f i)) (ok : Bool) (hok : ok = true ↔ (newR n f none 0 0 0).Ok) :
  Calls Tryz.prog 89 #[.slice (some ⟨g, q, none⟩) n cap] w fun e w' => ∃ R, e = .returned (.tuple #[.agg R.cells, .bool ok]) ∧ OwnRn w' w.heap.size R ∧ Below w.heap.size w w' ∧ Alike (newM n f ok) R := by
 have hB0 : Below w.heap.size w (w.alloc (.cells #[.slice none 0 0, .slice none 0 0, .int .i64 0, .bool false, .slice none 0 0] 116)) := (Below.refl _ _).alloc (Nat.le_refl _) _
 have HRd : Hid (∀ W, Below (w.alloc (.cells #[.slice none 0 0, .slice none 0 0, .int .i64 0, .bool false, .slice none 0 0] 116)).heap.size (w.alloc (.cells #[.slice none 0 0, .slice none 0 0, .int .i64 0, .bool false, .slice none 0 0] 116)) W → RdRow W (some ⟨g, q, none⟩) n fun i => .int .i64 (f i)) := fun W hb => h.up (hB0.trans (hb.mono hB0.size))
 have HO : Hid (∀ aQ cQ gD gS, ok = true ↔ (newR n f aQ cQ gD gS).Ok) := fun _ _ _ _ => hok.trans newR_ok
 have HB0 : Hid (Below w.heap.size w (w.alloc (.cells #[.slice none 0 0, .slice none 0 0, .int .i64 0, .bool false, .slice none 0 0] 116))) := hB0
 have HBx : Hid ((w.alloc (.cells #[.slice none 0 0, .slice none 0 0, .int .i64 0, .bool false, .slice none 0 0] 116)).heap[w.heap.size]? = some (.cells #[.slice none 0 0, .slice none 0 0, .int .i64 0, .bool false, .slice none 0 0] 116 (0, 0))) := blk_new _ _
 have HSz : Hid ((w.alloc (.cells #[.slice none 0 0, .slice none 0 0, .int .i64 0, .bool false, .slice none 0 0] 116)).heap.size = w.heap.size + 1) := by rw [Hid]; simp
 clear hB0 h hok
 go_enter Tryz.func89, Tryz.ntmps89
 go_wp2_with fail
 refine wp_mono (Q := fun e a' W => e = .normal ∧ ∃ (aQ : Option Addr) (cQ gD gS gB gE : Nat) (W' : World), Mk n f (w.alloc (.cells #[.slice none 0 0, .slice none 0 0, .int .i64 0, .bool false, .slice none 0 0] 116)) W' none (some aQ) (some gD) (some gS) (some gB) ∧ a' = ⟨#[.slice (some ⟨g, q, none⟩) n cap, undef, .pointer (some ⟨w.heap.size, 0, none⟩), .bool false, .pointer (some ⟨gB, 0, none⟩), .slice (some ⟨gE, 0, none⟩) 0 0, .slice (some ⟨g, q, none⟩) n cap, .slice aQ n cQ, .slice (some ⟨g, q, none⟩) n cap, .int .i64 n, .slice (some ⟨gD, 0, none⟩) n n, .slice (some ⟨g, q, none⟩) n cap, .int .i64 n, .slice (some ⟨gS, 0, none⟩) n n, .agg #[.slice aQ n cQ, .slice (some ⟨gD, 0, none⟩) n n, .int .i64 0, .bool true, .slice (some ⟨gS, 0, none⟩) n n], undef, undef, undef, undef, undef], []⟩ ∧ W = put5 W' gB (.slice aQ n cQ) (.slice (some ⟨gD, 0, none⟩) n n) (.int .i64 0) (.bool true) (.slice (some ⟨gS, 0, none⟩) n n)) ?_ ?_
 ·
  have hM : Mk n f (w.alloc (.cells #[.slice none 0 0, .slice none 0 0, .int .i64 0, .bool false, .slice none 0 0] 116)) (w.alloc (.cells #[.slice none 0 0, .slice none 0 0, .int .i64 0, .bool false, .slice none 0 0] 116)).drew none none none none none := Mk.start ((Below.refl _ _).drew)
  refine wp_region_held_drew (S := fun _ => True) (by kernel_rfl) True.intro (fun hHeld => ?_)
  generalize hW : (w.alloc (.cells #[.slice none 0 0, .slice none 0 0, .int .i64 0, .bool false, .slice none 0 0] 116)).drew = W at hM ⊢
  clear hW
  refine tM 1 6 ?_
  try simp only [Act.put, PZ]
  refine tM 3 8 ?_
  try simp only [Act.put, PZ]
  refine tM 4 9 ?_
  try simp only [Act.put, PZ]
  refine tM 6 11 ?_
  try simp only [Act.put, PZ]
  refine tM 7 12 ?_
  try simp only [Act.put, PZ]
  refine wpAnyH_ready (rs := [0, 5, 8, 10]) (by kernel_rfl) (by simp) ?_
  refine AllReadyH.cons rfl (fun K hK => ?_) (AllReadyH.cons rfl (fun K hK => ?_) (AllReadyH.cons rfl (fun K hK => ?_) (AllReadyH.cons rfl (fun K hK => ?_) AllReadyH.nil)))
  ·
   obtain ⟨gE, W, hg, hW, hM⟩ := hM.runE
   go_simp
   refine hK.out _ _ ⟨⟩ fun hHeld => ?_
   clear hK K
   try simp only [Act.put, PZ]
   rw [← hg, ← hW]
   clear hg hW
   refine wpAnyH_ready (rs := [2, 5, 8, 10]) (by kernel_rfl) (by simp) ?_
   refine AllReadyH.cons rfl (fun K hK => ?_) (AllReadyH.cons rfl (fun K hK => ?_) (AllReadyH.cons rfl (fun K hK => ?_) (AllReadyH.cons rfl (fun K hK => ?_) AllReadyH.nil)))
   ·
    obtain ⟨aQ, cQ, W, hr, hM⟩ := hM.runEQ cap hn (HRd.out _ hM.below)
    refine wp_appD (by kernel_rfl) (some 7) (.tmp 5) (.tmp 6) 25 _ _ _ rfl rfl rfl rfl rfl hr ?_
    clear hr
    refine hK.out _ _ ⟨⟩ fun hHeld => ?_
    clear hK K
    try simp only [Act.put, PZ]
    refine wpAnyH_ready (rs := [5, 8, 10]) (by kernel_rfl) (by simp) ?_
    refine AllReadyH.cons rfl (fun K hK => ?_) (AllReadyH.cons rfl (fun K hK => ?_) (AllReadyH.cons rfl (fun K hK => ?_) AllReadyH.nil))
    ·
     obtain ⟨gD, W, hr, hM⟩ := hM.runD hn
     refine wp_makeD (by kernel_rfl) (some 10) (.tmp 9) 25 _ _ rfl rfl rfl hr ?_
     clear hr
     refine hK.out _ _ ⟨⟩ fun hHeld => ?_
     clear hK K
     try simp only [Act.put, PZ]
     refine r2 8 10 (fun K hK => ?_) (fun K hK => ?_)
     ·
      obtain ⟨gS, W, hr, hM⟩ := hM.runS hn
      refine wp_makeD (by kernel_rfl) (some 13) (.tmp 12) 114 _ _ rfl rfl rfl hr ?_
      clear hr
      refine hK.out _ _ ⟨⟩ fun hHeld => ?_
      clear hK K
      try simp only [Act.put, PZ]
      refine tM 9 14 ?_
      try simp only [Act.put, PZ]
      refine r1 10 (fun K hK => ?_)
      ·
       obtain ⟨gB, W, hg, hW, hM⟩ := hM.runB
       go_simp
       refine hK.out _ _ ⟨⟩ fun hHeld => ?_
       clear hK K
       try simp only [Act.put, PZ]
       rw [← hg, ← hW]
       clear hg hW
       have cB := blk_cell (hM.b gB rfl).2
       have fB := blk_free (hM.b gB rfl).2
       unfold zRound at cB
       refine r1 11 (fun K hK => ?_)
       go_simp
       refine hK.out _ _ ⟨⟩ fun hHeld => ?_
       clear hK K
       try simp only [Act.put, PZ]
       refine dn ?_
       exact ⟨rfl, aQ, cQ, gD, gS, gB, gE, W, hM, rfl, rfl⟩
     ·
      obtain ⟨gB, W, hg, hW, hM⟩ := hM.runB
      go_simp
      refine hK.out _ _ ⟨⟩ fun hHeld => ?_
      clear hK K
      try simp only [Act.put, PZ]
      rw [← hg, ← hW]
      clear hg hW
      refine r1 8 (fun K hK => ?_)
      ·
       obtain ⟨gS, W, hr, hM⟩ := hM.runS hn
       refine wp_makeD (by kernel_rfl) (some 13) (.tmp 12) 114 _ _ rfl rfl rfl hr ?_
       clear hr
       refine hK.out _ _ ⟨⟩ fun hHeld => ?_
       clear hK K
       try simp only [Act.put, PZ]
       refine tM 9 14 ?_
       try simp only [Act.put, PZ]
       have cB := blk_cell (hM.b gB rfl).2
       have fB := blk_free (hM.b gB rfl).2
       unfold zRound at cB
       refine r1 11 (fun K hK => ?_)
       go_simp
       refine hK.out _ _ ⟨⟩ fun hHeld => ?_
       clear hK K
       try simp only [Act.put, PZ]
       refine dn ?_
       exact ⟨rfl, aQ, cQ, gD, gS, gB, gE, W, hM, rfl, rfl⟩
    ·
     obtain ⟨gS, W, hr, hM⟩ := hM.runS hn
     refine wp_makeD (by kernel_rfl) (some 13) (.tmp 12) 114 _ _ rfl rfl rfl hr ?_
     clear hr
     refine hK.out _ _ ⟨⟩ fun hHeld => ?_
     clear hK K
     try simp only [Act.put, PZ]
     refine r2 5 10 (fun K hK => ?_) (fun K hK => ?_)
     ·
      obtain ⟨gD, W, hr, hM⟩ := hM.runD hn
      refine wp_makeD (by kernel_rfl) (some 10) (.tmp 9) 25 _ _ rfl rfl rfl hr ?_
      clear hr
      refine hK.out _ _ ⟨⟩ fun hHeld => ?_
      clear hK K
      try simp only [Act.put, PZ]
      refine tM 9 14 ?_
      try simp only [Act.put, PZ]
      refine r1 10 (fun K hK => ?_)
      ·
       obtain ⟨gB, W, hg, hW, hM⟩ := hM.runB
       go_simp
       refine hK.out _ _ ⟨⟩ fun hHeld => ?_
       clear hK K
       try simp only [Act.put, PZ]
       rw [← hg, ← hW]
       clear hg hW
       have cB := blk_cell (hM.b gB rfl).2
       have fB := blk_free (hM.b gB rfl).2
       unfold zRound at cB
       refine r1 11 (fun K hK => ?_)
       go_simp
       refine hK.out _ _ ⟨⟩ fun hHeld => ?_
       clear hK K
       try simp only [Act.put, PZ]
       refine dn ?_
       exact ⟨rfl, aQ, cQ, gD, gS, gB, gE, W, hM, rfl, rfl⟩
     ·
      obtain ⟨gB, W, hg, hW, hM⟩ := hM.runB
      go_simp
      refine hK.out _ _ ⟨⟩ fun hHeld => ?_
      clear hK K
      try simp only [Act.put, PZ]
      rw [← hg, ← hW]
      clear hg hW
      refine r1 5 (fun K hK => ?_)
      ·
       obtain ⟨gD, W, hr, hM⟩ := hM.runD hn
       refine wp_makeD (by kernel_rfl) (some 10) (.tmp 9) 25 _ _ rfl rfl rfl hr ?_
       clear hr
       refine hK.out _ _ ⟨⟩ fun hHeld => ?_
       clear hK K
       try simp only [Act.put, PZ]
       refine tM 9 14 ?_
       try simp only [Act.put, PZ]
       have cB := blk_cell (hM.b gB rfl).2
       have fB := blk_free (hM.b gB rfl).2
       unfold zRound at cB
       refine r1 11 (fun K hK => ?_)
       go_simp
       refine hK.out _ _ ⟨⟩ fun hHeld => ?_
       clear hK K
       try simp only [Act.put, PZ]
       refine dn ?_
       exact ⟨rfl, aQ, cQ, gD, gS, gB, gE, W, hM, rfl, rfl⟩
    ·
     obtain ⟨gB, W, hg, hW, hM⟩ := hM.runB
     go_simp
     refine hK.out _ _ ⟨⟩ fun hHeld => ?_
     clear hK K
     try simp only [Act.put, PZ]
     rw [← hg, ← hW]
     clear hg hW
     refine r2 5 8 (fun K hK => ?_) (fun K hK => ?_)
     ·
      obtain ⟨gD, W, hr, hM⟩ := hM.runD hn
      refine wp_makeD (by kernel_rfl) (some 10) (.tmp 9) 25 _ _ rfl rfl rfl hr ?_
      clear hr
      refine hK.out _ _ ⟨⟩ fun hHeld => ?_
      clear hK K
      try simp only [Act.put, PZ]
      refine r1 8 (fun K hK => ?_)
      ·
       obtain ⟨gS, W, hr, hM⟩ := hM.runS hn
       refine wp_makeD (by kernel_rfl) (some 13) (.tmp 12) 114 _ _ rfl rfl rfl hr ?_
       clear hr
       refine hK.out _ _ ⟨⟩ fun hHeld => ?_
       clear hK K
       try simp only [Act.put, PZ]
       refine tM 9 14 ?_
       try simp only [Act.put, PZ]
       have cB := blk_cell (hM.b gB rfl).2
       have fB := blk_free (hM.b gB rfl).2
       unfold zRound at cB
       refine r1 11 (fun K hK => ?_)
       go_simp
       refine hK.out _ _ ⟨⟩ fun hHeld => ?_
       clear hK K
       try simp only [Act.put, PZ]
       refine dn ?_
       exact ⟨rfl, aQ, cQ, gD, gS, gB, gE, W, hM, rfl, rfl⟩
     ·
      obtain ⟨gS, W, hr, hM⟩ := hM.runS hn
      refine wp_makeD (by kernel_rfl) (some 13) (.tmp 12) 114 _ _ rfl rfl rfl hr ?_
      clear hr
      refine hK.out _ _ ⟨⟩ fun hHeld => ?_
      clear hK K
      try simp only [Act.put, PZ]
      refine r1 5 (fun K hK => ?_)
      ·
       obtain ⟨gD, W, hr, hM⟩ := hM.runD hn
       refine wp_makeD (by kernel_rfl) (some 10) (.tmp 9) 25 _ _ rfl rfl rfl hr ?_
       clear hr
       refine hK.out _ _ ⟨⟩ fun hHeld => ?_
       clear hK K
       try simp only [Act.put, PZ]
       refine tM 9 14 ?_
       try simp only [Act.put, PZ]
       have cB := blk_cell (hM.b gB rfl).2
       have fB := blk_free (hM.b gB rfl).2
       unfold zRound at cB
       refine r1 11 (fun K hK => ?_)
       go_simp
       refine hK.out _ _ ⟨⟩ fun hHeld => ?_
       clear hK K
       try simp only [Act.put, PZ]
       refine dn ?_
       exact ⟨rfl, aQ, cQ, gD, gS, gB, gE, W, hM, rfl, rfl⟩
   ·
    obtain ⟨gD, W, hr, hM⟩ := hM.runD hn
    refine wp_makeD (by kernel_rfl) (some 10) (.tmp 9) 25 _ _ rfl rfl rfl hr ?_
    clear hr
    refine hK.out _ _ ⟨⟩ fun hHeld => ?_
    clear hK K
    try simp only [Act.put, PZ]
    refine wpAnyH_ready (rs := [2, 8, 10]) (by kernel_rfl) (by simp) ?_
    refine AllReadyH.cons rfl (fun K hK => ?_) (AllReadyH.cons rfl (fun K hK => ?_) (AllReadyH.cons rfl (fun K hK => ?_) AllReadyH.nil))
    ·
     obtain ⟨aQ, cQ, W, hr, hM⟩ := hM.runEQ cap hn (HRd.out _ hM.below)
     refine wp_appD (by kernel_rfl) (some 7) (.tmp 5) (.tmp 6) 25 _ _ _ rfl rfl rfl rfl rfl hr ?_
     clear hr
     refine hK.out _ _ ⟨⟩ fun hHeld => ?_
     clear hK K
     try simp only [Act.put, PZ]
     refine r2 8 10 (fun K hK => ?_) (fun K hK => ?_)
     ·
      obtain ⟨gS, W, hr, hM⟩ := hM.runS hn
      refine wp_makeD (by kernel_rfl) (some 13) (.tmp 12) 114 _ _ rfl rfl rfl hr ?_
      clear hr
      refine hK.out _ _ ⟨⟩ fun hHeld => ?_
      clear hK K
      try simp only [Act.put, PZ]
      refine tM 9 14 ?_
      try simp only [Act.put, PZ]
      refine r1 10 (fun K hK => ?_)
      ·
       obtain ⟨gB, W, hg, hW, hM⟩ := hM.runB
       go_simp
       refine hK.out _ _ ⟨⟩ fun hHeld => ?_
       clear hK K
       try simp only [Act.put, PZ]
       rw [← hg, ← hW]
       clear hg hW
       have cB := blk_cell (hM.b gB rfl).2
       have fB := blk_free (hM.b gB rfl).2
       unfold zRound at cB
       refine r1 11 (fun K hK => ?_)
       go_simp
       refine hK.out _ _ ⟨⟩ fun hHeld => ?_
       clear hK K
       try simp only [Act.put, PZ]
       refine dn ?_
       exact ⟨rfl, aQ, cQ, gD, gS, gB, gE, W, hM, rfl, rfl⟩
     ·
      obtain ⟨gB, W, hg, hW, hM⟩ := hM.runB
      go_simp
      refine hK.out _ _ ⟨⟩ fun hHeld => ?_
      clear hK K
      try simp only [Act.put, PZ]
      rw [← hg, ← hW]
      clear hg hW
      refine r1 8 (fun K hK => ?_)
      ·
       obtain ⟨gS, W, hr, hM⟩ := hM.runS hn
       refine wp_makeD (by kernel_rfl) (some 13) (.tmp 12) 114 _ _ rfl rfl rfl hr ?_
       clear hr
       refine hK.out _ _ ⟨⟩ fun hHeld => ?_
       clear hK K
       try simp only [Act.put, PZ]
       refine tM 9 14 ?_
       try simp only [Act.put, PZ]
       have cB := blk_cell (hM.b gB rfl).2
       have fB := blk_free (hM.b gB rfl).2
       unfold zRound at cB
       refine r1 11 (fun K hK => ?_)
       go_simp
       refine hK.out _ _ ⟨⟩ fun hHeld => ?_
       clear hK K
       try simp only [Act.put, PZ]
       refine dn ?_
       exact ⟨rfl, aQ, cQ, gD, gS, gB, gE, W, hM, rfl, rfl⟩
    ·
     obtain ⟨gS, W, hr, hM⟩ := hM.runS hn
     refine wp_makeD (by kernel_rfl) (some 13) (.tmp 12) 114 _ _ rfl rfl rfl hr ?_
     clear hr
     refine hK.out _ _ ⟨⟩ fun hHeld => ?_
     clear hK K
     try simp only [Act.put, PZ]
     refine r2 2 10 (fun K hK => ?_) (fun K hK => ?_)
     ·
      obtain ⟨aQ, cQ, W, hr, hM⟩ := hM.runEQ cap hn (HRd.out _ hM.below)
      refine wp_appD (by kernel_rfl) (some 7) (.tmp 5) (.tmp 6) 25 _ _ _ rfl rfl rfl rfl rfl hr ?_
      clear hr
      refine hK.out _ _ ⟨⟩ fun hHeld => ?_
      clear hK K
      try simp only [Act.put, PZ]
      refine tM 9 14 ?_
      try simp only [Act.put, PZ]
      refine r1 10 (fun K hK => ?_)
      ·
       obtain ⟨gB, W, hg, hW, hM⟩ := hM.runB
       go_simp
       refine hK.out _ _ ⟨⟩ fun hHeld => ?_
       clear hK K
       try simp only [Act.put, PZ]
       rw [← hg, ← hW]
       clear hg hW
       have cB := blk_cell (hM.b gB rfl).2
       have fB := blk_free (hM.b gB rfl).2
       unfold zRound at cB
       refine r1 11 (fun K hK => ?_)
       go_simp
       refine hK.out _ _ ⟨⟩ fun hHeld => ?_
       clear hK K
       try simp only [Act.put, PZ]
       refine dn ?_
       exact ⟨rfl, aQ, cQ, gD, gS, gB, gE, W, hM, rfl, rfl⟩
     ·
      obtain ⟨gB, W, hg, hW, hM⟩ := hM.runB
      go_simp
      refine hK.out _ _ ⟨⟩ fun hHeld => ?_
      clear hK K
      try simp only [Act.put, PZ]
      rw [← hg, ← hW]
      clear hg hW
      refine r1 2 (fun K hK => ?_)
      ·
       obtain ⟨aQ, cQ, W, hr, hM⟩ := hM.runEQ cap hn (HRd.out _ hM.below)
       refine wp_appD (by kernel_rfl) (some 7) (.tmp 5) (.tmp 6) 25 _ _ _ rfl rfl rfl rfl rfl hr ?_
       clear hr
       refine hK.out _ _ ⟨⟩ fun hHeld => ?_
       clear hK K
       try simp only [Act.put, PZ]
       refine tM 9 14 ?_
       try simp only [Act.put, PZ]
       have cB := blk_cell (hM.b gB rfl).2
       have fB := blk_free (hM.b gB rfl).2
       unfold zRound at cB
       refine r1 11 (fun K hK => ?_)
       go_simp
       refine hK.out _ _ ⟨⟩ fun hHeld => ?_
       clear hK K
       try simp only [Act.put, PZ]
       refine dn ?_
       exact ⟨rfl, aQ, cQ, gD, gS, gB, gE, W, hM, rfl, rfl⟩
    ·
     obtain ⟨gB, W, hg, hW, hM⟩ := hM.runB
     go_simp
     refine hK.out _ _ ⟨⟩ fun hHeld => ?_
     clear hK K
     try simp only [Act.put, PZ]
     rw [← hg, ← hW]
     clear hg hW
     refine r2 2 8 (fun K hK => ?_) (fun K hK => ?_)
     ·
      obtain ⟨aQ, cQ, W, hr, hM⟩ := hM.runEQ cap hn (HRd.out _ hM.below)
      refine wp_appD (by kernel_rfl) (some 7) (.tmp 5) (.tmp 6) 25 _ _ _ rfl rfl rfl rfl rfl hr ?_
      clear hr
      refine hK.out _ _ ⟨⟩ fun hHeld => ?_
      clear hK K
      try simp only [Act.put, PZ]
      refine r1 8 (fun K hK => ?_)
      ·
       obtain ⟨gS, W, hr, hM⟩ := hM.runS hn
       refine wp_makeD (by kernel_rfl) (some 13) (.tmp 12) 114 _ _ rfl rfl rfl hr ?_
       clear hr
       refine hK.out _ _ ⟨⟩ fun hHeld => ?_
       clear hK K
       try simp only [Act.put, PZ]
       refine tM 9 14 ?_
       try simp only [Act.put, PZ]
       have cB := blk_cell (hM.b gB rfl).2
       have fB := blk_free (hM.b gB rfl).2
       unfold zRound at cB
       refine r1 11 (fun K hK => ?_)
       go_simp
       refine hK.out _ _ ⟨⟩ fun hHeld => ?_
       clear hK K
       try simp only [Act.put, PZ]
       refine dn ?_
       exact ⟨rfl, aQ, cQ, gD, gS, gB, gE, W, hM, rfl, rfl⟩
     ·
      obtain ⟨gS, W, hr, hM⟩ := hM.runS hn
      refine wp_makeD (by kernel_rfl) (some 13) (.tmp 12) 114 _ _ rfl rfl rfl hr ?_
      clear hr
      refine hK.out _ _ ⟨⟩ fun hHeld => ?_
      clear hK K
      try simp only [Act.put, PZ]
      refine r1 2 (fun K hK => ?_)
      ·
       obtain ⟨aQ, cQ, W, hr, hM⟩ := hM.runEQ cap hn (HRd.out _ hM.below)
       refine wp_appD (by kernel_rfl) (some 7) (.tmp 5) (.tmp 6) 25 _ _ _ rfl rfl rfl rfl rfl hr ?_
       clear hr
       refine hK.out _ _ ⟨⟩ fun hHeld => ?_
       clear hK K
       try simp only [Act.put, PZ]
       refine tM 9 14 ?_
       try simp only [Act.put, PZ]
       have cB := blk_cell (hM.b gB rfl).2
       have fB := blk_free (hM.b gB rfl).2
       unfold zRound at cB
       refine r1 11 (fun K hK => ?_)
       go_simp
       refine hK.out _ _ ⟨⟩ fun hHeld => ?_
       clear hK K
       try simp only [Act.put, PZ]
       refine dn ?_
       exact ⟨rfl, aQ, cQ, gD, gS, gB, gE, W, hM, rfl, rfl⟩
   ·
    obtain ⟨gS, W, hr, hM⟩ := hM.runS hn
    refine wp_makeD (by kernel_rfl) (some 13) (.tmp 12) 114 _ _ rfl rfl rfl hr ?_
    clear hr
    refine hK.out _ _ ⟨⟩ fun hHeld => ?_
    clear hK K
    try simp only [Act.put, PZ]
    refine wpAnyH_ready (rs := [2, 5, 10]) (by kernel_rfl) (by simp) ?_
    refine AllReadyH.cons rfl (fun K hK => ?_) (AllReadyH.cons rfl (fun K hK => ?_) (AllReadyH.cons rfl (fun K hK => ?_) AllReadyH.nil))
    ·
     obtain ⟨aQ, cQ, W, hr, hM⟩ := hM.runEQ cap hn (HRd.out _ hM.below)
     refine wp_appD (by kernel_rfl) (some 7) (.tmp 5) (.tmp 6) 25 _ _ _ rfl rfl rfl rfl rfl hr ?_
     clear hr
     refine hK.out _ _ ⟨⟩ fun hHeld => ?_
     clear hK K
     try simp only [Act.put, PZ]
     refine r2 5 10 (fun K hK => ?_) (fun K hK => ?_)
     ·
      obtain ⟨gD, W, hr, hM⟩ := hM.runD hn
      refine wp_makeD (by kernel_rfl) (some 10) (.tmp 9) 25 _ _ rfl rfl rfl hr ?_
      clear hr
      refine hK.out _ _ ⟨⟩ fun hHeld => ?_
      clear hK K
      try simp only [Act.put, PZ]
      refine tM 9 14 ?_
      try simp only [Act.put, PZ]
      refine r1 10 (fun K hK => ?_)
      ·
       obtain ⟨gB, W, hg, hW, hM⟩ := hM.runB
       go_simp
       refine hK.out _ _ ⟨⟩ fun hHeld => ?_
       clear hK K
       try simp only [Act.put, PZ]
       rw [← hg, ← hW]
       clear hg hW
       have cB := blk_cell (hM.b gB rfl).2
       have fB := blk_free (hM.b gB rfl).2
       unfold zRound at cB
       refine r1 11 (fun K hK => ?_)
       go_simp
       refine hK.out _ _ ⟨⟩ fun hHeld => ?_
       clear hK K
       try simp only [Act.put, PZ]
       refine dn ?_
       exact ⟨rfl, aQ, cQ, gD, gS, gB, gE, W, hM, rfl, rfl⟩
     ·
      obtain ⟨gB, W, hg, hW, hM⟩ := hM.runB
      go_simp
      refine hK.out _ _ ⟨⟩ fun hHeld => ?_
      clear hK K
      try simp only [Act.put, PZ]
      rw [← hg, ← hW]
      clear hg hW
      refine r1 5 (fun K hK => ?_)
      ·
       obtain ⟨gD, W, hr, hM⟩ := hM.runD hn
       refine wp_makeD (by kernel_rfl) (some 10) (.tmp 9) 25 _ _ rfl rfl rfl hr ?_
       clear hr
       refine hK.out _ _ ⟨⟩ fun hHeld => ?_
       clear hK K
       try simp only [Act.put, PZ]
       refine tM 9 14 ?_
       try simp only [Act.put, PZ]
       have cB := blk_cell (hM.b gB rfl).2
       have fB := blk_free (hM.b gB rfl).2
       unfold zRound at cB
       refine r1 11 (fun K hK => ?_)
       go_simp
       refine hK.out _ _ ⟨⟩ fun hHeld => ?_
       clear hK K
       try simp only [Act.put, PZ]
       refine dn ?_
       exact ⟨rfl, aQ, cQ, gD, gS, gB, gE, W, hM, rfl, rfl⟩
    ·
     obtain ⟨gD, W, hr, hM⟩ := hM.runD hn
     refine wp_makeD (by kernel_rfl) (some 10) (.tmp 9) 25 _ _ rfl rfl rfl hr ?_
     clear hr
     refine hK.out _ _ ⟨⟩ fun hHeld => ?_
     clear hK K
     try simp only [Act.put, PZ]
     refine r2 2 10 (fun K hK => ?_) (fun K hK => ?_)
     ·
      obtain ⟨aQ, cQ, W, hr, hM⟩ := hM.runEQ cap hn (HRd.out _ hM.below)
      refine wp_appD (by kernel_rfl) (some 7) (.tmp 5) (.tmp 6) 25 _ _ _ rfl rfl rfl rfl rfl hr ?_
      clear hr
      refine hK.out _ _ ⟨⟩ fun hHeld => ?_
      clear hK K
      try simp only [Act.put, PZ]
      refine tM 9 14 ?_
      try simp only [Act.put, PZ]
      refine r1 10 (fun K hK => ?_)
      ·
       obtain ⟨gB, W, hg, hW, hM⟩ := hM.runB
       go_simp
       refine hK.out _ _ ⟨⟩ fun hHeld => ?_
       clear hK K
       try simp only [Act.put, PZ]
       rw [← hg, ← hW]
       clear hg hW
       have cB := blk_cell (hM.b gB rfl).2
       have fB := blk_free (hM.b gB rfl).2
       unfold zRound at cB
       refine r1 11 (fun K hK => ?_)
       go_simp
       refine hK.out _ _ ⟨⟩ fun hHeld => ?_
       clear hK K
       try simp only [Act.put, PZ]
       refine dn ?_
       exact ⟨rfl, aQ, cQ, gD, gS, gB, gE, W, hM, rfl, rfl⟩
     ·
      obtain ⟨gB, W, hg, hW, hM⟩ := hM.runB
      go_simp
      refine hK.out _ _ ⟨⟩ fun hHeld => ?_
      clear hK K
      try simp only [Act.put, PZ]
      rw [← hg, ← hW]
      clear hg hW
      refine r1 2 (fun K hK => ?_)
      ·
       obtain ⟨aQ, cQ, W, hr, hM⟩ := hM.runEQ cap hn (HRd.out _ hM.below)
       refine wp_appD (by kernel_rfl) (some 7) (.tmp 5) (.tmp 6) 25 _ _ _ rfl rfl rfl rfl rfl hr ?_
       clear hr
       refine hK.out _ _ ⟨⟩ fun hHeld => ?_
       clear hK K
       try simp only [Act.put, PZ]
       refine tM 9 14 ?_
       try simp only [Act.put, PZ]
       have cB := blk_cell (hM.b gB rfl).2
       have fB := blk_free (hM.b gB rfl).2
       unfold zRound at cB
       refine r1 11 (fun K hK => ?_)
       go_simp
       refine hK.out _ _ ⟨⟩ fun hHeld => ?_
       clear hK K
       try simp only [Act.put, PZ]
       refine dn ?_
       exact ⟨rfl, aQ, cQ, gD, gS, gB, gE, W, hM, rfl, rfl⟩
    ·
     obtain ⟨gB, W, hg, hW, hM⟩ := hM.runB
     go_simp
     refine hK.out _ _ ⟨⟩ fun hHeld => ?_
     clear hK K
     try simp only [Act.put, PZ]
     rw [← hg, ← hW]
     clear hg hW
     refine r2 2 5 (fun K hK => ?_) (fun K hK => ?_)
     ·
      obtain ⟨aQ, cQ, W, hr, hM⟩ := hM.runEQ cap hn (HRd.out _ hM.below)
      refine wp_appD (by kernel_rfl) (some 7) (.tmp 5) (.tmp 6) 25 _ _ _ rfl rfl rfl rfl rfl hr ?_
      clear hr
      refine hK.out _ _ ⟨⟩ fun hHeld => ?_
      clear hK K
      try simp only [Act.put, PZ]
      refine r1 5 (fun K hK => ?_)
      ·
       obtain ⟨gD, W, hr, hM⟩ := hM.runD hn
       refine wp_makeD (by kernel_rfl) (some 10) (.tmp 9) 25 _ _ rfl rfl rfl hr ?_
       clear hr
       refine hK.out _ _ ⟨⟩ fun hHeld => ?_
       clear hK K
       try simp only [Act.put, PZ]
       refine tM 9 14 ?_
       try simp only [Act.put, PZ]
       have cB := blk_cell (hM.b gB rfl).2
       have fB := blk_free (hM.b gB rfl).2
       unfold zRound at cB
       refine r1 11 (fun K hK => ?_)
       go_simp
       refine hK.out _ _ ⟨⟩ fun hHeld => ?_
       clear hK K
       try simp only [Act.put, PZ]
       refine dn ?_
       exact ⟨rfl, aQ, cQ, gD, gS, gB, gE, W, hM, rfl, rfl⟩
     ·
      obtain ⟨gD, W, hr, hM⟩ := hM.runD hn
      refine wp_makeD (by kernel_rfl) (some 10) (.tmp 9) 25 _ _ rfl rfl rfl hr ?_
      clear hr
      refine hK.out _ _ ⟨⟩ fun hHeld => ?_
      clear hK K
      try simp only [Act.put, PZ]
      refine r1 2 (fun K hK => ?_)
      ·
       obtain ⟨aQ, cQ, W, hr, hM⟩ := hM.runEQ cap hn (HRd.out _ hM.below)
       refine wp_appD (by kernel_rfl) (some 7) (.tmp 5) (.tmp 6) 25 _ _ _ rfl rfl rfl rfl rfl hr ?_
       clear hr
       refine hK.out _ _ ⟨⟩ fun hHeld => ?_
       clear hK K
       try simp only [Act.put, PZ]
       refine tM 9 14 ?_
       try simp only [Act.put, PZ]
       have cB := blk_cell (hM.b gB rfl).2
       have fB := blk_free (hM.b gB rfl).2
       unfold zRound at cB
       refine r1 11 (fun K hK => ?_)
       go_simp
       refine hK.out _ _ ⟨⟩ fun hHeld => ?_
       clear hK K
       try simp only [Act.put, PZ]
       refine dn ?_
       exact ⟨rfl, aQ, cQ, gD, gS, gB, gE, W, hM, rfl, rfl⟩
   ·
    obtain ⟨gB, W, hg, hW, hM⟩ := hM.runB
    go_simp
    refine hK.out _ _ ⟨⟩ fun hHeld => ?_
    clear hK K
    try simp only [Act.put, PZ]
    rw [← hg, ← hW]
    clear hg hW
    refine wpAnyH_ready (rs := [2, 5, 8]) (by kernel_rfl) (by simp) ?_
    refine AllReadyH.cons rfl (fun K hK => ?_) (AllReadyH.cons rfl (fun K hK => ?_) (AllReadyH.cons rfl (fun K hK => ?_) AllReadyH.nil))
    ·
     obtain ⟨aQ, cQ, W, hr, hM⟩ := hM.runEQ cap hn (HRd.out _ hM.below)
     refine wp_appD (by kernel_rfl) (some 7) (.tmp 5) (.tmp 6) 25 _ _ _ rfl rfl rfl rfl rfl hr ?_
     clear hr
     refine hK.out _ _ ⟨⟩ fun hHeld => ?_
     clear hK K
     try simp only [Act.put, PZ]
     refine r2 5 8 (fun K hK => ?_) (fun K hK => ?_)
     ·
      obtain ⟨gD, W, hr, hM⟩ := hM.runD hn
      refine wp_makeD (by kernel_rfl) (some 10) (.tmp 9) 25 _ _ rfl rfl rfl hr ?_
      clear hr
      refine hK.out _ _ ⟨⟩ fun hHeld => ?_
      clear hK K
      try simp only [Act.put, PZ]
      refine r1 8 (fun K hK => ?_)
      ·
       obtain ⟨gS, W, hr, hM⟩ := hM.runS hn
       refine wp_makeD (by kernel_rfl) (some 13) (.tmp 12) 114 _ _ rfl rfl rfl hr ?_
       clear hr
       refine hK.out _ _ ⟨⟩ fun hHeld => ?_
       clear hK K
       try simp only [Act.put, PZ]
       refine tM 9 14 ?_
       try simp only [Act.put, PZ]
       have cB := blk_cell (hM.b gB rfl).2
       have fB := blk_free (hM.b gB rfl).2
       unfold zRound at cB
       refine r1 11 (fun K hK => ?_)
       go_simp
       refine hK.out _ _ ⟨⟩ fun hHeld => ?_
       clear hK K
       try simp only [Act.put, PZ]
       refine dn ?_
       exact ⟨rfl, aQ, cQ, gD, gS, gB, gE, W, hM, rfl, rfl⟩
     ·
      obtain ⟨gS, W, hr, hM⟩ := hM.runS hn
      refine wp_makeD (by kernel_rfl) (some 13) (.tmp 12) 114 _ _ rfl rfl rfl hr ?_
      clear hr
      refine hK.out _ _ ⟨⟩ fun hHeld => ?_
      clear hK K
      try simp only [Act.put, PZ]
      refine r1 5 (fun K hK => ?_)
      ·
       obtain ⟨gD, W, hr, hM⟩ := hM.runD hn
       refine wp_makeD (by kernel_rfl) (some 10) (.tmp 9) 25 _ _ rfl rfl rfl hr ?_
       clear hr
       refine hK.out _ _ ⟨⟩ fun hHeld => ?_
       clear hK K
       try simp only [Act.put, PZ]
       refine tM 9 14 ?_
       try simp only [Act.put, PZ]
       have cB := blk_cell (hM.b gB rfl).2
       have fB := blk_free (hM.b gB rfl).2
       unfold zRound at cB
       refine r1 11 (fun K hK => ?_)
       go_simp
       refine hK.out _ _ ⟨⟩ fun hHeld => ?_
       clear hK K
       try simp only [Act.put, PZ]
       refine dn ?_
       exact ⟨rfl, aQ, cQ, gD, gS, gB, gE, W, hM, rfl, rfl⟩
    ·
     obtain ⟨gD, W, hr, hM⟩ := hM.runD hn
     refine wp_makeD (by kernel_rfl) (some 10) (.tmp 9) 25 _ _ rfl rfl rfl hr ?_
     clear hr
     refine hK.out _ _ ⟨⟩ fun hHeld => ?_
     clear hK K
     try simp only [Act.put, PZ]
     refine r2 2 8 (fun K hK => ?_) (fun K hK => ?_)
     ·
      obtain ⟨aQ, cQ, W, hr, hM⟩ := hM.runEQ cap hn (HRd.out _ hM.below)
      refine wp_appD (by kernel_rfl) (some 7) (.tmp 5) (.tmp 6) 25 _ _ _ rfl rfl rfl rfl rfl hr ?_
      clear hr
      refine hK.out _ _ ⟨⟩ fun hHeld => ?_
      clear hK K
      try simp only [Act.put, PZ]
      refine r1 8 (fun K hK => ?_)
      ·
       obtain ⟨gS, W, hr, hM⟩ := hM.runS hn
       refine wp_makeD (by kernel_rfl) (some 13) (.tmp 12) 114 _ _ rfl rfl rfl hr ?_
       clear hr
       refine hK.out _ _ ⟨⟩ fun hHeld => ?_
       clear hK K
       try simp only [Act.put, PZ]
       refine tM 9 14 ?_
       try simp only [Act.put, PZ]
       have cB := blk_cell (hM.b gB rfl).2
       have fB := blk_free (hM.b gB rfl).2
       unfold zRound at cB
       refine r1 11 (fun K hK => ?_)
       go_simp
       refine hK.out _ _ ⟨⟩ fun hHeld => ?_
       clear hK K
       try simp only [Act.put, PZ]
       refine dn ?_
       exact ⟨rfl, aQ, cQ, gD, gS, gB, gE, W, hM, rfl, rfl⟩
     ·
      obtain ⟨gS, W, hr, hM⟩ := hM.runS hn
      refine wp_makeD (by kernel_rfl) (some 13) (.tmp 12) 114 _ _ rfl rfl rfl hr ?_
      clear hr
      refine hK.out _ _ ⟨⟩ fun hHeld => ?_
      clear hK K
      try simp only [Act.put, PZ]
      refine r1 2 (fun K hK => ?_)
      ·
       obtain ⟨aQ, cQ, W, hr, hM⟩ := hM.runEQ cap hn (HRd.out _ hM.below)
       refine wp_appD (by kernel_rfl) (some 7) (.tmp 5) (.tmp 6) 25 _ _ _ rfl rfl rfl rfl rfl hr ?_
       clear hr
       refine hK.out _ _ ⟨⟩ fun hHeld => ?_
       clear hK K
       try simp only [Act.put, PZ]
       refine tM 9 14 ?_
       try simp only [Act.put, PZ]
       have cB := blk_cell (hM.b gB rfl).2
       have fB := blk_free (hM.b gB rfl).2
       unfold zRound at cB
       refine r1 11 (fun K hK => ?_)
       go_simp
       refine hK.out _ _ ⟨⟩ fun hHeld => ?_
       clear hK K
       try simp only [Act.put, PZ]
       refine dn ?_
       exact ⟨rfl, aQ, cQ, gD, gS, gB, gE, W, hM, rfl, rfl⟩
    ·
     obtain ⟨gS, W, hr, hM⟩ := hM.runS hn
     refine wp_makeD (by kernel_rfl) (some 13) (.tmp 12) 114 _ _ rfl rfl rfl hr ?_
     clear hr
     refine hK.out _ _ ⟨⟩ fun hHeld => ?_
     clear hK K
     try simp only [Act.put, PZ]
     refine r2 2 5 (fun K hK => ?_) (fun K hK => ?_)
     ·
      obtain ⟨aQ, cQ, W, hr, hM⟩ := hM.runEQ cap hn (HRd.out _ hM.below)
      refine wp_appD (by kernel_rfl) (some 7) (.tmp 5) (.tmp 6) 25 _ _ _ rfl rfl rfl rfl rfl hr ?_
      clear hr
      refine hK.out _ _ ⟨⟩ fun hHeld => ?_
      clear hK K
      try simp only [Act.put, PZ]
      refine r1 5 (fun K hK => ?_)
      ·
       obtain ⟨gD, W, hr, hM⟩ := hM.runD hn
       refine wp_makeD (by kernel_rfl) (some 10) (.tmp 9) 25 _ _ rfl rfl rfl hr ?_
       clear hr
       refine hK.out _ _ ⟨⟩ fun hHeld => ?_
       clear hK K
       try simp only [Act.put, PZ]
       refine tM 9 14 ?_
       try simp only [Act.put, PZ]
       have cB := blk_cell (hM.b gB rfl).2
       have fB := blk_free (hM.b gB rfl).2
       unfold zRound at cB
       refine r1 11 (fun K hK => ?_)
       go_simp
       refine hK.out _ _ ⟨⟩ fun hHeld => ?_
       clear hK K
       try simp only [Act.put, PZ]
       refine dn ?_
       exact ⟨rfl, aQ, cQ, gD, gS, gB, gE, W, hM, rfl, rfl⟩
     ·
      obtain ⟨gD, W, hr, hM⟩ := hM.runD hn
      refine wp_makeD (by kernel_rfl) (some 10) (.tmp 9) 25 _ _ rfl rfl rfl hr ?_
      clear hr
      refine hK.out _ _ ⟨⟩ fun hHeld => ?_
      clear hK K
      try simp only [Act.put, PZ]
      refine r1 2 (fun K hK => ?_)
      ·
       obtain ⟨aQ, cQ, W, hr, hM⟩ := hM.runEQ cap hn (HRd.out _ hM.below)
       refine wp_appD (by kernel_rfl) (some 7) (.tmp 5) (.tmp 6) 25 _ _ _ rfl rfl rfl rfl rfl hr ?_
       clear hr
       refine hK.out _ _ ⟨⟩ fun hHeld => ?_
       clear hK K
       try simp only [Act.put, PZ]
       refine tM 9 14 ?_
       try simp only [Act.put, PZ]
       have cB := blk_cell (hM.b gB rfl).2
       have fB := blk_free (hM.b gB rfl).2
       unfold zRound at cB
       refine r1 11 (fun K hK => ?_)
       go_simp
       refine hK.out _ _ ⟨⟩ fun hHeld => ?_
       clear hK K
       try simp only [Act.put, PZ]
       refine dn ?_
       exact ⟨rfl, aQ, cQ, gD, gS, gB, gE, W, hM, rfl, rfl⟩
  ·
   obtain ⟨gD, W, hr, hM⟩ := hM.runD hn
   refine wp_makeD (by kernel_rfl) (some 10) (.tmp 9) 25 _ _ rfl rfl rfl hr ?_
   clear hr
   refine hK.out _ _ ⟨⟩ fun hHeld => ?_
   clear hK K
   try simp only [Act.put, PZ]
   refine wpAnyH_ready (rs := [0, 8, 10]) (by kernel_rfl) (by simp) ?_
   refine AllReadyH.cons rfl (fun K hK => ?_) (AllReadyH.cons rfl (fun K hK => ?_) (AllReadyH.cons rfl (fun K hK => ?_) AllReadyH.nil))
   ·
    obtain ⟨gE, W, hg, hW, hM⟩ := hM.runE
    go_simp
    refine hK.out _ _ ⟨⟩ fun hHeld => ?_
    clear hK K
    try simp only [Act.put, PZ]
    rw [← hg, ← hW]
    clear hg hW
    refine wpAnyH_ready (rs := [2, 8, 10]) (by kernel_rfl) (by simp) ?_
    refine AllReadyH.cons rfl (fun K hK => ?_) (AllReadyH.cons rfl (fun K hK => ?_) (AllReadyH.cons rfl (fun K hK => ?_) AllReadyH.nil))
    ·
     obtain ⟨aQ, cQ, W, hr, hM⟩ := hM.runEQ cap hn (HRd.out _ hM.below)
     refine wp_appD (by kernel_rfl) (some 7) (.tmp 5) (.tmp 6) 25 _ _ _ rfl rfl rfl rfl rfl hr ?_
     clear hr
     refine hK.out _ _ ⟨⟩ fun hHeld => ?_
     clear hK K
     try simp only [Act.put, PZ]
     refine r2 8 10 (fun K hK => ?_) (fun K hK => ?_)
     ·
      obtain ⟨gS, W, hr, hM⟩ := hM.runS hn
      refine wp_makeD (by kernel_rfl) (some 13) (.tmp 12) 114 _ _ rfl rfl rfl hr ?_
      clear hr
      refine hK.out _ _ ⟨⟩ fun hHeld => ?_
      clear hK K
      try simp only [Act.put, PZ]
      refine tM 9 14 ?_
      try simp only [Act.put, PZ]
      refine r1 10 (fun K hK => ?_)
      ·
       obtain ⟨gB, W, hg, hW, hM⟩ := hM.runB
       go_simp
       refine hK.out _ _ ⟨⟩ fun hHeld => ?_
       clear hK K
       try simp only [Act.put, PZ]
       rw [← hg, ← hW]
       clear hg hW
       have cB := blk_cell (hM.b gB rfl).2
       have fB := blk_free (hM.b gB rfl).2
       unfold zRound at cB
       refine r1 11 (fun K hK => ?_)
       go_simp
       refine hK.out _ _ ⟨⟩ fun hHeld => ?_
       clear hK K
       try simp only [Act.put, PZ]
       refine dn ?_
       exact ⟨rfl, aQ, cQ, gD, gS, gB, gE, W, hM, rfl, rfl⟩
     ·
      obtain ⟨gB, W, hg, hW, hM⟩ := hM.runB
      go_simp
      refine hK.out _ _ ⟨⟩ fun hHeld => ?_
      clear hK K
      try simp only [Act.put, PZ]
      rw [← hg, ← hW]
      clear hg hW
      refine r1 8 (fun K hK => ?_)
      ·
       obtain ⟨gS, W, hr, hM⟩ := hM.runS hn
       refine wp_makeD (by kernel_rfl) (some 13) (.tmp 12) 114 _ _ rfl rfl rfl hr ?_
       clear hr
       refine hK.out _ _ ⟨⟩ fun hHeld => ?_
       clear hK K
       try simp only [Act.put, PZ]
       refine tM 9 14 ?_
       try simp only [Act.put, PZ]
       have cB := blk_cell (hM.b gB rfl).2
       have fB := blk_free (hM.b gB rfl).2
       unfold zRound at cB
       refine r1 11 (fun K hK => ?_)
       go_simp
       refine hK.out _ _ ⟨⟩ fun hHeld => ?_
       clear hK K
       try simp only [Act.put, PZ]
       refine dn ?_
       exact ⟨rfl, aQ, cQ, gD, gS, gB, gE, W, hM, rfl, rfl⟩
    ·
     obtain ⟨gS, W, hr, hM⟩ := hM.runS hn
     refine wp_makeD (by kernel_rfl) (some 13) (.tmp 12) 114 _ _ rfl rfl rfl hr ?_
     clear hr
     refine hK.out _ _ ⟨⟩ fun hHeld => ?_
     clear hK K
     try simp only [Act.put, PZ]
     refine r2 2 10 (fun K hK => ?_) (fun K hK => ?_)
     ·
      obtain ⟨aQ, cQ, W, hr, hM⟩ := hM.runEQ cap hn (HRd.out _ hM.below)
      refine wp_appD (by kernel_rfl) (some 7) (.tmp 5) (.tmp 6) 25 _ _ _ rfl rfl rfl rfl rfl hr ?_
      clear hr
      refine hK.out _ _ ⟨⟩ fun hHeld => ?_
      clear hK K
      try simp only [Act.put, PZ]
      refine tM 9 14 ?_
      try simp only [Act.put, PZ]
      refine r1 10 (fun K hK => ?_)
      ·
       obtain ⟨gB, W, hg, hW, hM⟩ := hM.runB
       go_simp
       refine hK.out _ _ ⟨⟩ fun hHeld => ?_
       clear hK K
       try simp only [Act.put, PZ]
       rw [← hg, ← hW]
       clear hg hW
       have cB := blk_cell (hM.b gB rfl).2
       have fB := blk_free (hM.b gB rfl).2
       unfold zRound at cB
       refine r1 11 (fun K hK => ?_)
       go_simp
       refine hK.out _ _ ⟨⟩ fun hHeld => ?_
       clear hK K
       try simp only [Act.put, PZ]
       refine dn ?_
       exact ⟨rfl, aQ, cQ, gD, gS, gB, gE, W, hM, rfl, rfl⟩
     ·
      obtain ⟨gB, W, hg, hW, hM⟩ := hM.runB
      go_simp
      refine hK.out _ _ ⟨⟩ fun hHeld => ?_
      clear hK K
      try simp only [Act.put, PZ]
      rw [← hg, ← hW]
      clear hg hW
      refine r1 2 (fun K hK => ?_)
      ·
       obtain ⟨aQ, cQ, W, hr, hM⟩ := hM.runEQ cap hn (HRd.out _ hM.below)
       refine wp_appD (by kernel_rfl) (some 7) (.tmp 5) (.tmp 6) 25 _ _ _ rfl rfl rfl rfl rfl hr ?_
       clear hr
       refine hK.out _ _ ⟨⟩ fun hHeld => ?_
       clear hK K
       try simp only [Act.put, PZ]
       refine tM 9 14 ?_
       try simp only [Act.put, PZ]
       have cB := blk_cell (hM.b gB rfl).2
       have fB := blk_free (hM.b gB rfl).2
       unfold zRound at cB
       refine r1 11 (fun K hK => ?_)
       go_simp
       refine hK.out _ _ ⟨⟩ fun hHeld => ?_
       clear hK K
       try simp only [Act.put, PZ]
       refine dn ?_
       exact ⟨rfl, aQ, cQ, gD, gS, gB, gE, W, hM, rfl, rfl⟩
    ·
     obtain ⟨gB, W, hg, hW, hM⟩ := hM.runB
     go_simp
     refine hK.out _ _ ⟨⟩ fun hHeld => ?_
     clear hK K
     try simp only [Act.put, PZ]
     rw [← hg, ← hW]
     clear hg hW
     refine r2 2 8 (fun K hK => ?_) (fun K hK => ?_)
     ·
      obtain ⟨aQ, cQ, W, hr, hM⟩ := hM.runEQ cap hn (HRd.out _ hM.below)
      refine wp_appD (by kernel_rfl) (some 7) (.tmp 5) (.tmp 6) 25 _ _ _ rfl rfl rfl rfl rfl hr ?_
      clear hr
      refine hK.out _ _ ⟨⟩ fun hHeld => ?_
      clear hK K
      try simp only [Act.put, PZ]
      refine r1 8 (fun K hK => ?_)
      ·
       obtain ⟨gS, W, hr, hM⟩ := hM.runS hn
       refine wp_makeD (by kernel_rfl) (some 13) (.tmp 12) 114 _ _ rfl rfl rfl hr ?_
       clear hr
       refine hK.out _ _ ⟨⟩ fun hHeld => ?_
       clear hK K
       try simp only [Act.put, PZ]
       refine tM 9 14 ?_
       try simp only [Act.put, PZ]
       have cB := blk_cell (hM.b gB rfl).2
       have fB := blk_free (hM.b gB rfl).2
       unfold zRound at cB
       refine r1 11 (fun K hK => ?_)
       go_simp
       refine hK.out _ _ ⟨⟩ fun hHeld => ?_
       clear hK K
       try simp only [Act.put, PZ]
       refine dn ?_
       exact ⟨rfl, aQ, cQ, gD, gS, gB, gE, W, hM, rfl, rfl⟩
     ·
      obtain ⟨gS, W, hr, hM⟩ := hM.runS hn
      refine wp_makeD (by kernel_rfl) (some 13) (.tmp 12) 114 _ _ rfl rfl rfl hr ?_
      clear hr
      refine hK.out _ _ ⟨⟩ fun hHeld => ?_
      clear hK K
      try simp only [Act.put, PZ]
      refine r1 2 (fun K hK => ?_)
      ·
       obtain ⟨aQ, cQ, W, hr, hM⟩ := hM.runEQ cap hn (HRd.out _ hM.below)
       refine wp_appD (by kernel_rfl) (some 7) (.tmp 5) (.tmp 6) 25 _ _ _ rfl rfl rfl rfl rfl hr ?_
       clear hr
       refine hK.out _ _ ⟨⟩ fun hHeld => ?_
       clear hK K
       try simp only [Act.put, PZ]
       refine tM 9 14 ?_
       try simp only [Act.put, PZ]
       have cB := blk_cell (hM.b gB rfl).2
       have fB := blk_free (hM.b gB rfl).2
       unfold zRound at cB
       refine r1 11 (fun K hK => ?_)
       go_simp
       refine hK.out _ _ ⟨⟩ fun hHeld => ?_
       clear hK K
       try simp only [Act.put, PZ]
       refine dn ?_
       exact ⟨rfl, aQ, cQ, gD, gS, gB, gE, W, hM, rfl, rfl⟩
   ·
    obtain ⟨gS, W, hr, hM⟩ := hM.runS hn
    refine wp_makeD (by kernel_rfl) (some 13) (.tmp 12) 114 _ _ rfl rfl rfl hr ?_
    clear hr
    refine hK.out _ _ ⟨⟩ fun hHeld => ?_
    clear hK K
    try simp only [Act.put, PZ]
    refine r2 0 10 (fun K hK => ?_) (fun K hK => ?_)
    ·
     obtain ⟨gE, W, hg, hW, hM⟩ := hM.runE
     go_simp
     refine hK.out _ _ ⟨⟩ fun hHeld => ?_
     clear hK K
     try simp only [Act.put, PZ]
     rw [← hg, ← hW]
     clear hg hW
     refine r2 2 10 (fun K hK => ?_) (fun K hK => ?_)
     ·
      obtain ⟨aQ, cQ, W, hr, hM⟩ := hM.runEQ cap hn (HRd.out _ hM.below)
      refine wp_appD (by kernel_rfl) (some 7) (.tmp 5) (.tmp 6) 25 _ _ _ rfl rfl rfl rfl rfl hr ?_
      clear hr
      refine hK.out _ _ ⟨⟩ fun hHeld => ?_
      clear hK K
      try simp only [Act.put, PZ]
      refine tM 9 14 ?_
      try simp only [Act.put, PZ]
      refine r1 10 (fun K hK => ?_)
      ·
       obtain ⟨gB, W, hg, hW, hM⟩ := hM.runB
       go_simp
       refine hK.out _ _ ⟨⟩ fun hHeld => ?_
       clear hK K
       try simp only [Act.put, PZ]
       rw [← hg, ← hW]
       clear hg hW
       have cB := blk_cell (hM.b gB rfl).2
       have fB := blk_free (hM.b gB rfl).2
       unfold zRound at cB
       refine r1 11 (fun K hK => ?_)
       go_simp
       refine hK.out _ _ ⟨⟩ fun hHeld => ?_
       clear hK K
       try simp only [Act.put, PZ]
       refine dn ?_
       exact ⟨rfl, aQ, cQ, gD, gS, gB, gE, W, hM, rfl, rfl⟩
     ·
      obtain ⟨gB, W, hg, hW, hM⟩ := hM.runB
      go_simp
      refine hK.out _ _ ⟨⟩ fun hHeld => ?_
      clear hK K
      try simp only [Act.put, PZ]
      rw [← hg, ← hW]
      clear hg hW
      refine r1 2 (fun K hK => ?_)
      ·
       obtain ⟨aQ, cQ, W, hr, hM⟩ := hM.runEQ cap hn (HRd.out _ hM.below)
       refine wp_appD (by kernel_rfl) (some 7) (.tmp 5) (.tmp 6) 25 _ _ _ rfl rfl rfl rfl rfl hr ?_
       clear hr
       refine hK.out _ _ ⟨⟩ fun hHeld => ?_
       clear hK K
       try simp only [Act.put, PZ]
       refine tM 9 14 ?_
       try simp only [Act.put, PZ]
       have cB := blk_cell (hM.b gB rfl).2
       have fB := blk_free (hM.b gB rfl).2
       unfold zRound at cB
       refine r1 11 (fun K hK => ?_)
       go_simp
       refine hK.out _ _ ⟨⟩ fun hHeld => ?_
       clear hK K
       try simp only [Act.put, PZ]
       refine dn ?_
       exact ⟨rfl, aQ, cQ, gD, gS, gB, gE, W, hM, rfl, rfl⟩
    ·
     obtain ⟨gB, W, hg, hW, hM⟩ := hM.runB
     go_simp
     refine hK.out _ _ ⟨⟩ fun hHeld => ?_
     clear hK K
     try simp only [Act.put, PZ]
     rw [← hg, ← hW]
     clear hg hW
     refine r1 0 (fun K hK => ?_)
     ·
      obtain ⟨gE, W, hg, hW, hM⟩ := hM.runE
      go_simp
      refine hK.out _ _ ⟨⟩ fun hHeld => ?_
      clear hK K
      try simp only [Act.put, PZ]
      rw [← hg, ← hW]
      clear hg hW
      refine r1 2 (fun K hK => ?_)
      ·
       obtain ⟨aQ, cQ, W, hr, hM⟩ := hM.runEQ cap hn (HRd.out _ hM.below)
       refine wp_appD (by kernel_rfl) (some 7) (.tmp 5) (.tmp 6) 25 _ _ _ rfl rfl rfl rfl rfl hr ?_
       clear hr
       refine hK.out _ _ ⟨⟩ fun hHeld => ?_
       clear hK K
       try simp only [Act.put, PZ]
       refine tM 9 14 ?_
       try simp only [Act.put, PZ]
       have cB := blk_cell (hM.b gB rfl).2
       have fB := blk_free (hM.b gB rfl).2
       unfold zRound at cB
       refine r1 11 (fun K hK => ?_)
       go_simp
       refine hK.out _ _ ⟨⟩ fun hHeld => ?_
       clear hK K
       try simp only [Act.put, PZ]
       refine dn ?_
       exact ⟨rfl, aQ, cQ, gD, gS, gB, gE, W, hM, rfl, rfl⟩
   ·
    obtain ⟨gB, W, hg, hW, hM⟩ := hM.runB
    go_simp
    refine hK.out _ _ ⟨⟩ fun hHeld => ?_
    clear hK K
    try simp only [Act.put, PZ]
    rw [← hg, ← hW]
    clear hg hW
    refine r2 0 8 (fun K hK => ?_) (fun K hK => ?_)
    ·
     obtain ⟨gE, W, hg, hW, hM⟩ := hM.runE
     go_simp
     refine hK.out _ _ ⟨⟩ fun hHeld => ?_
     clear hK K
     try simp only [Act.put, PZ]
     rw [← hg, ← hW]
     clear hg hW
     refine r2 2 8 (fun K hK => ?_) (fun K hK => ?_)
     ·
      obtain ⟨aQ, cQ, W, hr, hM⟩ := hM.runEQ cap hn (HRd.out _ hM.below)
      refine wp_appD (by kernel_rfl) (some 7) (.tmp 5) (.tmp 6) 25 _ _ _ rfl rfl rfl rfl rfl hr ?_
      clear hr
      refine hK.out _ _ ⟨⟩ fun hHeld => ?_
      clear hK K
      try simp only [Act.put, PZ]
      refine r1 8 (fun K hK => ?_)
      ·
       obtain ⟨gS, W, hr, hM⟩ := hM.runS hn
       refine wp_makeD (by kernel_rfl) (some 13) (.tmp 12) 114 _ _ rfl rfl rfl hr ?_
       clear hr
       refine hK.out _ _ ⟨⟩ fun hHeld => ?_
       clear hK K
       try simp only [Act.put, PZ]
       refine tM 9 14 ?_
       try simp only [Act.put, PZ]
       have cB := blk_cell (hM.b gB rfl).2
       have fB := blk_free (hM.b gB rfl).2
       unfold zRound at cB
       refine r1 11 (fun K hK => ?_)
       go_simp
       refine hK.out _ _ ⟨⟩ fun hHeld => ?_
       clear hK K
       try simp only [Act.put, PZ]
       refine dn ?_
       exact ⟨rfl, aQ, cQ, gD, gS, gB, gE, W, hM, rfl, rfl⟩
     ·
      obtain ⟨gS, W, hr, hM⟩ := hM.runS hn
      refine wp_makeD (by kernel_rfl) (some 13) (.tmp 12) 114 _ _ rfl rfl rfl hr ?_
      clear hr
      refine hK.out _ _ ⟨⟩ fun hHeld => ?_
      clear hK K
      try simp only [Act.put, PZ]
      refine r1 2 (fun K hK => ?_)
      ·
       obtain ⟨aQ, cQ, W, hr, hM⟩ := hM.runEQ cap hn (HRd.out _ hM.below)
       refine wp_appD (by kernel_rfl) (some 7) (.tmp 5) (.tmp 6) 25 _ _ _ rfl rfl rfl rfl rfl hr ?_
       clear hr
       refine hK.out _ _ ⟨⟩ fun hHeld => ?_
       clear hK K
       try simp only [Act.put, PZ]
       refine tM 9 14 ?_
       try simp only [Act.put, PZ]
       have cB := blk_cell (hM.b gB rfl).2
       have fB := blk_free (hM.b gB rfl).2
       unfold zRound at cB
       refine r1 11 (fun K hK => ?_)
       go_simp
       refine hK.out _ _ ⟨⟩ fun hHeld => ?_
       clear hK K
       try simp only [Act.put, PZ]
       refine dn ?_
       exact ⟨rfl, aQ, cQ, gD, gS, gB, gE, W, hM, rfl, rfl⟩
    ·
     obtain ⟨gS, W, hr, hM⟩ := hM.runS hn
     refine wp_makeD (by kernel_rfl) (some 13) (.tmp 12) 114 _ _ rfl rfl rfl hr ?_
     clear hr
     refine hK.out _ _ ⟨⟩ fun hHeld => ?_
     clear hK K
     try simp only [Act.put, PZ]
     refine r1 0 (fun K hK => ?_)
     ·
      obtain ⟨gE, W, hg, hW, hM⟩ := hM.runE
      go_simp
      refine hK.out _ _ ⟨⟩ fun hHeld => ?_
      clear hK K
      try simp only [Act.put, PZ]
      rw [← hg, ← hW]
      clear hg hW
      refine r1 2 (fun K hK => ?_)
      ·
       obtain ⟨aQ, cQ, W, hr, hM⟩ := hM.runEQ cap hn (HRd.out _ hM.below)
       refine wp_appD (by kernel_rfl) (some 7) (.tmp 5) (.tmp 6) 25 _ _ _ rfl rfl rfl rfl rfl hr ?_
       clear hr
       refine hK.out _ _ ⟨⟩ fun hHeld => ?_
       clear hK K
       try simp only [Act.put, PZ]
       refine tM 9 14 ?_
       try simp only [Act.put, PZ]
       have cB := blk_cell (hM.b gB rfl).2
       have fB := blk_free (hM.b gB rfl).2
       unfold zRound at cB
       refine r1 11 (fun K hK => ?_)
       go_simp
       refine hK.out _ _ ⟨⟩ fun hHeld => ?_
       clear hK K
       try simp only [Act.put, PZ]
       refine dn ?_
       exact ⟨rfl, aQ, cQ, gD, gS, gB, gE, W, hM, rfl, rfl⟩
  ·
   obtain ⟨gS, W, hr, hM⟩ := hM.runS hn
   refine wp_makeD (by kernel_rfl) (some 13) (.tmp 12) 114 _ _ rfl rfl rfl hr ?_
   clear hr
   refine hK.out _ _ ⟨⟩ fun hHeld => ?_
   clear hK K
   try simp only [Act.put, PZ]
   refine wpAnyH_ready (rs := [0, 5, 10]) (by kernel_rfl) (by simp) ?_
   refine AllReadyH.cons rfl (fun K hK => ?_) (AllReadyH.cons rfl (fun K hK => ?_) (AllReadyH.cons rfl (fun K hK => ?_) AllReadyH.nil))
   ·
    obtain ⟨gE, W, hg, hW, hM⟩ := hM.runE
    go_simp
    refine hK.out _ _ ⟨⟩ fun hHeld => ?_
    clear hK K
    try simp only [Act.put, PZ]
    rw [← hg, ← hW]
    clear hg hW
    refine wpAnyH_ready (rs := [2, 5, 10]) (by kernel_rfl) (by simp) ?_
    refine AllReadyH.cons rfl (fun K hK => ?_) (AllReadyH.cons rfl (fun K hK => ?_) (AllReadyH.cons rfl (fun K hK => ?_) AllReadyH.nil))
    ·
     obtain ⟨aQ, cQ, W, hr, hM⟩ := hM.runEQ cap hn (HRd.out _ hM.below)
     refine wp_appD (by kernel_rfl) (some 7) (.tmp 5) (.tmp 6) 25 _ _ _ rfl rfl rfl rfl rfl hr ?_
     clear hr
     refine hK.out _ _ ⟨⟩ fun hHeld => ?_
     clear hK K
     try simp only [Act.put, PZ]
     refine r2 5 10 (fun K hK => ?_) (fun K hK => ?_)
     ·
      obtain ⟨gD, W, hr, hM⟩ := hM.runD hn
      refine wp_makeD (by kernel_rfl) (some 10) (.tmp 9) 25 _ _ rfl rfl rfl hr ?_
      clear hr
      refine hK.out _ _ ⟨⟩ fun hHeld => ?_
      clear hK K
      try simp only [Act.put, PZ]
      refine tM 9 14 ?_
      try simp only [Act.put, PZ]
      refine r1 10 (fun K hK => ?_)
      ·
       obtain ⟨gB, W, hg, hW, hM⟩ := hM.runB
       go_simp
       refine hK.out _ _ ⟨⟩ fun hHeld => ?_
       clear hK K
       try simp only [Act.put, PZ]
       rw [← hg, ← hW]
       clear hg hW
       have cB := blk_cell (hM.b gB rfl).2
       have fB := blk_free (hM.b gB rfl).2
       unfold zRound at cB
       refine r1 11 (fun K hK => ?_)
       go_simp
       refine hK.out _ _ ⟨⟩ fun hHeld => ?_
       clear hK K
       try simp only [Act.put, PZ]
       refine dn ?_
       exact ⟨rfl, aQ, cQ, gD, gS, gB, gE, W, hM, rfl, rfl⟩
     ·
      obtain ⟨gB, W, hg, hW, hM⟩ := hM.runB
      go_simp
      refine hK.out _ _ ⟨⟩ fun hHeld => ?_
      clear hK K
      try simp only [Act.put, PZ]
      rw [← hg, ← hW]
      clear hg hW
      refine r1 5 (fun K hK => ?_)
      ·
       obtain ⟨gD, W, hr, hM⟩ := hM.runD hn
       refine wp_makeD (by kernel_rfl) (some 10) (.tmp 9) 25 _ _ rfl rfl rfl hr ?_
       clear hr
       refine hK.out _ _ ⟨⟩ fun hHeld => ?_
       clear hK K
       try simp only [Act.put, PZ]
       refine tM 9 14 ?_
       try simp only [Act.put, PZ]
       have cB := blk_cell (hM.b gB rfl).2
       have fB := blk_free (hM.b gB rfl).2
       unfold zRound at cB
       refine r1 11 (fun K hK => ?_)
       go_simp
       refine hK.out _ _ ⟨⟩ fun hHeld => ?_
       clear hK K
       try simp only [Act.put, PZ]
       refine dn ?_
       exact ⟨rfl, aQ, cQ, gD, gS, gB, gE, W, hM, rfl, rfl⟩
    ·
     obtain ⟨gD, W, hr, hM⟩ := hM.runD hn
     refine wp_makeD (by kernel_rfl) (some 10) (.tmp 9) 25 _ _ rfl rfl rfl hr ?_
     clear hr
     refine hK.out _ _ ⟨⟩ fun hHeld => ?_
     clear hK K
     try simp only [Act.put, PZ]
     refine r2 2 10 (fun K hK => ?_) (fun K hK => ?_)
     ·
      obtain ⟨aQ, cQ, W, hr, hM⟩ := hM.runEQ cap hn (HRd.out _ hM.below)
      refine wp_appD (by kernel_rfl) (some 7) (.tmp 5) (.tmp 6) 25 _ _ _ rfl rfl rfl rfl rfl hr ?_
      clear hr
      refine hK.out _ _ ⟨⟩ fun hHeld => ?_
      clear hK K
      try simp only [Act.put, PZ]
      refine tM 9 14 ?_
      try simp only [Act.put, PZ]
      refine r1 10 (fun K hK => ?_)
      ·
       obtain ⟨gB, W, hg, hW, hM⟩ := hM.runB
       go_simp
       refine hK.out _ _ ⟨⟩ fun hHeld => ?_
       clear hK K
       try simp only [Act.put, PZ]
       rw [← hg, ← hW]
       clear hg hW
       have cB := blk_cell (hM.b gB rfl).2
       have fB := blk_free (hM.b gB rfl).2
       unfold zRound at cB
       refine r1 11 (fun K hK => ?_)
       go_simp
       refine hK.out _ _ ⟨⟩ fun hHeld => ?_
       clear hK K
       try simp only [Act.put, PZ]
       refine dn ?_
       exact ⟨rfl, aQ, cQ, gD, gS, gB, gE, W, hM, rfl, rfl⟩
     ·
      obtain ⟨gB, W, hg, hW, hM⟩ := hM.runB
      go_simp
      refine hK.out _ _ ⟨⟩ fun hHeld => ?_
      clear hK K
      try simp only [Act.put, PZ]
      rw [← hg, ← hW]
      clear hg hW
      refine r1 2 (fun K hK => ?_)
      ·
       obtain ⟨aQ, cQ, W, hr, hM⟩ := hM.runEQ cap hn (HRd.out _ hM.below)
       refine wp_appD (by kernel_rfl) (some 7) (.tmp 5) (.tmp 6) 25 _ _ _ rfl rfl rfl rfl rfl hr ?_
       clear hr
       refine hK.out _ _ ⟨⟩ fun hHeld => ?_
       clear hK K
       try simp only [Act.put, PZ]
       refine tM 9 14 ?_
       try simp only [Act.put, PZ]
       have cB := blk_cell (hM.b gB rfl).2
       have fB := blk_free (hM.b gB rfl).2
       unfold zRound at cB
       refine r1 11 (fun K hK => ?_)
       go_simp
       refine hK.out _ _ ⟨⟩ fun hHeld => ?_
       clear hK K
       try simp only [Act.put, PZ]
       refine dn ?_
       exact ⟨rfl, aQ, cQ, gD, gS, gB, gE, W, hM, rfl, rfl⟩
    ·
     obtain ⟨gB, W, hg, hW, hM⟩ := hM.runB
     go_simp
     refine hK.out _ _ ⟨⟩ fun hHeld => ?_
     clear hK K
     try simp only [Act.put, PZ]
     rw [← hg, ← hW]
     clear hg hW
     refine r2 2 5 (fun K hK => ?_) (fun K hK => ?_)
     ·
      obtain ⟨aQ, cQ, W, hr, hM⟩ := hM.runEQ cap hn (HRd.out _ hM.below)
      refine wp_appD (by kernel_rfl) (some 7) (.tmp 5) (.tmp 6) 25 _ _ _ rfl rfl rfl rfl rfl hr ?_
      clear hr
      refine hK.out _ _ ⟨⟩ fun hHeld => ?_
      clear hK K
      try simp only [Act.put, PZ]
      refine r1 5 (fun K hK => ?_)
      ·
       obtain ⟨gD, W, hr, hM⟩ := hM.runD hn
       refine wp_makeD (by kernel_rfl) (some 10) (.tmp 9) 25 _ _ rfl rfl rfl hr ?_
       clear hr
       refine hK.out _ _ ⟨⟩ fun hHeld => ?_
       clear hK K
       try simp only [Act.put, PZ]
       refine tM 9 14 ?_
       try simp only [Act.put, PZ]
       have cB := blk_cell (hM.b gB rfl).2
       have fB := blk_free (hM.b gB rfl).2
       unfold zRound at cB
       refine r1 11 (fun K hK => ?_)
       go_simp
       refine hK.out _ _ ⟨⟩ fun hHeld => ?_
       clear hK K
       try simp only [Act.put, PZ]
       refine dn ?_
       exact ⟨rfl, aQ, cQ, gD, gS, gB, gE, W, hM, rfl, rfl⟩
     ·
      obtain ⟨gD, W, hr, hM⟩ := hM.runD hn
      refine wp_makeD (by kernel_rfl) (some 10) (.tmp 9) 25 _ _ rfl rfl rfl hr ?_
      clear hr
      refine hK.out _ _ ⟨⟩ fun hHeld => ?_
      clear hK K
      try simp only [Act.put, PZ]
      refine r1 2 (fun K hK => ?_)
      ·
       obtain ⟨aQ, cQ, W, hr, hM⟩ := hM.runEQ cap hn (HRd.out _ hM.below)
       refine wp_appD (by kernel_rfl) (some 7) (.tmp 5) (.tmp 6) 25 _ _ _ rfl rfl rfl rfl rfl hr ?_
       clear hr
       refine hK.out _ _ ⟨⟩ fun hHeld => ?_
       clear hK K
       try simp only [Act.put, PZ]
       refine tM 9 14 ?_
       try simp only [Act.put, PZ]
       have cB := blk_cell (hM.b gB rfl).2
       have fB := blk_free (hM.b gB rfl).2
       unfold zRound at cB
       refine r1 11 (fun K hK => ?_)
       go_simp
       refine hK.out _ _ ⟨⟩ fun hHeld => ?_
       clear hK K
       try simp only [Act.put, PZ]
       refine dn ?_
       exact ⟨rfl, aQ, cQ, gD, gS, gB, gE, W, hM, rfl, rfl⟩
   ·
    obtain ⟨gD, W, hr, hM⟩ := hM.runD hn
    refine wp_makeD (by kernel_rfl) (some 10) (.tmp 9) 25 _ _ rfl rfl rfl hr ?_
    clear hr
    refine hK.out _ _ ⟨⟩ fun hHeld => ?_
    clear hK K
    try simp only [Act.put, PZ]
    refine r2 0 10 (fun K hK => ?_) (fun K hK => ?_)
    ·
     obtain ⟨gE, W, hg, hW, hM⟩ := hM.runE
     go_simp
     refine hK.out _ _ ⟨⟩ fun hHeld => ?_
     clear hK K
     try simp only [Act.put, PZ]
     rw [← hg, ← hW]
     clear hg hW
     refine r2 2 10 (fun K hK => ?_) (fun K hK => ?_)
     ·
      obtain ⟨aQ, cQ, W, hr, hM⟩ := hM.runEQ cap hn (HRd.out _ hM.below)
      refine wp_appD (by kernel_rfl) (some 7) (.tmp 5) (.tmp 6) 25 _ _ _ rfl rfl rfl rfl rfl hr ?_
      clear hr
      refine hK.out _ _ ⟨⟩ fun hHeld => ?_
      clear hK K
      try simp only [Act.put, PZ]
      refine tM 9 14 ?_
      try simp only [Act.put, PZ]
      refine r1 10 (fun K hK => ?_)
      ·
       obtain ⟨gB, W, hg, hW, hM⟩ := hM.runB
       go_simp
       refine hK.out _ _ ⟨⟩ fun hHeld => ?_
       clear hK K
       try simp only [Act.put, PZ]
       rw [← hg, ← hW]
       clear hg hW
       have cB := blk_cell (hM.b gB rfl).2
       have fB := blk_free (hM.b gB rfl).2
       unfold zRound at cB
       refine r1 11 (fun K hK => ?_)
       go_simp
       refine hK.out _ _ ⟨⟩ fun hHeld => ?_
       clear hK K
       try simp only [Act.put, PZ]
       refine dn ?_
       exact ⟨rfl, aQ, cQ, gD, gS, gB, gE, W, hM, rfl, rfl⟩
     ·
      obtain ⟨gB, W, hg, hW, hM⟩ := hM.runB
      go_simp
      refine hK.out _ _ ⟨⟩ fun hHeld => ?_
      clear hK K
      try simp only [Act.put, PZ]
      rw [← hg, ← hW]
      clear hg hW
      refine r1 2 (fun K hK => ?_)
      ·
       obtain ⟨aQ, cQ, W, hr, hM⟩ := hM.runEQ cap hn (HRd.out _ hM.below)
       refine wp_appD (by kernel_rfl) (some 7) (.tmp 5) (.tmp 6) 25 _ _ _ rfl rfl rfl rfl rfl hr ?_
       clear hr
       refine hK.out _ _ ⟨⟩ fun hHeld => ?_
       clear hK K
       try simp only [Act.put, PZ]
       refine tM 9 14 ?_
       try simp only [Act.put, PZ]
       have cB := blk_cell (hM.b gB rfl).2
       have fB := blk_free (hM.b gB rfl).2
       unfold zRound at cB
       refine r1 11 (fun K hK => ?_)
       go_simp
       refine hK.out _ _ ⟨⟩ fun hHeld => ?_
       clear hK K
       try simp only [Act.put, PZ]
       refine dn ?_
       exact ⟨rfl, aQ, cQ, gD, gS, gB, gE, W, hM, rfl, rfl⟩
    ·
     obtain ⟨gB, W, hg, hW, hM⟩ := hM.runB
     go_simp
     refine hK.out _ _ ⟨⟩ fun hHeld => ?_
     clear hK K
     try simp only [Act.put, PZ]
     rw [← hg, ← hW]
     clear hg hW
     refine r1 0 (fun K hK => ?_)
     ·
      obtain ⟨gE, W, hg, hW, hM⟩ := hM.runE
      go_simp
      refine hK.out _ _ ⟨⟩ fun hHeld => ?_
      clear hK K
      try simp only [Act.put, PZ]
      rw [← hg, ← hW]
      clear hg hW
      refine r1 2 (fun K hK => ?_)
      ·
       obtain ⟨aQ, cQ, W, hr, hM⟩ := hM.runEQ cap hn (HRd.out _ hM.below)
       refine wp_appD (by kernel_rfl) (some 7) (.tmp 5) (.tmp 6) 25 _ _ _ rfl rfl rfl rfl rfl hr ?_
       clear hr
       refine hK.out _ _ ⟨⟩ fun hHeld => ?_
       clear hK K
       try simp only [Act.put, PZ]
       refine tM 9 14 ?_
       try simp only [Act.put, PZ]
       have cB := blk_cell (hM.b gB rfl).2
       have fB := blk_free (hM.b gB rfl).2
       unfold zRound at cB
       refine r1 11 (fun K hK => ?_)
       go_simp
       refine hK.out _ _ ⟨⟩ fun hHeld => ?_
       clear hK K
       try simp only [Act.put, PZ]
       refine dn ?_
       exact ⟨rfl, aQ, cQ, gD, gS, gB, gE, W, hM, rfl, rfl⟩
   ·
    obtain ⟨gB, W, hg, hW, hM⟩ := hM.runB
    go_simp
    refine hK.out _ _ ⟨⟩ fun hHeld => ?_
    clear hK K
    try simp only [Act.put, PZ]
    rw [← hg, ← hW]
    clear hg hW
    refine r2 0 5 (fun K hK => ?_) (fun K hK => ?_)
    ·
     obtain ⟨gE, W, hg, hW, hM⟩ := hM.runE
     go_simp
     refine hK.out _ _ ⟨⟩ fun hHeld => ?_
     clear hK K
     try simp only [Act.put, PZ]
     rw [← hg, ← hW]
     clear hg hW
     refine r2 2 5 (fun K hK => ?_) (fun K hK => ?_)
     ·
      obtain ⟨aQ, cQ, W, hr, hM⟩ := hM.runEQ cap hn (HRd.out _ hM.below)
      refine wp_appD (by kernel_rfl) (some 7) (.tmp 5) (.tmp 6) 25 _ _ _ rfl rfl rfl rfl rfl hr ?_
      clear hr
      refine hK.out _ _ ⟨⟩ fun hHeld => ?_
      clear hK K
      try simp only [Act.put, PZ]
      refine r1 5 (fun K hK => ?_)
      ·
       obtain ⟨gD, W, hr, hM⟩ := hM.runD hn
       refine wp_makeD (by kernel_rfl) (some 10) (.tmp 9) 25 _ _ rfl rfl rfl hr ?_
       clear hr
       refine hK.out _ _ ⟨⟩ fun hHeld => ?_
       clear hK K
       try simp only [Act.put, PZ]
       refine tM 9 14 ?_
       try simp only [Act.put, PZ]
       have cB := blk_cell (hM.b gB rfl).2
       have fB := blk_free (hM.b gB rfl).2
       unfold zRound at cB
       refine r1 11 (fun K hK => ?_)
       go_simp
       refine hK.out _ _ ⟨⟩ fun hHeld => ?_
       clear hK K
       try simp only [Act.put, PZ]
       refine dn ?_
       exact ⟨rfl, aQ, cQ, gD, gS, gB, gE, W, hM, rfl, rfl⟩
     ·
      obtain ⟨gD, W, hr, hM⟩ := hM.runD hn
      refine wp_makeD (by kernel_rfl) (some 10) (.tmp 9) 25 _ _ rfl rfl rfl hr ?_
      clear hr
      refine hK.out _ _ ⟨⟩ fun hHeld => ?_
      clear hK K
      try simp only [Act.put, PZ]
      refine r1 2 (fun K hK => ?_)
      ·
       obtain ⟨aQ, cQ, W, hr, hM⟩ := hM.runEQ cap hn (HRd.out _ hM.below)
       refine wp_appD (by kernel_rfl) (some 7) (.tmp 5) (.tmp 6) 25 _ _ _ rfl rfl rfl rfl rfl hr ?_
       clear hr
       refine hK.out _ _ ⟨⟩ fun hHeld => ?_
       clear hK K
       try simp only [Act.put, PZ]
       refine tM 9 14 ?_
       try simp only [Act.put, PZ]
       have cB := blk_cell (hM.b gB rfl).2
       have fB := blk_free (hM.b gB rfl).2
       unfold zRound at cB
       refine r1 11 (fun K hK => ?_)
       go_simp
       refine hK.out _ _ ⟨⟩ fun hHeld => ?_
       clear hK K
       try simp only [Act.put, PZ]
       refine dn ?_
       exact ⟨rfl, aQ, cQ, gD, gS, gB, gE, W, hM, rfl, rfl⟩
    ·
     obtain ⟨gD, W, hr, hM⟩ := hM.runD hn
     refine wp_makeD (by kernel_rfl) (some 10) (.tmp 9) 25 _ _ rfl rfl rfl hr ?_
     clear hr
     refine hK.out _ _ ⟨⟩ fun hHeld => ?_
     clear hK K
     try simp only [Act.put, PZ]
     refine r1 0 (fun K hK => ?_)
     ·
      obtain ⟨gE, W, hg, hW, hM⟩ := hM.runE
      go_simp
      refine hK.out _ _ ⟨⟩ fun hHeld => ?_
      clear hK K
      try simp only [Act.put, PZ]
      rw [← hg, ← hW]
      clear hg hW
      refine r1 2 (fun K hK => ?_)
      ·
       obtain ⟨aQ, cQ, W, hr, hM⟩ := hM.runEQ cap hn (HRd.out _ hM.below)
       refine wp_appD (by kernel_rfl) (some 7) (.tmp 5) (.tmp 6) 25 _ _ _ rfl rfl rfl rfl rfl hr ?_
       clear hr
       refine hK.out _ _ ⟨⟩ fun hHeld => ?_
       clear hK K
       try simp only [Act.put, PZ]
       refine tM 9 14 ?_
       try simp only [Act.put, PZ]
       have cB := blk_cell (hM.b gB rfl).2
       have fB := blk_free (hM.b gB rfl).2
       unfold zRound at cB
       refine r1 11 (fun K hK => ?_)
       go_simp
       refine hK.out _ _ ⟨⟩ fun hHeld => ?_
       clear hK K
       try simp only [Act.put, PZ]
       refine dn ?_
       exact ⟨rfl, aQ, cQ, gD, gS, gB, gE, W, hM, rfl, rfl⟩
  ·
   obtain ⟨gB, W, hg, hW, hM⟩ := hM.runB
   go_simp
   refine hK.out _ _ ⟨⟩ fun hHeld => ?_
   clear hK K
   try simp only [Act.put, PZ]
   rw [← hg, ← hW]
   clear hg hW
   refine wpAnyH_ready (rs := [0, 5, 8]) (by kernel_rfl) (by simp) ?_
   refine AllReadyH.cons rfl (fun K hK => ?_) (AllReadyH.cons rfl (fun K hK => ?_) (AllReadyH.cons rfl (fun K hK => ?_) AllReadyH.nil))
   ·
    obtain ⟨gE, W, hg, hW, hM⟩ := hM.runE
    go_simp
    refine hK.out _ _ ⟨⟩ fun hHeld => ?_
    clear hK K
    try simp only [Act.put, PZ]
    rw [← hg, ← hW]
    clear hg hW
    refine wpAnyH_ready (rs := [2, 5, 8]) (by kernel_rfl) (by simp) ?_
    refine AllReadyH.cons rfl (fun K hK => ?_) (AllReadyH.cons rfl (fun K hK => ?_) (AllReadyH.cons rfl (fun K hK => ?_) AllReadyH.nil))
    ·
     obtain ⟨aQ, cQ, W, hr, hM⟩ := hM.runEQ cap hn (HRd.out _ hM.below)
     refine wp_appD (by kernel_rfl) (some 7) (.tmp 5) (.tmp 6) 25 _ _ _ rfl rfl rfl rfl rfl hr ?_
     clear hr
     refine hK.out _ _ ⟨⟩ fun hHeld => ?_
     clear hK K
     try simp only [Act.put, PZ]
     refine r2 5 8 (fun K hK => ?_) (fun K hK => ?_)
     ·
      obtain ⟨gD, W, hr, hM⟩ := hM.runD hn
      refine wp_makeD (by kernel_rfl) (some 10) (.tmp 9) 25 _ _ rfl rfl rfl hr ?_
      clear hr
      refine hK.out _ _ ⟨⟩ fun hHeld => ?_
      clear hK K
      try simp only [Act.put, PZ]
      refine r1 8 (fun K hK => ?_)
      ·
       obtain ⟨gS, W, hr, hM⟩ := hM.runS hn
       refine wp_makeD (by kernel_rfl) (some 13) (.tmp 12) 114 _ _ rfl rfl rfl hr ?_
       clear hr
       refine hK.out _ _ ⟨⟩ fun hHeld => ?_
       clear hK K
       try simp only [Act.put, PZ]
       refine tM 9 14 ?_
       try simp only [Act.put, PZ]
       have cB := blk_cell (hM.b gB rfl).2
       have fB := blk_free (hM.b gB rfl).2
       unfold zRound at cB
       refine r1 11 (fun K hK => ?_)
       go_simp
       refine hK.out _ _ ⟨⟩ fun hHeld => ?_
       clear hK K
       try simp only [Act.put, PZ]
       refine dn ?_
       exact ⟨rfl, aQ, cQ, gD, gS, gB, gE, W, hM, rfl, rfl⟩
     ·
      obtain ⟨gS, W, hr, hM⟩ := hM.runS hn
      refine wp_makeD (by kernel_rfl) (some 13) (.tmp 12) 114 _ _ rfl rfl rfl hr ?_
      clear hr
      refine hK.out _ _ ⟨⟩ fun hHeld => ?_
      clear hK K
      try simp only [Act.put, PZ]
      refine r1 5 (fun K hK => ?_)
      ·
       obtain ⟨gD, W, hr, hM⟩ := hM.runD hn
       refine wp_makeD (by kernel_rfl) (some 10) (.tmp 9) 25 _ _ rfl rfl rfl hr ?_
       clear hr
       refine hK.out _ _ ⟨⟩ fun hHeld => ?_
       clear hK K
       try simp only [Act.put, PZ]
       refine tM 9 14 ?_
       try simp only [Act.put, PZ]
       have cB := blk_cell (hM.b gB rfl).2
       have fB := blk_free (hM.b gB rfl).2
       unfold zRound at cB
       refine r1 11 (fun K hK => ?_)
       go_simp
       refine hK.out _ _ ⟨⟩ fun hHeld => ?_
       clear hK K
       try simp only [Act.put, PZ]
       refine dn ?_
       exact ⟨rfl, aQ, cQ, gD, gS, gB, gE, W, hM, rfl, rfl⟩
    ·
     obtain ⟨gD, W, hr, hM⟩ := hM.runD hn
     refine wp_makeD (by kernel_rfl) (some 10) (.tmp 9) 25 _ _ rfl rfl rfl hr ?_
     clear hr
     refine hK.out _ _ ⟨⟩ fun hHeld => ?_
     clear hK K
     try simp only [Act.put, PZ]
     refine r2 2 8 (fun K hK => ?_) (fun K hK => ?_)
     ·
      obtain ⟨aQ, cQ, W, hr, hM⟩ := hM.runEQ cap hn (HRd.out _ hM.below)
      refine wp_appD (by kernel_rfl) (some 7) (.tmp 5) (.tmp 6) 25 _ _ _ rfl rfl rfl rfl rfl hr ?_
      clear hr
      refine hK.out _ _ ⟨⟩ fun hHeld => ?_
      clear hK K
      try simp only [Act.put, PZ]
      refine r1 8 (fun K hK => ?_)
      ·
       obtain ⟨gS, W, hr, hM⟩ := hM.runS hn
       refine wp_makeD (by kernel_rfl) (some 13) (.tmp 12) 114 _ _ rfl rfl rfl hr ?_
       clear hr
       refine hK.out _ _ ⟨⟩ fun hHeld => ?_
       clear hK K
       try simp only [Act.put, PZ]
       refine tM 9 14 ?_
       try simp only [Act.put, PZ]
       have cB := blk_cell (hM.b gB rfl).2
       have fB := blk_free (hM.b gB rfl).2
       unfold zRound at cB
       refine r1 11 (fun K hK => ?_)
       go_simp
       refine hK.out _ _ ⟨⟩ fun hHeld => ?_
       clear hK K
       try simp only [Act.put, PZ]
       refine dn ?_
       exact ⟨rfl, aQ, cQ, gD, gS, gB, gE, W, hM, rfl, rfl⟩
     ·
      obtain ⟨gS, W, hr, hM⟩ := hM.runS hn
      refine wp_makeD (by kernel_rfl) (some 13) (.tmp 12) 114 _ _ rfl rfl rfl hr ?_
      clear hr
      refine hK.out _ _ ⟨⟩ fun hHeld => ?_
      clear hK K
      try simp only [Act.put, PZ]
      refine r1 2 (fun K hK => ?_)
      ·
       obtain ⟨aQ, cQ, W, hr, hM⟩ := hM.runEQ cap hn (HRd.out _ hM.below)
       refine wp_appD (by kernel_rfl) (some 7) (.tmp 5) (.tmp 6) 25 _ _ _ rfl rfl rfl rfl rfl hr ?_
       clear hr
       refine hK.out _ _ ⟨⟩ fun hHeld => ?_
       clear hK K
       try simp only [Act.put, PZ]
       refine tM 9 14 ?_
       try simp only [Act.put, PZ]
       have cB := blk_cell (hM.b gB rfl).2
       have fB := blk_free (hM.b gB rfl).2
       unfold zRound at cB
       refine r1 11 (fun K hK => ?_)
       go_simp
       refine hK.out _ _ ⟨⟩ fun hHeld => ?_
       clear hK K
       try simp only [Act.put, PZ]
       refine dn ?_
       exact ⟨rfl, aQ, cQ, gD, gS, gB, gE, W, hM, rfl, rfl⟩
    ·
     obtain ⟨gS, W, hr, hM⟩ := hM.runS hn
     refine wp_makeD (by kernel_rfl) (some 13) (.tmp 12) 114 _ _ rfl rfl rfl hr ?_
     clear hr
     refine hK.out _ _ ⟨⟩ fun hHeld => ?_
     clear hK K
     try simp only [Act.put, PZ]
     refine r2 2 5 (fun K hK => ?_) (fun K hK => ?_)
     ·
      obtain ⟨aQ, cQ, W, hr, hM⟩ := hM.runEQ cap hn (HRd.out _ hM.below)
      refine wp_appD (by kernel_rfl) (some 7) (.tmp 5) (.tmp 6) 25 _ _ _ rfl rfl rfl rfl rfl hr ?_
      clear hr
      refine hK.out _ _ ⟨⟩ fun hHeld => ?_
      clear hK K
      try simp only [Act.put, PZ]
      refine r1 5 (fun K hK => ?_)
      ·
       obtain ⟨gD, W, hr, hM⟩ := hM.runD hn
       refine wp_makeD (by kernel_rfl) (some 10) (.tmp 9) 25 _ _ rfl rfl rfl hr ?_
       clear hr
       refine hK.out _ _ ⟨⟩ fun hHeld => ?_
       clear hK K
       try simp only [Act.put, PZ]
       refine tM 9 14 ?_
       try simp only [Act.put, PZ]
       have cB := blk_cell (hM.b gB rfl).2
       have fB := blk_free (hM.b gB rfl).2
       unfold zRound at cB
       refine r1 11 (fun K hK => ?_)
       go_simp
       refine hK.out _ _ ⟨⟩ fun hHeld => ?_
       clear hK K
       try simp only [Act.put, PZ]
       refine dn ?_
       exact ⟨rfl, aQ, cQ, gD, gS, gB, gE, W, hM, rfl, rfl⟩
     ·
      obtain ⟨gD, W, hr, hM⟩ := hM.runD hn
      refine wp_makeD (by kernel_rfl) (some 10) (.tmp 9) 25 _ _ rfl rfl rfl hr ?_
      clear hr
      refine hK.out _ _ ⟨⟩ fun hHeld => ?_
      clear hK K
      try simp only [Act.put, PZ]
      refine r1 2 (fun K hK => ?_)
      ·
       obtain ⟨aQ, cQ, W, hr, hM⟩ := hM.runEQ cap hn (HRd.out _ hM.below)
       refine wp_appD (by kernel_rfl) (some 7) (.tmp 5) (.tmp 6) 25 _ _ _ rfl rfl rfl rfl rfl hr ?_
       clear hr
       refine hK.out _ _ ⟨⟩ fun hHeld => ?_
       clear hK K
       try simp only [Act.put, PZ]
       refine tM 9 14 ?_
       try simp only [Act.put, PZ]
       have cB := blk_cell (hM.b gB rfl).2
       have fB := blk_free (hM.b gB rfl).2
       unfold zRound at cB
       refine r1 11 (fun K hK => ?_)
       go_simp
       refine hK.out _ _ ⟨⟩ fun hHeld => ?_
       clear hK K
       try simp only [Act.put, PZ]
       refine dn ?_
       exact ⟨rfl, aQ, cQ, gD, gS, gB, gE, W, hM, rfl, rfl⟩
   ·
    obtain ⟨gD, W, hr, hM⟩ := hM.runD hn
    refine wp_makeD (by kernel_rfl) (some 10) (.tmp 9) 25 _ _ rfl rfl rfl hr ?_
    clear hr
    refine hK.out _ _ ⟨⟩ fun hHeld => ?_
    clear hK K
    try simp only [Act.put, PZ]
    refine r2 0 8 (fun K hK => ?_) (fun K hK => ?_)
    ·
     obtain ⟨gE, W, hg, hW, hM⟩ := hM.runE
     go_simp
     refine hK.out _ _ ⟨⟩ fun hHeld => ?_
     clear hK K
     try simp only [Act.put, PZ]
     rw [← hg, ← hW]
     clear hg hW
     refine r2 2 8 (fun K hK => ?_) (fun K hK => ?_)
     ·
      obtain ⟨aQ, cQ, W, hr, hM⟩ := hM.runEQ cap hn (HRd.out _ hM.below)
      refine wp_appD (by kernel_rfl) (some 7) (.tmp 5) (.tmp 6) 25 _ _ _ rfl rfl rfl rfl rfl hr ?_
      clear hr
      refine hK.out _ _ ⟨⟩ fun hHeld => ?_
      clear hK K
      try simp only [Act.put, PZ]
      refine r1 8 (fun K hK => ?_)
      ·
       obtain ⟨gS, W, hr, hM⟩ := hM.runS hn
       refine wp_makeD (by kernel_rfl) (some 13) (.tmp 12) 114 _ _ rfl rfl rfl hr ?_
       clear hr
       refine hK.out _ _ ⟨⟩ fun hHeld => ?_
       clear hK K
       try simp only [Act.put, PZ]
       refine tM 9 14 ?_
       try simp only [Act.put, PZ]
       have cB := blk_cell (hM.b gB rfl).2
       have fB := blk_free (hM.b gB rfl).2
       unfold zRound at cB
       refine r1 11 (fun K hK => ?_)
       go_simp
       refine hK.out _ _ ⟨⟩ fun hHeld => ?_
       clear hK K
       try simp only [Act.put, PZ]
       refine dn ?_
       exact ⟨rfl, aQ, cQ, gD, gS, gB, gE, W, hM, rfl, rfl⟩
     ·
      obtain ⟨gS, W, hr, hM⟩ := hM.runS hn
      refine wp_makeD (by kernel_rfl) (some 13) (.tmp 12) 114 _ _ rfl rfl rfl hr ?_
      clear hr
      refine hK.out _ _ ⟨⟩ fun hHeld => ?_
      clear hK K
      try simp only [Act.put, PZ]
      refine r1 2 (fun K hK => ?_)
      ·
       obtain ⟨aQ, cQ, W, hr, hM⟩ := hM.runEQ cap hn (HRd.out _ hM.below)
       refine wp_appD (by kernel_rfl) (some 7) (.tmp 5) (.tmp 6) 25 _ _ _ rfl rfl rfl rfl rfl hr ?_
       clear hr
       refine hK.out _ _ ⟨⟩ fun hHeld => ?_
       clear hK K
       try simp only [Act.put, PZ]
       refine tM 9 14 ?_
       try simp only [Act.put, PZ]
       have cB := blk_cell (hM.b gB rfl).2
       have fB := blk_free (hM.b gB rfl).2
       unfold zRound at cB
       refine r1 11 (fun K hK => ?_)
       go_simp
       refine hK.out _ _ ⟨⟩ fun hHeld => ?_
       clear hK K
       try simp only [Act.put, PZ]
       refine dn ?_
       exact ⟨rfl, aQ, cQ, gD, gS, gB, gE, W, hM, rfl, rfl⟩
    ·
     obtain ⟨gS, W, hr, hM⟩ := hM.runS hn
     refine wp_makeD (by kernel_rfl) (some 13) (.tmp 12) 114 _ _ rfl rfl rfl hr ?_
     clear hr
     refine hK.out _ _ ⟨⟩ fun hHeld => ?_
     clear hK K
     try simp only [Act.put, PZ]
     refine r1 0 (fun K hK => ?_)
     ·
      obtain ⟨gE, W, hg, hW, hM⟩ := hM.runE
      go_simp
      refine hK.out _ _ ⟨⟩ fun hHeld => ?_
      clear hK K
      try simp only [Act.put, PZ]
      rw [← hg, ← hW]
      clear hg hW
      refine r1 2 (fun K hK => ?_)
      ·
       obtain ⟨aQ, cQ, W, hr, hM⟩ := hM.runEQ cap hn (HRd.out _ hM.below)
       refine wp_appD (by kernel_rfl) (some 7) (.tmp 5) (.tmp 6) 25 _ _ _ rfl rfl rfl rfl rfl hr ?_
       clear hr
       refine hK.out _ _ ⟨⟩ fun hHeld => ?_
       clear hK K
       try simp only [Act.put, PZ]
       refine tM 9 14 ?_
       try simp only [Act.put, PZ]
       have cB := blk_cell (hM.b gB rfl).2
       have fB := blk_free (hM.b gB rfl).2
       unfold zRound at cB
       refine r1 11 (fun K hK => ?_)
       go_simp
       refine hK.out _ _ ⟨⟩ fun hHeld => ?_
       clear hK K
       try simp only [Act.put, PZ]
       refine dn ?_
       exact ⟨rfl, aQ, cQ, gD, gS, gB, gE, W, hM, rfl, rfl⟩
   ·
    obtain ⟨gS, W, hr, hM⟩ := hM.runS hn
    refine wp_makeD (by kernel_rfl) (some 13) (.tmp 12) 114 _ _ rfl rfl rfl hr ?_
    clear hr
    refine hK.out _ _ ⟨⟩ fun hHeld => ?_
    clear hK K
    try simp only [Act.put, PZ]
    refine r2 0 5 (fun K hK => ?_) (fun K hK => ?_)
    ·
     obtain ⟨gE, W, hg, hW, hM⟩ := hM.runE
     go_simp
     refine hK.out _ _ ⟨⟩ fun hHeld => ?_
     clear hK K
     try simp only [Act.put, PZ]
     rw [← hg, ← hW]
     clear hg hW
     refine r2 2 5 (fun K hK => ?_) (fun K hK => ?_)
     ·
      obtain ⟨aQ, cQ, W, hr, hM⟩ := hM.runEQ cap hn (HRd.out _ hM.below)
      refine wp_appD (by kernel_rfl) (some 7) (.tmp 5) (.tmp 6) 25 _ _ _ rfl rfl rfl rfl rfl hr ?_
      clear hr
      refine hK.out _ _ ⟨⟩ fun hHeld => ?_
      clear hK K
      try simp only [Act.put, PZ]
      refine r1 5 (fun K hK => ?_)
      ·
       obtain ⟨gD, W, hr, hM⟩ := hM.runD hn
       refine wp_makeD (by kernel_rfl) (some 10) (.tmp 9) 25 _ _ rfl rfl rfl hr ?_
       clear hr
       refine hK.out _ _ ⟨⟩ fun hHeld => ?_
       clear hK K
       try simp only [Act.put, PZ]
       refine tM 9 14 ?_
       try simp only [Act.put, PZ]
       have cB := blk_cell (hM.b gB rfl).2
       have fB := blk_free (hM.b gB rfl).2
       unfold zRound at cB
       refine r1 11 (fun K hK => ?_)
       go_simp
       refine hK.out _ _ ⟨⟩ fun hHeld => ?_
       clear hK K
       try simp only [Act.put, PZ]
       refine dn ?_
       exact ⟨rfl, aQ, cQ, gD, gS, gB, gE, W, hM, rfl, rfl⟩
     ·
      obtain ⟨gD, W, hr, hM⟩ := hM.runD hn
      refine wp_makeD (by kernel_rfl) (some 10) (.tmp 9) 25 _ _ rfl rfl rfl hr ?_
      clear hr
      refine hK.out _ _ ⟨⟩ fun hHeld => ?_
      clear hK K
      try simp only [Act.put, PZ]
      refine r1 2 (fun K hK => ?_)
      ·
       obtain ⟨aQ, cQ, W, hr, hM⟩ := hM.runEQ cap hn (HRd.out _ hM.below)
       refine wp_appD (by kernel_rfl) (some 7) (.tmp 5) (.tmp 6) 25 _ _ _ rfl rfl rfl rfl rfl hr ?_
       clear hr
       refine hK.out _ _ ⟨⟩ fun hHeld => ?_
       clear hK K
       try simp only [Act.put, PZ]
       refine tM 9 14 ?_
       try simp only [Act.put, PZ]
       have cB := blk_cell (hM.b gB rfl).2
       have fB := blk_free (hM.b gB rfl).2
       unfold zRound at cB
       refine r1 11 (fun K hK => ?_)
       go_simp
       refine hK.out _ _ ⟨⟩ fun hHeld => ?_
       clear hK K
       try simp only [Act.put, PZ]
       refine dn ?_
       exact ⟨rfl, aQ, cQ, gD, gS, gB, gE, W, hM, rfl, rfl⟩
    ·
     obtain ⟨gD, W, hr, hM⟩ := hM.runD hn
     refine wp_makeD (by kernel_rfl) (some 10) (.tmp 9) 25 _ _ rfl rfl rfl hr ?_
     clear hr
     refine hK.out _ _ ⟨⟩ fun hHeld => ?_
     clear hK K
     try simp only [Act.put, PZ]
     refine r1 0 (fun K hK => ?_)
     ·
      obtain ⟨gE, W, hg, hW, hM⟩ := hM.runE
      go_simp
      refine hK.out _ _ ⟨⟩ fun hHeld => ?_
      clear hK K
      try simp only [Act.put, PZ]
      rw [← hg, ← hW]
      clear hg hW
      refine r1 2 (fun K hK => ?_)
      ·
       obtain ⟨aQ, cQ, W, hr, hM⟩ := hM.runEQ cap hn (HRd.out _ hM.below)
       refine wp_appD (by kernel_rfl) (some 7) (.tmp 5) (.tmp 6) 25 _ _ _ rfl rfl rfl rfl rfl hr ?_
       clear hr
       refine hK.out _ _ ⟨⟩ fun hHeld => ?_
       clear hK K
       try simp only [Act.put, PZ]
       refine tM 9 14 ?_
       try simp only [Act.put, PZ]
       have cB := blk_cell (hM.b gB rfl).2
       have fB := blk_free (hM.b gB rfl).2
       unfold zRound at cB
       refine r1 11 (fun K hK => ?_)
       go_simp
       refine hK.out _ _ ⟨⟩ fun hHeld => ?_
       clear hK K
       try simp only [Act.put, PZ]
       refine dn ?_
       exact ⟨rfl, aQ, cQ, gD, gS, gB, gE, W, hM, rfl, rfl⟩
 rintro e a' W ⟨rfl, aQ, cQ, gD, gS, gB, gE, W', hM, rfl, rfl⟩
 have hMd := hM.made cQ
 clear hM
 generalize put5 W' gB (.slice aQ n cQ) (.slice (some ⟨gD, 0, none⟩) n n) (.int .i64 0) (.bool true) (.slice (some ⟨gS, 0, none⟩) n n) = W1 at hMd ⊢
 have cB := blk_cell hMd.b
 go_wp2_with fail
 refine (sRoundOk_any (newR n f aQ cQ gD gS) _ (newR_fit hn) hMd.own.rd ok (HO.out _ _ _ _)).mono ?_
 rintro e W2 ⟨rfl, hb2⟩
 have hOwn := hMd.own.up hb2
 have hBB := (hb2.block gB (blk_lt hMd.b)).trans hMd.b
 have hBelow := hMd.below.trans (hb2.mono hMd.below.size)
 have hBox := (hBelow.block w.heap.size (by rw [HSz.out]; omega)).trans HBx.out
 have hlo := hMd.lo
 rw [HSz.out] at hlo hOwn
 have HBw : Hid (Below w.heap.size w W2) := HB0.out.trans (hBelow.mono HB0.out.size)
 have HOw : Hid (OwnRn W2 (w.heap.size + 1) (newR n f aQ cQ gD gS)) := hOwn
 have cB2 := blk_cell hBB
 have cX := blk_cell hBox
 have fX := blk_free hBox
 clear hMd hb2 cB hBB hBelow hOwn
 cases ok
 ·
  go_wp2_with fail
  have ht := put5_touch W2 w.heap.size (.slice none 0 0) (.slice none 0 0) (.int .i64 0) (.bool false) (.slice none 0 0)
  have cF := blk_cell (put5_blk hBox (.slice none 0 0) (.slice none 0 0) (.int .i64 0) (.bool false) (.slice none 0 0))
  have hBf := HBw.out.trans (ht.below HBw.out.size (fun x hx => by simp at hx; omega))
  unfold put5 at cF hBf
  exact bodyPost_ret (v := .tuple #[.agg zR.cells, .bool false]) (by simp [results, Tryz.results89, go_sem, cF, zR, Rnd.cells]) rfl ⟨zR, rfl, zR_own _ _, hBf, Alike.refl _⟩
 ·
  go_wp2_with fail
  have ht := put5_touch W2 w.heap.size (.slice aQ n cQ) (.slice (some ⟨gD, 0, none⟩) n n) (.int .i64 0) (.bool true) (.slice (some ⟨gS, 0, none⟩) n n)
  have cF := blk_cell (put5_blk hBox (.slice aQ n cQ) (.slice (some ⟨gD, 0, none⟩) n n) (.int .i64 0) (.bool true) (.slice (some ⟨gS, 0, none⟩) n n))
  have hBf := HBw.out.trans (ht.below HBw.out.size (fun x hx => by simp at hx; omega))
  have hOf := (HOw.out.touch ht (fun x hx => by simp at hx; omega)).mono (Nat.le_succ _)
  unfold put5 at cF hBf hOf
  exact bodyPost_ret (v := .tuple #[.agg (newR n f aQ cQ gD gS).cells, .bool true]) (by simp [results, Tryz.results89, go_sem, cF, newR, Rnd.cells]) rfl ⟨newR n f aQ cQ gD gS, rfl, hOf, hBf, ⟨rfl, rfl, rfl, rfl, rfl, rfl, rfl, rfl, rfl⟩⟩
end Go.Proofs.YtfkpncopkgidfaaGreat
