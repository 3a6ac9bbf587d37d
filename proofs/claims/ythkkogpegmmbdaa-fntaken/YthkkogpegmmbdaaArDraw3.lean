/- What the laws on arenas draw: an arena and a text, an arena and a cell. -/
import Derived.Test.YthkkogpegmmbdaaArDraw2
import Derived.Test.YthkkogpegmmbdaaReg
namespace Go.Proofs.Ythkkogpegmmbdaa
open Go.RowKit
set_option linter.unusedVariables false
set_option linter.unusedSimpArgs false

/-- an arena was drawn: the answer's box, the reader, the arena's box, its rows, the heads -/
structure DrSt (w : World) (cv : Value) (bX : Nat) (v1 v2 vh : Value) (fr : Int) (n : Nat) (F : Nat → Int) (U : Nat → ByteArray) (H : List Int) (W : World) : Prop where
  rd : Rd (w.heap.size + 1) cv W
  below : Below w.heap.size w W
  res : W.heap[w.heap.size]? = some (.cells #[.slice none 0 0, .slice none 0 0, .int .i64 0] 27 (0, 0))
  bx : W.heap[bX]? = some (.cells #[v1, v2, .int .i64 fr] 27 (0, 0))
  row1 : VRow 2 W (w.heap.size + 2) v1 n (fun i => .int .i64 (F i))
  row2 : VRow 9 W (w.heap.size + 2) v2 n (fun i => .string (U i))
  rowh : VRow 2 W (w.heap.size + 2) vh H.length (intsOf H)
  gt : w.heap.size + 1 < bX
theorem DrSt.up {w : World} {cv : Value} {bX : Nat} {v1 v2 vh : Value} {fr : Int} {n : Nat} {F : Nat → Int} {U : Nat → ByteArray} {H : List Int} {W W' : World} (d : DrSt w cv bX v1 v2 vh fr n F U H W) (hb : Below W.heap.size W W') : DrSt w cv bX v1 v2 vh fr n F U H W' :=
  ⟨d.rd.below hb, d.below.trans (hb.mono d.below.size), (hb.block _ (blk_lt d.res)).trans d.res, (hb.block _ (blk_lt d.bx)).trans d.bx, d.row1.up hb, d.row2.up hb, d.rowh.up hb, d.gt⟩
theorem DrSt.kept {w : World} {cv : Value} {bX : Nat} {v1 v2 vh : Value} {fr : Int} {n : Nat} {F : Nat → Int} {U : Nat → ByteArray} {H : List Int} {W W' : World} (d : DrSt w cv bX v1 v2 vh fr n F U H W) (hR : Rd (w.heap.size + 1) cv W') (hK : Kept (w.heap.size + 1) W W') : DrSt w cv bX v1 v2 vh fr n F U H W' :=
  ⟨hR, d.below.trans (hK.below d.below.size (by omega)), (hK.block _ (blk_lt d.res) (by omega)).trans d.res, (hK.block _ (blk_lt d.bx) (by have := d.gt; omega)).trans d.bx, d.row1.kept (by omega) hK, d.row2.kept (by omega) hK, d.rowh.kept (by omega) hK, d.gt⟩
theorem DrSt.close {w : World} {cv : Value} {bX : Nat} {v1 v2 vh : Value} {fr : Int} {n : Nat} {F : Nat → Int} {U : Nat → ByteArray} {H : List Int} {W : World} (d : DrSt w cv bX v1 v2 vh fr n F U H W) (n1 : 1 ≤ n) (n2 : n ≤ 60) (hu : ∀ i, i < n → (U i).size ≤ 10) (u1 u2 u3 : Value) :
    DrawnIn w.heap.size v1 v2 n F U (((W.setCell ⟨w.heap.size, 0, none⟩ u1).setCell ⟨w.heap.size, 1, none⟩ u2).setCell ⟨w.heap.size, 2, none⟩ u3) ∧ Below w.heap.size w (((W.setCell ⟨w.heap.size, 0, none⟩ u1).setCell ⟨w.heap.size, 1, none⟩ u2).setCell ⟨w.heap.size, 2, none⟩ u3) := by
  have hk : ∀ b, b ≠ w.heap.size → (((W.setCell ⟨w.heap.size, 0, none⟩ u1).setCell ⟨w.heap.size, 1, none⟩ u2).setCell ⟨w.heap.size, 2, none⟩ u3).heap[b]? = W.heap[b]? := fun b hb => by
    rw [blk_set_ne hb, blk_set_ne hb, blk_set_ne hb]
  exact ⟨⟨(d.row1.keep (fun b hb => hk b (by have := (d.row1.lt b hb).2; omega))).low (by omega), (d.row2.keep (fun b hb => hk b (by have := (d.row2.lt b hb).2; omega))).low (by omega), n1, n2, hu⟩, ((d.below.setCell (Nat.le_refl _) _).setCell (Nat.le_refl _) _).setCell (Nat.le_refl _) _⟩

theorem DrSt.head {w : World} {cv : Value} {bX gh xh : Nat} {v1 v2 : Value} {fr : Int} {n : Nat} {F : Nat → Int} {U : Nat → ByteArray} {H : List Int} {W : World} (d : DrSt w cv bX v1 v2 (.slice (some ⟨gh, 0, none⟩) H.length xh) fr n F U H W) : w.heap.size + 2 ≤ gh ∧ ∀ i, i < H.length → W.cell? ⟨gh, i, none⟩ = some (intsOf H i) := by
  obtain ⟨a', c', e0, ⟨e1, e2⟩ | ⟨g1, e1, hg, hR⟩⟩ := d.rowh
  · cases e0; cases e1
  · cases e0; cases e1; exact ⟨hg, fun i hi => hR.at i hi⟩

set_option maxHeartbeats 1000000 in
theorem drawTaken_any (cv : Value) (len : Nat) (w : World) (h : Code w.heap.size cv len w) (hs : ∃ a n c, cv = .slice a n c) :
    Calls Try.prog 7 #[cv] w fun e w' => (∃ (v1 v2 : Value) (fr : Int) (n : Nat) (F : Nat → Int) (U : Nat → ByteArray) (s : ByteArray), e = .returned (.tuple #[.agg #[v1, v2, .int .i64 fr], .string s]) ∧ s.size ≤ 40 ∧ DrawnIn w.heap.size v1 v2 n F U w') ∧ Below w.heap.size w w' := by
  obtain ⟨a, m, c, rfl⟩ := hs
  have e1 : ∀ o, (w.alloc o).heap.size = w.heap.size + 1 := by intro o; simp
  have HC : Hid (∀ o, Code (w.alloc o).heap.size (.slice a m c) len (w.alloc o)) := fun o => h.up ((Below.refl _ _).alloc (Nat.le_refl _) o)
  go_enter Try.func7, Try.ntmps7
  go_wp2_with fail
  refine (open_any _ _ _ (HC.out _) ⟨_, _, _, rfl⟩).mono ?_
  rintro e w1 ⟨rfl, hR, hb1⟩
  rw [e1] at hR
  have kR := (hb1.block w.heap.size (by rw [e1]; omega)).trans (blk_new w _)
  have B1 : Below w.heap.size w w1 := ((Below.refl _ _).alloc (Nat.le_refl _) _).trans (hb1.mono (by rw [e1]; omega))
  rw [e1]
  clear hb1 HC h
  go_wp2_with fail
  refine (arena_any _ _ _ hR).mono ?_
  rintro e w2 ⟨⟨v1, v2, vh, fr, n, F, U, H, rfl, r1, r2, rh, n1, n2, h60, hu⟩, hR2, hK⟩
  have z1 : w.heap.size + 1 < w1.heap.size := hR.lt
  replace kR := (hK.block _ (blk_lt kR) (by omega)).trans kR
  replace B1 : Below w.heap.size w w2 := B1.trans (hK.below B1.size (by omega))
  have z2 := hK.size
  obtain ⟨q1, x1, rfl⟩ := vrow_form r1
  obtain ⟨q2, x2, rfl⟩ := vrow_form r2
  obtain ⟨qh, xh, rfl⟩ := vrow_form rh
  have HU : Hid (∀ i, i < n → (U i).size ≤ 10) := hu
  have hbX : Below w2.heap.size w2 (w2.alloc (.cells #[.slice q1 n x1, .slice q2 n x2, .int .i64 fr] 27)) := (Below.refl _ _).alloc (Nat.le_refl _) _
  have kX := blk_new w2 (.cells #[.slice q1 n x1, .slice q2 n x2, .int .i64 fr] 27)
  have zX : w.heap.size ≠ w2.heap.size := by have := blk_lt kR; omega
  have HD : Hid (DrSt w (.slice a m c) w2.heap.size (.slice q1 n x1) (.slice q2 n x2) (.slice qh H.length xh) fr n F U H (w2.alloc (.cells #[.slice q1 n x1, .slice q2 n x2, .int .i64 fr] 27))) :=
    ⟨hR2.below hbX, B1.trans (hbX.mono B1.size), (hbX.block _ (blk_lt kR)).trans kR, kX, (r1.low (by omega)).up hbX, (r2.low (by omega)).up hbX, (rh.low (by omega)).up hbX, by omega⟩
  clear hR hR2 hK r1 r2 rh hu hbX kR kX B1 z1
  go_wp2_with fail
  generalize w2.alloc (.cells #[.slice q1 n x1, .slice q2 n x2, .int .i64 fr] 27) = W3 at *
  generalize w2.heap.size = bX at *
  replace HD : Hid (DrSt w (.slice a m c) bX (.slice q1 n x1) (.slice q2 n x2) (.slice qh H.length xh) fr n F U H W3.drew) := HD.out.up ((Below.refl _ _).drew)
  have cX : ∀ o, W3.drew.cell? ⟨bX, o, none⟩ = (#[.slice q1 n x1, .slice q2 n x2, .int .i64 fr] : Array Value)[o]? := blk_cell HD.out.bx
  refine wp_region_held_drew (S := fun w' => ∀ o, w'.cell? ⟨bX, o, none⟩ = (#[.slice q1 n x1, .slice q2 n x2, .int .i64 fr] : Array Value)[o]?) (by kernel_rfl) cX (fun hHeld => ?_)
  generalize W3.drew = V at *
  refine takeD (i := 0) (some 14) (v := ?_) rfl rfl (by kernel_rfl) (by kernel_rfl) (by kernel_rfl) (fun _ _ _ h => h) (by kernel_rfl) ?_ (by assumption) ?_
  rotate_left
  · intro wx hSw
    try dsimp only at hSw
    go_simp
    try (with_reducible rfl)
  try simp only [Act.put, List.setIfInBounds_toArray, List.set_cons_zero, List.set_cons_succ]
  refine takeD (i := 1) (some 15) (v := ?_) rfl rfl (by kernel_rfl) (by kernel_rfl) (by kernel_rfl) (fun _ _ _ h => h) (by kernel_rfl) ?_ (by assumption) ?_
  rotate_left
  · intro wx hSw
    try dsimp only at hSw
    go_simp
    try (with_reducible rfl)
  try simp only [Act.put, List.setIfInBounds_toArray, List.set_cons_zero, List.set_cons_succ]
  refine wpAnyH_ready (rs := [2]) (by kernel_rfl) (by simp) ?_
  refine AllReadyH.cons rfl (fun K hK => ?_) AllReadyH.nil
  go_simp
  refine (body_any _ _ _ HD.out.rd).mono ?_
  rintro e w4 ⟨s, hs, rfl, hR, hK2⟩
  replace HD : Hid (DrSt w (.slice a m c) bX (.slice q1 n x1) (.slice q2 n x2) (.slice qh H.length xh) fr n F U H w4) := HD.out.kept hR hK2
  clear hR hK2 cX hHeld
  have cX : ∀ o, w4.cell? ⟨bX, o, none⟩ = (#[.slice q1 n x1, .slice q2 n x2, .int .i64 fr] : Array Value)[o]? := blk_cell HD.out.bx
  go_wp2_with fail
  refine hK.out _ _ cX (fun hHeld => ?_)
  clear hK K
  try simp only [Act.put, List.setIfInBounds_toArray, List.set_cons_zero, List.set_cons_succ]
  have cR := blk_cell HD.out.res
  have fR := blk_free HD.out.res
  have nRX : w.heap.size ≠ bX := zX
  have nXR : bX ≠ w.heap.size := fun e => zX e.symm
  obtain ⟨D1, D2⟩ := HD.out.close n1 n2 HU.out (.slice q1 n x1) (.slice q2 n x2) (.int .i64 fr)
  have cX2 : ∀ o, (((w4.setCell ⟨w.heap.size, 0, none⟩ (.slice q1 n x1)).setCell ⟨w.heap.size, 1, none⟩ (.slice q2 n x2)).setCell ⟨w.heap.size, 2, none⟩ (.int .i64 fr)).cell? ⟨bX, o, none⟩ = (#[.slice q1 n x1, .slice q2 n x2, .int .i64 fr] : Array Value)[o]? := fun o => (World.cell?_of_block (w := w4) (a := ⟨bX, o, none⟩) (by rw [blk_set_ne nXR, blk_set_ne nXR, blk_set_ne nXR])).trans (cX o)
  refine wpAnyH_ready (rs := [3]) (by kernel_rfl) (by simp) ?_
  refine AllReadyH.cons rfl (fun K hK => ?_) AllReadyH.nil
  go_simp
  refine hK.out _ _ cX2 (fun hHeld => ?_)
  clear hK K
  try simp only [Act.put, List.setIfInBounds_toArray, List.set_cons_zero, List.set_cons_succ]
  refine takeD (i := 4) (some 3) (v := ?_) rfl rfl (by kernel_rfl) (by kernel_rfl) (by kernel_rfl) (fun _ _ _ h => h) (by kernel_rfl) ?_ (by assumption) ?_
  rotate_left
  · intro wx hSw
    try dsimp only at hSw
    go_simp
    try (with_reducible rfl)
  try simp only [Act.put, List.setIfInBounds_toArray, List.set_cons_zero, List.set_cons_succ]
  refine wpAnyH_done (by kernel_rfl) ?_ _
  go_wp2_with fail
  exact bodyPost_ret (v := .tuple #[.agg #[.slice q1 n x1, .slice q2 n x2, .int .i64 fr], .string s]) (by simp [results, Try.results7, go_sem, cR]) rfl ⟨⟨_, _, _, n, F, U, s, rfl, hs, D1⟩, D2⟩
set_option maxHeartbeats 2000000 in
theorem drawChain_any (cv : Value) (len : Nat) (w : World) (h : Code w.heap.size cv len w) (hs : ∃ a n c, cv = .slice a n c) :
    Calls Try.prog 40 #[cv] w fun e w' => (∃ (v1 v2 : Value) (fr : Int) (n : Nat) (F : Nat → Int) (U : Nat → ByteArray) (x : Int), e = .returned (.tuple #[.agg #[v1, v2, .int .i64 fr], .int .i64 x]) ∧ DrawnIn w.heap.size v1 v2 n F U w') ∧ Below w.heap.size w w' := by
  obtain ⟨a, m, c, rfl⟩ := hs
  have e1 : ∀ o, (w.alloc o).heap.size = w.heap.size + 1 := by intro o; simp
  have HC : Hid (∀ o, Code (w.alloc o).heap.size (.slice a m c) len (w.alloc o)) := fun o => h.up ((Below.refl _ _).alloc (Nat.le_refl _) o)
  go_enter Try.func40, Try.ntmps40
  go_wp2_with fail
  refine (open_any _ _ _ (HC.out _) ⟨_, _, _, rfl⟩).mono ?_
  rintro e w1 ⟨rfl, hR, hb1⟩
  rw [e1] at hR
  have kR := (hb1.block w.heap.size (by rw [e1]; omega)).trans (blk_new w _)
  have B1 : Below w.heap.size w w1 := ((Below.refl _ _).alloc (Nat.le_refl _) _).trans (hb1.mono (by rw [e1]; omega))
  rw [e1]
  clear hb1 HC h
  go_wp2_with fail
  refine (arena_any _ _ _ hR).mono ?_
  rintro e w2 ⟨⟨v1, v2, vh, fr, n, F, U, H, rfl, r1, r2, rh, n1, n2, h60, hu⟩, hR2, hK⟩
  have z1 : w.heap.size + 1 < w1.heap.size := hR.lt
  replace kR := (hK.block _ (blk_lt kR) (by omega)).trans kR
  replace B1 : Below w.heap.size w w2 := B1.trans (hK.below B1.size (by omega))
  have z2 := hK.size
  obtain ⟨q1, x1, rfl⟩ := vrow_form r1
  obtain ⟨q2, x2, rfl⟩ := vrow_form r2
  obtain ⟨qh, xh, rfl⟩ := vrow_form rh
  have HU : Hid (∀ i, i < n → (U i).size ≤ 10) := hu
  have hbX : Below w2.heap.size w2 (w2.alloc (.cells #[.slice q1 n x1, .slice q2 n x2, .int .i64 fr] 27)) := (Below.refl _ _).alloc (Nat.le_refl _) _
  have kX := blk_new w2 (.cells #[.slice q1 n x1, .slice q2 n x2, .int .i64 fr] 27)
  have zX : w.heap.size ≠ w2.heap.size := by have := blk_lt kR; omega
  have HD : Hid (DrSt w (.slice a m c) w2.heap.size (.slice q1 n x1) (.slice q2 n x2) (.slice qh H.length xh) fr n F U H (w2.alloc (.cells #[.slice q1 n x1, .slice q2 n x2, .int .i64 fr] 27))) :=
    ⟨hR2.below hbX, B1.trans (hbX.mono B1.size), (hbX.block _ (blk_lt kR)).trans kR, kX, (r1.low (by omega)).up hbX, (r2.low (by omega)).up hbX, (rh.low (by omega)).up hbX, by omega⟩
  clear hR hR2 hK r1 r2 rh hu hbX kR kX B1 z1
  by_cases hH : 0 < H.length
  · have hH0 : (0 : Int) < H.length := by omega
    go_wp2_with fail
    generalize w2.alloc (.cells #[.slice q1 n x1, .slice q2 n x2, .int .i64 fr] 27) = W3 at *
    generalize w2.heap.size = bX at *
    refine (once_any _ _ _ _ HD.out.rd (by omega) (by omega)).mono ?_
    rintro e w5 ⟨ob, rfl, hR, hK2⟩
    replace HD : Hid (DrSt w (.slice a m c) bX (.slice q1 n x1) (.slice q2 n x2) (.slice qh H.length xh) fr n F U H w5) := HD.out.kept hR hK2
    clear hR hK2
    cases ob
    · obtain ⟨gh, rfl⟩ : ∃ gh, qh = some ⟨gh, 0, none⟩ := by
        obtain ⟨a', c', e0, ⟨e1, e2⟩ | ⟨g1, e1, _⟩⟩ := HD.out.rowh
        · omega
        · cases e0; exact ⟨g1, e1⟩
      go_wp2_with fail
      replace HD : Hid (DrSt w (.slice a m c) bX (.slice q1 n x1) (.slice q2 n x2) (.slice (some ⟨gh, 0, none⟩) H.length xh) fr n F U H w5.drew) := HD.out.up ((Below.refl _ _).drew)
      have cX : ∀ o, w5.drew.cell? ⟨bX, o, none⟩ = (#[.slice q1 n x1, .slice q2 n x2, .int .i64 fr] : Array Value)[o]? := blk_cell HD.out.bx
      obtain ⟨hgh, cH⟩ := DrSt.head HD.out
      refine wp_region_held_drew (S := fun w' => (∀ o, w'.cell? ⟨bX, o, none⟩ = (#[.slice q1 n x1, .slice q2 n x2, .int .i64 fr] : Array Value)[o]?) ∧ ∀ i, i < H.length → w'.cell? ⟨gh, i, none⟩ = some (intsOf H i)) (by kernel_rfl) ⟨cX, cH⟩ (fun hHeld => ?_)
      generalize w5.drew = V at *
      refine takeD (i := 0) (some 22) (v := ?_) rfl rfl (by kernel_rfl) (by kernel_rfl) (by kernel_rfl) (fun _ _ _ h => h) (by kernel_rfl) ?_ (by assumption) ?_
      rotate_left
      · intro wx hSw
        obtain ⟨hS1, hS2⟩ := hSw
        go_simp
        try (with_reducible rfl)
      try simp only [Act.put, List.setIfInBounds_toArray, List.set_cons_zero, List.set_cons_succ]
      refine takeD (i := 1) (some 23) (v := ?_) rfl rfl (by kernel_rfl) (by kernel_rfl) (by kernel_rfl) (fun _ _ _ h => h) (by kernel_rfl) ?_ (by assumption) ?_
      rotate_left
      · intro wx hSw
        obtain ⟨hS1, hS2⟩ := hSw
        go_simp
        try (with_reducible rfl)
      try simp only [Act.put, List.setIfInBounds_toArray, List.set_cons_zero, List.set_cons_succ]
      refine takeD (i := 2) (some 24) (v := ?_) rfl rfl (by kernel_rfl) (by kernel_rfl) (by kernel_rfl) (fun _ _ _ h => h) (by kernel_rfl) ?_ (by assumption) ?_
      rotate_left
      · intro wx hSw
        obtain ⟨hS1, hS2⟩ := hSw
        go_simp
        try (with_reducible rfl)
      try simp only [Act.put, List.setIfInBounds_toArray, List.set_cons_zero, List.set_cons_succ]
      refine takeD (i := 3) (some 25) (v := ?_) rfl rfl (by kernel_rfl) (by kernel_rfl) (by kernel_rfl) (fun _ _ _ h => h) (by kernel_rfl) ?_ (by assumption) ?_
      rotate_left
      · intro wx hSw
        obtain ⟨hS1, hS2⟩ := hSw
        go_simp
        try (with_reducible rfl)
      try simp only [Act.put, List.setIfInBounds_toArray, List.set_cons_zero, List.set_cons_succ]
      refine takeD (i := 4) (some 26) (v := ?_) rfl rfl (by kernel_rfl) (by kernel_rfl) (by kernel_rfl) (fun _ _ _ h => h) (by kernel_rfl) ?_ (by assumption) ?_
      rotate_left
      · intro wx hSw
        obtain ⟨hS1, hS2⟩ := hSw
        go_simp
        try (with_reducible rfl)
      try simp only [Act.put, List.setIfInBounds_toArray, List.set_cons_zero, List.set_cons_succ]
      refine wpAnyH_ready (rs := [5]) (by kernel_rfl) (by simp) ?_
      refine AllReadyH.cons rfl (fun K hK => ?_) AllReadyH.nil
      go_simp
      refine (below_any _ _ _ _ HD.out.rd (by omega) (by omega)).mono ?_
      rintro e w6 ⟨ix, hix, rfl, hR, hK2⟩
      replace HD : Hid (DrSt w (.slice a m c) bX (.slice q1 n x1) (.slice q2 n x2) (.slice (some ⟨gh, 0, none⟩) H.length xh) fr n F U H w6) := HD.out.kept hR hK2
      clear hR hK2 cX hHeld
      have cX : ∀ o, w6.cell? ⟨bX, o, none⟩ = (#[.slice q1 n x1, .slice q2 n x2, .int .i64 fr] : Array Value)[o]? := blk_cell HD.out.bx
      replace hix : ix < H.length := by omega
      have hix2 : (ix : Int) < H.length := by omega
      clear cH hgh
      obtain ⟨hgh, cH⟩ := DrSt.head HD.out
      go_wp2_with fail
      refine hK.out _ _ ⟨cX, cH⟩ (fun hHeld => ?_)
      clear hK K
      try simp only [Act.put, List.setIfInBounds_toArray, List.set_cons_zero, List.set_cons_succ]
      refine takeD (i := 6) (some 28) (v := ?_) rfl rfl (by kernel_rfl) (by kernel_rfl) (by kernel_rfl) (fun _ _ _ h => h) (by kernel_rfl) ?_ (by assumption) ?_
      rotate_left
      · intro wx hSw
        obtain ⟨hS1, hS2⟩ := hSw
        go_simp
        try (with_reducible rfl)
      try simp only [Act.put, List.setIfInBounds_toArray, List.set_cons_zero, List.set_cons_succ]
      refine takeD (i := 7) (some 29) (v := ?_) rfl rfl (by kernel_rfl) (by kernel_rfl) (by kernel_rfl) (fun _ _ _ h => h) (by kernel_rfl) ?_ (by assumption) ?_
      rotate_left
      · intro wx hSw
        have hS3 := hSw.2 ix hix
        go_simp
        try (with_reducible rfl)
      try simp only [Act.put, List.setIfInBounds_toArray, List.set_cons_zero, List.set_cons_succ]
      have cR := blk_cell HD.out.res
      have fR := blk_free HD.out.res
      have nRX : w.heap.size ≠ bX := zX
      have nXR : bX ≠ w.heap.size := fun e => zX e.symm
      obtain ⟨D1, D2⟩ := HD.out.close n1 n2 HU.out (.slice q1 n x1) (.slice q2 n x2) (.int .i64 fr)
      have cX2 : ∀ o, (((w6.setCell ⟨w.heap.size, 0, none⟩ (.slice q1 n x1)).setCell ⟨w.heap.size, 1, none⟩ (.slice q2 n x2)).setCell ⟨w.heap.size, 2, none⟩ (.int .i64 fr)).cell? ⟨bX, o, none⟩ = (#[.slice q1 n x1, .slice q2 n x2, .int .i64 fr] : Array Value)[o]? := fun o => (World.cell?_of_block (w := w6) (a := ⟨bX, o, none⟩) (by rw [blk_set_ne nXR, blk_set_ne nXR, blk_set_ne nXR])).trans (cX o)
      have nG : gh ≠ w.heap.size := by omega
      have cH2 : ∀ i, i < H.length → (((w6.setCell ⟨w.heap.size, 0, none⟩ (.slice q1 n x1)).setCell ⟨w.heap.size, 1, none⟩ (.slice q2 n x2)).setCell ⟨w.heap.size, 2, none⟩ (.int .i64 fr)).cell? ⟨gh, i, none⟩ = some (intsOf H i) := fun i hi => (World.cell?_of_block (w := w6) (a := ⟨gh, i, none⟩) (by rw [blk_set_ne nG, blk_set_ne nG, blk_set_ne nG])).trans (cH i hi)
      refine wpAnyH_ready (rs := [8]) (by kernel_rfl) (by simp) ?_
      refine AllReadyH.cons rfl (fun K hK => ?_) AllReadyH.nil
      go_simp
      refine hK.out _ _ ⟨cX2, cH2⟩ (fun hHeld => ?_)
      clear hK K
      try simp only [Act.put, List.setIfInBounds_toArray, List.set_cons_zero, List.set_cons_succ]
      refine takeD (i := 9) (some 3) (v := ?_) rfl rfl (by kernel_rfl) (by kernel_rfl) (by kernel_rfl) (fun _ _ _ h => h) (by kernel_rfl) ?_ (by assumption) ?_
      rotate_left
      · intro wx hSw
        obtain ⟨hS1, hS2⟩ := hSw
        go_simp
        try (with_reducible rfl)
      try simp only [Act.put, List.setIfInBounds_toArray, List.set_cons_zero, List.set_cons_succ]
      refine wpAnyH_done (by kernel_rfl) ?_ _
      go_wp2_with fail
      exact bodyPost_ret (v := .tuple #[.agg #[.slice q1 n x1, .slice q2 n x2, .int .i64 fr], .int .i64 (H.getD ix 0)]) (by simp [results, Try.results40, go_sem, cR, intsOf]) rfl ⟨⟨_, _, _, n, F, U, _, rfl, D1⟩, D2⟩
    · go_wp2_with fail
      replace HD : Hid (DrSt w (.slice a m c) bX (.slice q1 n x1) (.slice q2 n x2) (.slice qh H.length xh) fr n F U H w5.drew) := HD.out.up ((Below.refl _ _).drew)
      have cX : ∀ o, w5.drew.cell? ⟨bX, o, none⟩ = (#[.slice q1 n x1, .slice q2 n x2, .int .i64 fr] : Array Value)[o]? := blk_cell HD.out.bx
      refine wp_region_held_drew (S := fun w' => ∀ o, w'.cell? ⟨bX, o, none⟩ = (#[.slice q1 n x1, .slice q2 n x2, .int .i64 fr] : Array Value)[o]?) (by kernel_rfl) cX (fun hHeld => ?_)
      generalize w5.drew = V at *
      refine takeD (i := 0) (some 30) (v := ?_) rfl rfl (by kernel_rfl) (by kernel_rfl) (by kernel_rfl) (fun _ _ _ h => h) (by kernel_rfl) ?_ (by assumption) ?_
      rotate_left
      · intro wx hSw
        try dsimp only at hSw
        go_simp
        try (with_reducible rfl)
      try simp only [Act.put, List.setIfInBounds_toArray, List.set_cons_zero, List.set_cons_succ]
      refine takeD (i := 1) (some 31) (v := ?_) rfl rfl (by kernel_rfl) (by kernel_rfl) (by kernel_rfl) (fun _ _ _ h => h) (by kernel_rfl) ?_ (by assumption) ?_
      rotate_left
      · intro wx hSw
        try dsimp only at hSw
        go_simp
        try (with_reducible rfl)
      try simp only [Act.put, List.setIfInBounds_toArray, List.set_cons_zero, List.set_cons_succ]
      refine wpAnyH_ready (rs := [2]) (by kernel_rfl) (by simp) ?_
      refine AllReadyH.cons rfl (fun K hK => ?_) AllReadyH.nil
      go_simp
      refine (off_any _ _ _ _ _ HD.out.rd (by omega) (by omega) (by omega)).mono ?_
      rintro e w6 ⟨x, rfl, hR, hK2⟩
      replace HD : Hid (DrSt w (.slice a m c) bX (.slice q1 n x1) (.slice q2 n x2) (.slice qh H.length xh) fr n F U H w6) := HD.out.kept hR hK2
      clear hR hK2 cX hHeld
      have cX : ∀ o, w6.cell? ⟨bX, o, none⟩ = (#[.slice q1 n x1, .slice q2 n x2, .int .i64 fr] : Array Value)[o]? := blk_cell HD.out.bx
      go_wp2_with fail
      refine hK.out _ _ cX (fun hHeld => ?_)
      clear hK K
      try simp only [Act.put, List.setIfInBounds_toArray, List.set_cons_zero, List.set_cons_succ]
      have cR := blk_cell HD.out.res
      have fR := blk_free HD.out.res
      have nRX : w.heap.size ≠ bX := zX
      have nXR : bX ≠ w.heap.size := fun e => zX e.symm
      obtain ⟨D1, D2⟩ := HD.out.close n1 n2 HU.out (.slice q1 n x1) (.slice q2 n x2) (.int .i64 fr)
      have cX2 : ∀ o, (((w6.setCell ⟨w.heap.size, 0, none⟩ (.slice q1 n x1)).setCell ⟨w.heap.size, 1, none⟩ (.slice q2 n x2)).setCell ⟨w.heap.size, 2, none⟩ (.int .i64 fr)).cell? ⟨bX, o, none⟩ = (#[.slice q1 n x1, .slice q2 n x2, .int .i64 fr] : Array Value)[o]? := fun o => (World.cell?_of_block (w := w6) (a := ⟨bX, o, none⟩) (by rw [blk_set_ne nXR, blk_set_ne nXR, blk_set_ne nXR])).trans (cX o)
      refine wpAnyH_ready (rs := [3]) (by kernel_rfl) (by simp) ?_
      refine AllReadyH.cons rfl (fun K hK => ?_) AllReadyH.nil
      go_simp
      refine hK.out _ _ cX2 (fun hHeld => ?_)
      clear hK K
      try simp only [Act.put, List.setIfInBounds_toArray, List.set_cons_zero, List.set_cons_succ]
      refine takeD (i := 4) (some 3) (v := ?_) rfl rfl (by kernel_rfl) (by kernel_rfl) (by kernel_rfl) (fun _ _ _ h => h) (by kernel_rfl) ?_ (by assumption) ?_
      rotate_left
      · intro wx hSw
        try dsimp only at hSw
        go_simp
        try (with_reducible rfl)
      try simp only [Act.put, List.setIfInBounds_toArray, List.set_cons_zero, List.set_cons_succ]
      refine wpAnyH_done (by kernel_rfl) ?_ _
      go_wp2_with fail
      exact bodyPost_ret (v := .tuple #[.agg #[.slice q1 n x1, .slice q2 n x2, .int .i64 fr], .int .i64 x]) (by simp [results, Try.results40, go_sem, cR]) rfl ⟨⟨_, _, _, n, F, U, x, rfl, D1⟩, D2⟩
  · have hH0 : ¬ (0 : Int) < H.length := by omega
    go_wp2_with fail
    generalize w2.alloc (.cells #[.slice q1 n x1, .slice q2 n x2, .int .i64 fr] 27) = W3 at *
    generalize w2.heap.size = bX at *
    replace HD : Hid (DrSt w (.slice a m c) bX (.slice q1 n x1) (.slice q2 n x2) (.slice qh H.length xh) fr n F U H W3.drew) := HD.out.up ((Below.refl _ _).drew)
    have cX : ∀ o, W3.drew.cell? ⟨bX, o, none⟩ = (#[.slice q1 n x1, .slice q2 n x2, .int .i64 fr] : Array Value)[o]? := blk_cell HD.out.bx
    refine wp_region_held_drew (S := fun w' => ∀ o, w'.cell? ⟨bX, o, none⟩ = (#[.slice q1 n x1, .slice q2 n x2, .int .i64 fr] : Array Value)[o]?) (by kernel_rfl) cX (fun hHeld => ?_)
    generalize W3.drew = V at *
    refine takeD (i := 0) (some 30) (v := ?_) rfl rfl (by kernel_rfl) (by kernel_rfl) (by kernel_rfl) (fun _ _ _ h => h) (by kernel_rfl) ?_ (by assumption) ?_
    rotate_left
    · intro wx hSw
      try dsimp only at hSw
      go_simp
      try (with_reducible rfl)
    try simp only [Act.put, List.setIfInBounds_toArray, List.set_cons_zero, List.set_cons_succ]
    refine takeD (i := 1) (some 31) (v := ?_) rfl rfl (by kernel_rfl) (by kernel_rfl) (by kernel_rfl) (fun _ _ _ h => h) (by kernel_rfl) ?_ (by assumption) ?_
    rotate_left
    · intro wx hSw
      try dsimp only at hSw
      go_simp
      try (with_reducible rfl)
    try simp only [Act.put, List.setIfInBounds_toArray, List.set_cons_zero, List.set_cons_succ]
    refine wpAnyH_ready (rs := [2]) (by kernel_rfl) (by simp) ?_
    refine AllReadyH.cons rfl (fun K hK => ?_) AllReadyH.nil
    go_simp
    refine (off_any _ _ _ _ _ HD.out.rd (by omega) (by omega) (by omega)).mono ?_
    rintro e w6 ⟨x, rfl, hR, hK2⟩
    replace HD : Hid (DrSt w (.slice a m c) bX (.slice q1 n x1) (.slice q2 n x2) (.slice qh H.length xh) fr n F U H w6) := HD.out.kept hR hK2
    clear hR hK2 cX hHeld
    have cX : ∀ o, w6.cell? ⟨bX, o, none⟩ = (#[.slice q1 n x1, .slice q2 n x2, .int .i64 fr] : Array Value)[o]? := blk_cell HD.out.bx
    go_wp2_with fail
    refine hK.out _ _ cX (fun hHeld => ?_)
    clear hK K
    try simp only [Act.put, List.setIfInBounds_toArray, List.set_cons_zero, List.set_cons_succ]
    have cR := blk_cell HD.out.res
    have fR := blk_free HD.out.res
    have nRX : w.heap.size ≠ bX := zX
    have nXR : bX ≠ w.heap.size := fun e => zX e.symm
    obtain ⟨D1, D2⟩ := HD.out.close n1 n2 HU.out (.slice q1 n x1) (.slice q2 n x2) (.int .i64 fr)
    have cX2 : ∀ o, (((w6.setCell ⟨w.heap.size, 0, none⟩ (.slice q1 n x1)).setCell ⟨w.heap.size, 1, none⟩ (.slice q2 n x2)).setCell ⟨w.heap.size, 2, none⟩ (.int .i64 fr)).cell? ⟨bX, o, none⟩ = (#[.slice q1 n x1, .slice q2 n x2, .int .i64 fr] : Array Value)[o]? := fun o => (World.cell?_of_block (w := w6) (a := ⟨bX, o, none⟩) (by rw [blk_set_ne nXR, blk_set_ne nXR, blk_set_ne nXR])).trans (cX o)
    refine wpAnyH_ready (rs := [3]) (by kernel_rfl) (by simp) ?_
    refine AllReadyH.cons rfl (fun K hK => ?_) AllReadyH.nil
    go_simp
    refine hK.out _ _ cX2 (fun hHeld => ?_)
    clear hK K
    try simp only [Act.put, List.setIfInBounds_toArray, List.set_cons_zero, List.set_cons_succ]
    refine takeD (i := 4) (some 3) (v := ?_) rfl rfl (by kernel_rfl) (by kernel_rfl) (by kernel_rfl) (fun _ _ _ h => h) (by kernel_rfl) ?_ (by assumption) ?_
    rotate_left
    · intro wx hSw
      try dsimp only at hSw
      go_simp
      try (with_reducible rfl)
    try simp only [Act.put, List.setIfInBounds_toArray, List.set_cons_zero, List.set_cons_succ]
    refine wpAnyH_done (by kernel_rfl) ?_ _
    go_wp2_with fail
    exact bodyPost_ret (v := .tuple #[.agg #[.slice q1 n x1, .slice q2 n x2, .int .i64 fr], .int .i64 x]) (by simp [results, Try.results40, go_sem, cR]) rfl ⟨⟨_, _, _, n, F, U, x, rfl, D1⟩, D2⟩
theorem drawGiven_any (cv : Value) (len : Nat) (w : World) (h : Code w.heap.size cv len w) (hs : ∃ a n c, cv = .slice a n c) :
    Calls Try.prog 18 #[cv] w fun e w' => (∃ (v1 v2 : Value) (fr : Int) (n : Nat) (F : Nat → Int) (U : Nat → ByteArray) (x : Int), e = .returned (.tuple #[.agg #[v1, v2, .int .i64 fr], .int .i64 x]) ∧ DrawnIn w.heap.size v1 v2 n F U w') ∧ Below w.heap.size w w' := by
  obtain ⟨a, m, c, rfl⟩ := hs
  have e1 : ∀ o, (w.alloc o).heap.size = w.heap.size + 1 := by intro o; simp
  have HC : Hid (∀ o, Code (w.alloc o).heap.size (.slice a m c) len (w.alloc o)) := fun o => h.up ((Below.refl _ _).alloc (Nat.le_refl _) o)
  go_enter Try.func18, Try.ntmps18
  go_wp2_with fail
  refine (drawChain_any _ _ _ (HC.out _) ⟨_, _, _, rfl⟩).mono ?_
  rintro e w1 ⟨⟨v1, v2, fr, n, F, U, x, rfl, r1, r2, n1, n2, hu⟩, hb1⟩
  rw [e1] at r1 r2
  have kR := (hb1.block w.heap.size (by rw [e1]; omega)).trans (blk_new w _)
  have B1 : Below w.heap.size w w1 := ((Below.refl _ _).alloc (Nat.le_refl _) _).trans (hb1.mono (by rw [e1]; omega))
  have HU : Hid (∀ i, i < n → (U i).size ≤ 10) := hu
  obtain ⟨q1, x1, rfl⟩ := vrow_form r1
  obtain ⟨q2, x2, rfl⟩ := vrow_form r2
  have HK : Hid (∀ (W : World) b, b ≠ w.heap.size → ∀ u1 u2 u3, (((W.setCell ⟨w.heap.size, 0, none⟩ u1).setCell ⟨w.heap.size, 1, none⟩ u2).setCell ⟨w.heap.size, 2, none⟩ u3).heap[b]? = W.heap[b]?) := fun W b hb u1 u2 u3 => by
    rw [blk_set_ne hb, blk_set_ne hb, blk_set_ne hb]
  clear hb1 HC h hu
  have cR := blk_cell kR
  have fR := blk_free kR
  go_wp2_with fail
  exact bodyPost_ret (v := .tuple #[.agg #[.slice q1 n x1, .slice q2 n x2, .int .i64 fr], .int .i64 x]) (by simp [results, Try.results18, go_sem, cR]) rfl ⟨⟨_, _, _, n, F, U, x, rfl, (r1.keep (fun b hb => HK.out _ b (by have := (r1.lt b hb).2; omega) _ _ _)).low (by omega), (r2.keep (fun b hb => HK.out _ b (by have := (r2.lt b hb).2; omega) _ _ _)).low (by omega), n1, n2, HU.out⟩, ((B1.setCell (Nat.le_refl _) _).setCell (Nat.le_refl _) _).setCell (Nat.le_refl _) _⟩
end Go.Proofs.Ythkkogpegmmbdaa
