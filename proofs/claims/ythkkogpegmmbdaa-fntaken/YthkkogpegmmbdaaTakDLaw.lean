/- What is taken is held, in cells that were free, and all else is held as it was; what is given back is free: the law's walk. -/
import Derived.Test.YthkkogpegmmbdaaTakM
import Derived.Test.YthkkogpegmmbdaaArDraw3
import Derived.Test.YthkkogpegmmbdaaArApp
import Derived.Test.YthkkogpegmmbdaaArHeld
namespace Go.Proofs.Ythkkogpegmmbdaa
open Go.RowKit
set_option linter.unusedVariables false
set_option linter.unusedSimpArgs false

set_option maxRecDepth 100000 in
set_option maxHeartbeats 8000000 in
theorem takLaw_any (a : Option Addr) (len cap : Nat) (w : World) (hl : len ≤ maxLen) (hC : len ≤ 1048576 → Code w.heap.size (.slice a len cap) len w) :
    Calls Try.prog 3 #[.slice a len cap] w fun e w' => e = .returned (.bool true) ∧ Below w.heap.size w w' := by
  by_cases hbig : len ≤ 1048576
  rotate_left
  · go_enter Try.func3, Try.ntmps3
    go_wp2_with fail
    refine (big_any _ _ _ _ hl).mono ?_
    rintro e w1 ⟨rfl, rfl⟩
    rw [decide_eq_true (by omega)]
    go_wp2_with fail
    go_ret
    exact ⟨rfl, Below.refl _ _⟩
  go_enter Try.func3, Try.ntmps3
  go_wp2_with fail
  refine (big_any _ _ _ _ hl).mono ?_
  rintro e w1 ⟨rfl, rfl⟩
  rw [decide_eq_false (by omega)]
  go_wp2_with fail
  refine (drawTaken_any _ _ _ (hC hbig) ⟨_, _, _, rfl⟩).mono ?_
  rintro e w2 ⟨⟨v1, v2, fr, n, F, U, s, rfl, hs40, r1, r2, n1, n2, hu⟩, B⟩
  clear hC hbig hl
  obtain ⟨q1, x1, rfl⟩ := vrow_form r1
  obtain ⟨q2, x2, rfl⟩ := vrow_form r2
  have HU : Hid (∀ i, i < n → (U i).size ≤ maxLen) := fun i hi => by have := hu i hi; unfold maxLen; omega
  have HU2 : Hid (∀ i, i < n → (U i).size ≤ 10) := hu
  clear hu
  obtain ⟨bT, hb⟩ : ∃ b : Bool, b = true ↔ takeP n n F U fr s := ⟨bOf _, bOf_iff _⟩
  have HT : Hid (bT = true ↔ takeP n n F U fr s) := hb
  clear hb
  obtain ⟨bO, hb⟩ : ∃ b : Bool, b = true ↔ okP n n F U fr := ⟨bOf _, bOf_iff _⟩
  have HO : Hid (bO = true ↔ okP n n F U fr) := hb
  clear hb
  have HTO : Hid (bT = true → bO = true) := fun h => HO.out.2 (HT.out.1 h).1
  have HLf : Hid ((walkL F n fr).length ≤ n) := walkL_len _ _ _
  have hX : Below w2.heap.size w2 (w2.alloc (.cells #[.slice q1 n x1, .slice q2 n x2, .int .i64 fr] 27)) := (Below.refl _ _).alloc (Nat.le_refl _) _
  have kA := blk_new w2 (.cells #[.slice q1 n x1, .slice q2 n x2, .int .i64 fr] 27)
  replace r1 := r1.up hX
  replace r2 := r2.up hX
  replace B := B.trans (hX.mono B.size)
  have cA := blk_cell kA
  clear hX
  go_wp2_with fail
  generalize w2.alloc (.cells #[.slice q1 n x1, .slice q2 n x2, .int .i64 fr] 27) = wA at *
  generalize w2.heap.size = bA at *
  obtain ⟨a1, y1, e1, h1⟩ := r1.read
  obtain ⟨a2, y2, e2, h2⟩ := r2.read
  cases e1
  cases e2
  refine (iTaken_any _ _ n n _ _ fr s F U _ (by omega) (by omega) (by omega) HU.out h1 h2 bT HT.out).mono ?_
  rintro e w3 ⟨⟨v1, v2, rfl, g1, g2⟩, hb⟩
  clear h1 h2
  replace r1 := r1.up hb
  replace r2 := r2.up hb
  replace kA := (hb.block _ (blk_lt kA)).trans kA
  replace cA := blk_cell kA
  replace B := B.trans (hb.mono B.size)
  clear hb
  obtain ⟨q3, x3, rfl⟩ := vrow_form g1
  obtain ⟨q4, x4, rfl⟩ := vrow_form g2
  have hX : Below w3.heap.size w3 (w3.alloc (.cells #[.slice q3 (gK bT n) x3, .slice q4 (gK bT n) x4, .int .i64 (tFr bT F (walkL F n fr) s)] 27)) := (Below.refl _ _).alloc (Nat.le_refl _) _
  have kB := blk_new w3 (.cells #[.slice q3 (gK bT n) x3, .slice q4 (gK bT n) x4, .int .i64 (tFr bT F (walkL F n fr) s)] 27)
  replace r1 := r1.up hX
  replace r2 := r2.up hX
  replace g1 := g1.up hX
  replace g2 := g2.up hX
  replace kA := (hX.block _ (blk_lt kA)).trans kA
  replace cA := blk_cell kA
  replace B := B.trans (hX.mono B.size)
  have cB := blk_cell kB
  clear hX
  go_wp2_with fail
  generalize w3.alloc (.cells #[.slice q3 (gK bT n) x3, .slice q4 (gK bT n) x4, .int .i64 (tFr bT F (walkL F n fr) s)] 27) = wB at *
  generalize w3.heap.size = bB at *
  obtain ⟨a1, y1, e1, h1⟩ := r1.read
  obtain ⟨a2, y2, e2, h2⟩ := r2.read
  cases e1
  cases e2
  refine (sTaken_any _ _ n n _ _ fr s F U _ (by omega) (by omega) (by omega) HU.out h1 h2 bT HT.out).mono ?_
  rintro e w4 ⟨⟨v1, v2, rfl, s1, s2⟩, hb⟩
  clear h1 h2
  replace r1 := r1.up hb
  replace r2 := r2.up hb
  replace g1 := g1.up hb
  replace g2 := g2.up hb
  replace kA := (hb.block _ (blk_lt kA)).trans kA
  replace cA := blk_cell kA
  replace kB := (hb.block _ (blk_lt kB)).trans kB
  replace cB := blk_cell kB
  replace B := B.trans (hb.mono B.size)
  clear hb
  obtain ⟨q5, x5, rfl⟩ := vrow_form s1
  obtain ⟨q6, x6, rfl⟩ := vrow_form s2
  have hX : Below w4.heap.size w4 (w4.alloc (.cells #[.slice q5 (gK bT n) x5, .slice q6 (gK bT n) x6, .int .i64 (tFr bT F (walkL F n fr) s)] 27)) := (Below.refl _ _).alloc (Nat.le_refl _) _
  have kS := blk_new w4 (.cells #[.slice q5 (gK bT n) x5, .slice q6 (gK bT n) x6, .int .i64 (tFr bT F (walkL F n fr) s)] 27)
  replace r1 := r1.up hX
  replace r2 := r2.up hX
  replace g1 := g1.up hX
  replace g2 := g2.up hX
  replace s1 := s1.up hX
  replace s2 := s2.up hX
  replace kA := (hX.block _ (blk_lt kA)).trans kA
  replace cA := blk_cell kA
  replace kB := (hX.block _ (blk_lt kB)).trans kB
  replace cB := blk_cell kB
  replace B := B.trans (hX.mono B.size)
  have cS := blk_cell kS
  clear hX
  have hk60 : gK bT n ≤ 60 := by unfold gK; split <;> omega
  cases bT
  · go_wp2_with fail
    generalize w4.alloc (.cells #[.slice q5 (gK false n) x5, .slice q6 (gK false n) x6, .int .i64 (tFr false F (walkL F n fr) s)] 27) = wS at *
    generalize w4.heap.size = bS at *
    obtain ⟨a1, y1, e1, h1⟩ := g1.read
    obtain ⟨a2, y2, e2, h2⟩ := g2.read
    obtain ⟨a3, y3, e3, h3⟩ := s1.read
    obtain ⟨a4, y4, e4, h4⟩ := s2.read
    cases e1
    cases e2
    cases e3
    cases e4
    refine (sameArena_any _ _ _ _ _ _ _ _ _ _ _ (tNx F (walkL F n fr) s) (tD (walkL F n fr) s U (needS s)) _ (by omega) (by omega) h1 h3 h2 h4).mono ?_
    rintro e w7 ⟨rfl, hb⟩
    clear h1 h2 h3 h4
    replace r1 := r1.up hb
    replace r2 := r2.up hb
    replace g1 := g1.up hb
    replace g2 := g2.up hb
    replace s1 := s1.up hb
    replace s2 := s2.up hb
    replace kA := (hb.block _ (blk_lt kA)).trans kA
    replace cA := blk_cell kA
    replace kB := (hb.block _ (blk_lt kB)).trans kB
    replace cB := blk_cell kB
    replace kS := (hb.block _ (blk_lt kS)).trans kS
    replace cS := blk_cell kS
    replace B := B.trans (hb.mono B.size)
    clear hb
    obtain ⟨a1, y1, e1, h1⟩ := r1.read
    obtain ⟨a2, y2, e2, h2⟩ := r2.read
    cases e1
    cases e2
    go_wp2_with fail
    refine (sOk_any _ _ n n _ _ fr F U _ (by omega) (by omega) HU.out h1 h2 bO HO.out).mono ?_
    rintro e w8 ⟨rfl, hb⟩
    clear h1 h2
    replace r1 := r1.up hb
    replace r2 := r2.up hb
    replace g1 := g1.up hb
    replace g2 := g2.up hb
    replace s1 := s1.up hb
    replace s2 := s2.up hb
    replace kA := (hb.block _ (blk_lt kA)).trans kA
    replace cA := blk_cell kA
    replace kB := (hb.block _ (blk_lt kB)).trans kB
    replace cB := blk_cell kB
    replace kS := (hb.block _ (blk_lt kS)).trans kS
    replace cS := blk_cell kS
    replace B := B.trans (hb.mono B.size)
    clear hb
    cases bO
    · go_wp2_with fail
      have hBd : Below w8.heap.size w8 w8.drew := (Below.refl _ _).drew
      have cA2 : ∀ o, (w8.drew).cell? ⟨bA, o, none⟩ = (#[.slice q1 n x1, .slice q2 n x2, .int .i64 fr] : Array Value)[o]? := blk_cell ((hBd.block _ (blk_lt kA)).trans kA)
      have cB2 : ∀ o, (w8.drew).cell? ⟨bB, o, none⟩ = (#[.slice q3 (gK false n) x3, .slice q4 (gK false n) x4, .int .i64 (tFr false F (walkL F n fr) s)] : Array Value)[o]? := blk_cell ((hBd.block _ (blk_lt kB)).trans kB)
      have cS2 : ∀ o, (w8.drew).cell? ⟨bS, o, none⟩ = (#[.slice q5 (gK false n) x5, .slice q6 (gK false n) x6, .int .i64 (tFr false F (walkL F n fr) s)] : Array Value)[o]? := blk_cell ((hBd.block _ (blk_lt kS)).trans kS)
      refine wp_region_held_drew (S := fun w' => (∀ o, w'.cell? ⟨bA, o, none⟩ = (#[.slice q1 n x1, .slice q2 n x2, .int .i64 fr] : Array Value)[o]?) ∧ (∀ o, w'.cell? ⟨bB, o, none⟩ = (#[.slice q3 (gK false n) x3, .slice q4 (gK false n) x4, .int .i64 (tFr false F (walkL F n fr) s)] : Array Value)[o]?) ∧ (∀ o, w'.cell? ⟨bS, o, none⟩ = (#[.slice q5 (gK false n) x5, .slice q6 (gK false n) x6, .int .i64 (tFr false F (walkL F n fr) s)] : Array Value)[o]?)) (by kernel_rfl) ⟨cA2, cB2, cS2⟩ (fun hHeld => ?_)
      generalize w8.drew = V at *
      refine takeD (i := 0) (some 64) (v := ?_) rfl rfl (by kernel_rfl) (by kernel_rfl) (by kernel_rfl) (fun _ _ _ h => h) (by kernel_rfl) ?_ (by assumption) ?_
      rotate_left
      · intro wx hSw
        obtain ⟨hS1, hS2, hS3⟩ := hSw
        go_simp
        try (with_reducible rfl)
      try simp only [Act.put, List.setIfInBounds_toArray, List.set_cons_zero, List.set_cons_succ]
      refine takeD (i := 1) (some 65) (v := ?_) rfl rfl (by kernel_rfl) (by kernel_rfl) (by kernel_rfl) (fun _ _ _ h => h) (by kernel_rfl) ?_ (by assumption) ?_
      rotate_left
      · intro wx hSw
        obtain ⟨hS1, hS2, hS3⟩ := hSw
        go_simp
        try (with_reducible rfl)
      try simp only [Act.put, List.setIfInBounds_toArray, List.set_cons_zero, List.set_cons_succ]
      refine takeD (i := 2) (some 66) (v := ?_) rfl rfl (by kernel_rfl) (by kernel_rfl) (by kernel_rfl) (fun _ _ _ h => h) (by kernel_rfl) ?_ (by assumption) ?_
      rotate_left
      · intro wx hSw
        obtain ⟨hS1, hS2, hS3⟩ := hSw
        go_simp
        try (with_reducible rfl)
      try simp only [Act.put, List.setIfInBounds_toArray, List.set_cons_zero, List.set_cons_succ]
      refine takeD (i := 3) (some 67) (v := ?_) rfl rfl (by kernel_rfl) (by kernel_rfl) (by kernel_rfl) (fun _ _ _ h => h) (by kernel_rfl) ?_ (by assumption) ?_
      rotate_left
      · intro wx hSw
        obtain ⟨hS1, hS2, hS3⟩ := hSw
        go_simp
        try (with_reducible rfl)
      try simp only [Act.put, List.setIfInBounds_toArray, List.set_cons_zero, List.set_cons_succ]
      refine takeD (i := 4) (some 68) (v := ?_) rfl rfl (by kernel_rfl) (by kernel_rfl) (by kernel_rfl) (fun _ _ _ h => h) (by kernel_rfl) ?_ (by assumption) ?_
      rotate_left
      · intro wx hSw
        obtain ⟨hS1, hS2, hS3⟩ := hSw
        go_simp
        try (with_reducible rfl)
      try simp only [Act.put, List.setIfInBounds_toArray, List.set_cons_zero, List.set_cons_succ]
      refine takeD (i := 5) (some 69) (v := ?_) rfl rfl (by kernel_rfl) (by kernel_rfl) (by kernel_rfl) (fun _ _ _ h => h) (by kernel_rfl) ?_ (by assumption) ?_
      rotate_left
      · intro wx hSw
        obtain ⟨hS1, hS2, hS3⟩ := hSw
        go_simp
        try (with_reducible rfl)
      try simp only [Act.put, List.setIfInBounds_toArray, List.set_cons_zero, List.set_cons_succ]
      refine takeD (i := 6) (some 70) (v := ?_) rfl rfl (by kernel_rfl) (by kernel_rfl) (by kernel_rfl) (fun _ _ _ h => h) (by kernel_rfl) ?_ (by assumption) ?_
      rotate_left
      · intro wx hSw
        obtain ⟨hS1, hS2, hS3⟩ := hSw
        go_simp
        try (with_reducible rfl)
      try simp only [Act.put, List.setIfInBounds_toArray, List.set_cons_zero, List.set_cons_succ]
      refine takeD (i := 7) (some 71) (v := ?_) rfl rfl (by kernel_rfl) (by kernel_rfl) (by kernel_rfl) (fun _ _ _ h => h) (by kernel_rfl) ?_ (by assumption) ?_
      rotate_left
      · intro wx hSw
        obtain ⟨hS1, hS2, hS3⟩ := hSw
        go_simp
        try (with_reducible rfl)
      try simp only [Act.put, List.setIfInBounds_toArray, List.set_cons_zero, List.set_cons_succ]
      refine takeD (i := 8) (some 72) (v := ?_) rfl rfl (by kernel_rfl) (by kernel_rfl) (by kernel_rfl) (fun _ _ _ h => h) (by kernel_rfl) ?_ (by assumption) ?_
      rotate_left
      · intro wx hSw
        obtain ⟨hS1, hS2, hS3⟩ := hSw
        go_simp
        try (with_reducible rfl)
      try simp only [Act.put, List.setIfInBounds_toArray, List.set_cons_zero, List.set_cons_succ]
      refine takeD (i := 9) (some 73) (v := ?_) rfl rfl (by kernel_rfl) (by kernel_rfl) (by kernel_rfl) (fun _ _ _ h => h) (by kernel_rfl) ?_ (by assumption) ?_
      rotate_left
      · intro wx hSw
        obtain ⟨hS1, hS2, hS3⟩ := hSw
        go_simp
        try (with_reducible rfl)
      try simp only [Act.put, List.setIfInBounds_toArray, List.set_cons_zero, List.set_cons_succ]
      refine takeD (i := 10) (some 74) (v := ?_) rfl rfl (by kernel_rfl) (by kernel_rfl) (by kernel_rfl) (fun _ _ _ h => h) (by kernel_rfl) ?_ (by assumption) ?_
      rotate_left
      · intro wx hSw
        obtain ⟨hS1, hS2, hS3⟩ := hSw
        go_simp
        try (with_reducible rfl)
      try simp only [Act.put, List.setIfInBounds_toArray, List.set_cons_zero, List.set_cons_succ]
      refine wpAnyH_ready (rs := [11]) (by kernel_rfl) (by simp) ?_
      refine AllReadyH.cons rfl (fun K hK => ?_) AllReadyH.nil
      go_simp
      obtain ⟨a1, y1, e1, h1⟩ := (g1.up hBd).read
      obtain ⟨a2, y2, e2, h2⟩ := (g2.up hBd).read
      obtain ⟨a3, y3, e3, h3⟩ := (s1.up hBd).read
      obtain ⟨a4, y4, e4, h4⟩ := (s2.up hBd).read
      cases e1
      cases e2
      cases e3
      cases e4
      refine (sameArena_any _ _ _ _ _ _ _ _ _ _ _ (tNx F (walkL F n fr) s) (tD (walkL F n fr) s U (needS s)) _ (by omega) (by omega) h1 h3 h2 h4).mono ?_
      rintro e V1 ⟨rfl, hb⟩
      clear h1 h2 h3 h4
      replace hBd := hBd.trans (hb.mono hBd.size)
      clear hb cA2 cB2 cS2 hHeld
      have cA2 : ∀ o, (V1).cell? ⟨bA, o, none⟩ = (#[.slice q1 n x1, .slice q2 n x2, .int .i64 fr] : Array Value)[o]? := blk_cell ((hBd.block _ (blk_lt kA)).trans kA)
      have cB2 : ∀ o, (V1).cell? ⟨bB, o, none⟩ = (#[.slice q3 (gK false n) x3, .slice q4 (gK false n) x4, .int .i64 (tFr false F (walkL F n fr) s)] : Array Value)[o]? := blk_cell ((hBd.block _ (blk_lt kB)).trans kB)
      have cS2 : ∀ o, (V1).cell? ⟨bS, o, none⟩ = (#[.slice q5 (gK false n) x5, .slice q6 (gK false n) x6, .int .i64 (tFr false F (walkL F n fr) s)] : Array Value)[o]? := blk_cell ((hBd.block _ (blk_lt kS)).trans kS)
      go_wp2_with fail
      refine hK.out _ _ ⟨cA2, cB2, cS2⟩ (fun hHeld => ?_)
      clear hK K
      try simp only [Act.put, List.setIfInBounds_toArray, List.set_cons_zero, List.set_cons_succ]
      refine takeD (i := 12) (some 76) (v := ?_) rfl rfl (by kernel_rfl) (by kernel_rfl) (by kernel_rfl) (fun _ _ _ h => h) (by kernel_rfl) ?_ (by assumption) ?_
      rotate_left
      · intro wx hSw
        obtain ⟨hS1, hS2, hS3⟩ := hSw
        go_simp
        try (with_reducible rfl)
      try simp only [Act.put, List.setIfInBounds_toArray, List.set_cons_zero, List.set_cons_succ]
      refine takeD (i := 13) (some 77) (v := ?_) rfl rfl (by kernel_rfl) (by kernel_rfl) (by kernel_rfl) (fun _ _ _ h => h) (by kernel_rfl) ?_ (by assumption) ?_
      rotate_left
      · intro wx hSw
        obtain ⟨hS1, hS2, hS3⟩ := hSw
        go_simp
        try (with_reducible rfl)
      try simp only [Act.put, List.setIfInBounds_toArray, List.set_cons_zero, List.set_cons_succ]
      refine takeD (i := 14) (some 78) (v := ?_) rfl rfl (by kernel_rfl) (by kernel_rfl) (by kernel_rfl) (fun _ _ _ h => h) (by kernel_rfl) ?_ (by assumption) ?_
      rotate_left
      · intro wx hSw
        obtain ⟨hS1, hS2, hS3⟩ := hSw
        go_simp
        try (with_reducible rfl)
      try simp only [Act.put, List.setIfInBounds_toArray, List.set_cons_zero, List.set_cons_succ]
      refine takeD (i := 16) (some 80) (v := ?_) rfl rfl (by kernel_rfl) (by kernel_rfl) (by kernel_rfl) (fun _ _ _ h => h) (by kernel_rfl) ?_ (by assumption) ?_
      rotate_left
      · intro wx hSw
        obtain ⟨hS1, hS2, hS3⟩ := hSw
        go_simp
        try (with_reducible rfl)
      try simp only [Act.put, List.setIfInBounds_toArray, List.set_cons_zero, List.set_cons_succ]
      refine wpAnyH_ready (rs := [15]) (by kernel_rfl) (by simp) ?_
      refine AllReadyH.cons rfl (fun K hK => ?_) AllReadyH.nil
      go_simp
      obtain ⟨a1, y1, e1, h1⟩ := (r1.up hBd).read
      obtain ⟨a2, y2, e2, h2⟩ := (r2.up hBd).read
      cases e1
      cases e2
      refine (iOk_any _ _ n n _ _ fr F U _ (by omega) (by omega) HU.out h1 h2 false HO.out).mono ?_
      rintro e V2 ⟨rfl, hb⟩
      clear h1 h2
      replace hBd := hBd.trans (hb.mono hBd.size)
      clear hb cA2 cB2 cS2 hHeld
      have cA2 : ∀ o, (V2).cell? ⟨bA, o, none⟩ = (#[.slice q1 n x1, .slice q2 n x2, .int .i64 fr] : Array Value)[o]? := blk_cell ((hBd.block _ (blk_lt kA)).trans kA)
      have cB2 : ∀ o, (V2).cell? ⟨bB, o, none⟩ = (#[.slice q3 (gK false n) x3, .slice q4 (gK false n) x4, .int .i64 (tFr false F (walkL F n fr) s)] : Array Value)[o]? := blk_cell ((hBd.block _ (blk_lt kB)).trans kB)
      have cS2 : ∀ o, (V2).cell? ⟨bS, o, none⟩ = (#[.slice q5 (gK false n) x5, .slice q6 (gK false n) x6, .int .i64 (tFr false F (walkL F n fr) s)] : Array Value)[o]? := blk_cell ((hBd.block _ (blk_lt kS)).trans kS)
      go_wp2_with fail
      refine hK.out _ _ ⟨cA2, cB2, cS2⟩ (fun hHeld => ?_)
      clear hK K
      try simp only [Act.put, List.setIfInBounds_toArray, List.set_cons_zero, List.set_cons_succ]
      refine wpAnyH_ready (rs := [17]) (by kernel_rfl) (by simp) ?_
      refine AllReadyH.cons rfl (fun K hK => ?_) AllReadyH.nil
      go_simp
      obtain ⟨a1, y1, e1, h1⟩ := (r1.up hBd).read
      obtain ⟨a2, y2, e2, h2⟩ := (r2.up hBd).read
      cases e1
      cases e2
      refine (sOk_any _ _ n n _ _ fr F U _ (by omega) (by omega) HU.out h1 h2 false HO.out).mono ?_
      rintro e V3 ⟨rfl, hb⟩
      clear h1 h2
      replace hBd := hBd.trans (hb.mono hBd.size)
      clear hb cA2 cB2 cS2 hHeld
      have cA2 : ∀ o, (V3).cell? ⟨bA, o, none⟩ = (#[.slice q1 n x1, .slice q2 n x2, .int .i64 fr] : Array Value)[o]? := blk_cell ((hBd.block _ (blk_lt kA)).trans kA)
      have cB2 : ∀ o, (V3).cell? ⟨bB, o, none⟩ = (#[.slice q3 (gK false n) x3, .slice q4 (gK false n) x4, .int .i64 (tFr false F (walkL F n fr) s)] : Array Value)[o]? := blk_cell ((hBd.block _ (blk_lt kB)).trans kB)
      have cS2 : ∀ o, (V3).cell? ⟨bS, o, none⟩ = (#[.slice q5 (gK false n) x5, .slice q6 (gK false n) x6, .int .i64 (tFr false F (walkL F n fr) s)] : Array Value)[o]? := blk_cell ((hBd.block _ (blk_lt kS)).trans kS)
      go_wp2_with fail
      refine hK.out _ _ ⟨cA2, cB2, cS2⟩ (fun hHeld => ?_)
      clear hK K
      try simp only [Act.put, List.setIfInBounds_toArray, List.set_cons_zero, List.set_cons_succ]
      refine takeD (i := 18) (some 82) (v := ?_) rfl rfl (by kernel_rfl) (by kernel_rfl) (by kernel_rfl) (fun _ _ _ h => h) (by kernel_rfl) ?_ (by assumption) ?_
      rotate_left
      · intro wx hSw
        obtain ⟨hS1, hS2, hS3⟩ := hSw
        go_simp
        try (with_reducible rfl)
      try simp only [Act.put, List.setIfInBounds_toArray, List.set_cons_zero, List.set_cons_succ]
      refine takeD (i := 19) (some 83) (v := ?_) rfl rfl (by kernel_rfl) (by kernel_rfl) (by kernel_rfl) (fun _ _ _ h => h) (by kernel_rfl) ?_ (by assumption) ?_
      rotate_left
      · intro wx hSw
        obtain ⟨hS1, hS2, hS3⟩ := hSw
        go_simp
        try (with_reducible rfl)
      try simp only [Act.put, List.setIfInBounds_toArray, List.set_cons_zero, List.set_cons_succ]
      refine takeD (i := 20) (some 2) (v := ?_) rfl rfl (by kernel_rfl) (by kernel_rfl) (by kernel_rfl) (fun _ _ _ h => h) (by kernel_rfl) ?_ (by assumption) ?_
      rotate_left
      · intro wx hSw
        obtain ⟨hS1, hS2, hS3⟩ := hSw
        go_simp
        try (with_reducible rfl)
      try simp only [Act.put, List.setIfInBounds_toArray, List.set_cons_zero, List.set_cons_succ]
      refine wpAnyH_done (by kernel_rfl) ?_ _
      go_wp2_with fail
      go_ret
      exact ⟨rfl, B.trans (hBd.mono B.size)⟩
    · obtain ⟨a1, y1, e1, h1⟩ := r1.read
      obtain ⟨a2, y2, e2, h2⟩ := r2.read
      cases e1
      cases e2
      go_wp2_with fail
      refine (iFreeC_any _ _ n n _ _ fr F U _ (by omega) (by omega) HU.out h1 h2 true ⟨fun _ => HO.out.1 (by trivial), fun _ => rfl⟩).mono ?_
      rintro e w9 ⟨⟨v, rfl, hV, hVc⟩, hb⟩
      clear h1 h2
      replace r1 := r1.up hb
      replace r2 := r2.up hb
      replace g1 := g1.up hb
      replace g2 := g2.up hb
      replace s1 := s1.up hb
      replace s2 := s2.up hb
      replace kA := (hb.block _ (blk_lt kA)).trans kA
      replace cA := blk_cell kA
      replace kB := (hb.block _ (blk_lt kB)).trans kB
      replace cB := blk_cell kB
      replace kS := (hb.block _ (blk_lt kS)).trans kS
      replace cS := blk_cell kS
      replace B := B.trans (hb.mono B.size)
      clear hb
      obtain ⟨q7, x7, rfl⟩ := vrow_form hV
      have hVd : (walkL F n fr).length ≤ x7 := hVc
      clear hVc
      have hV : VRow 2 w9 w8.heap.size (.slice q7 (walkL F n fr).length x7) (walkL F n fr).length (intsOf (walkL F n fr)) := hV
      have ePre : (freeL true n F fr).length = (walkL F n fr).length := rfl
      rw [ePre]
      clear ePre
      obtain ⟨N, hN⟩ : ∃ N, N = needS s := ⟨_, rfl⟩
      have eN : ((s.size : Int) + 9) / 10 = (N : Int) := by rw [hN]; unfold needS; omega
      have eN2 : ((s.size : Int) + 10 - 1) / 10 = (N : Int) := by rw [hN]; unfold needS; omega
      have HN : Hid (N = needS s) := hN
      clear hN
      have HNo : Hid (¬ (1 ≤ s.size ∧ N ≤ (walkL F n fr).length)) := fun h => by
        have := HT.out.2 ⟨HO.out.1 (by trivial), h.1, by rw [← HN.out]; exact h.2⟩
        cases this
      have HNN : Hid (N ≤ 10) := by rw [Hid, HN.out]; unfold needS; omega
      generalize walkL F n fr = L at *
      clear hV
      by_cases hz : s.size = 0
      · obtain rfl : s = ⟨#[]⟩ := by
          cases s
          simp [ByteArray.size] at hz
          rw [hz]
        go_wp2_with fail
        go_ret
        exact ⟨rfl, B⟩
      · have hse : (s.toList == []) = false := toList_beq_nil (by omega)
        have hnl : ¬ N ≤ L.length := fun h => HNo.out ⟨by omega, h⟩
        have hnl' : ¬ (N : Int) ≤ L.length := by omega
        go_wp2_with fail
        go_ret
        exact ⟨rfl, B⟩
  · go_wp2_with fail
    generalize w4.alloc (.cells #[.slice q5 (gK true n) x5, .slice q6 (gK true n) x6, .int .i64 (tFr true F (walkL F n fr) s)] 27) = wS at *
    generalize w4.heap.size = bS at *
    obtain ⟨a1, y1, e1, h1⟩ := g1.read
    obtain ⟨a2, y2, e2, h2⟩ := g2.read
    obtain ⟨a3, y3, e3, h3⟩ := s1.read
    obtain ⟨a4, y4, e4, h4⟩ := s2.read
    cases e1
    cases e2
    cases e3
    cases e4
    refine (sameArena_any _ _ _ _ _ _ _ _ _ _ _ (tNx F (walkL F n fr) s) (tD (walkL F n fr) s U (needS s)) _ (by omega) (by omega) h1 h3 h2 h4).mono ?_
    rintro e w7 ⟨rfl, hb⟩
    clear h1 h2 h3 h4
    replace r1 := r1.up hb
    replace r2 := r2.up hb
    replace g1 := g1.up hb
    replace g2 := g2.up hb
    replace s1 := s1.up hb
    replace s2 := s2.up hb
    replace kA := (hb.block _ (blk_lt kA)).trans kA
    replace cA := blk_cell kA
    replace kB := (hb.block _ (blk_lt kB)).trans kB
    replace cB := blk_cell kB
    replace kS := (hb.block _ (blk_lt kS)).trans kS
    replace cS := blk_cell kS
    replace B := B.trans (hb.mono B.size)
    clear hb
    obtain ⟨a1, y1, e1, h1⟩ := r1.read
    obtain ⟨a2, y2, e2, h2⟩ := r2.read
    cases e1
    cases e2
    go_wp2_with fail
    refine (sOk_any _ _ n n _ _ fr F U _ (by omega) (by omega) HU.out h1 h2 bO HO.out).mono ?_
    rintro e w8 ⟨rfl, hb⟩
    clear h1 h2
    replace r1 := r1.up hb
    replace r2 := r2.up hb
    replace g1 := g1.up hb
    replace g2 := g2.up hb
    replace s1 := s1.up hb
    replace s2 := s2.up hb
    replace kA := (hb.block _ (blk_lt kA)).trans kA
    replace cA := blk_cell kA
    replace kB := (hb.block _ (blk_lt kB)).trans kB
    replace cB := blk_cell kB
    replace kS := (hb.block _ (blk_lt kS)).trans kS
    replace cS := blk_cell kS
    replace B := B.trans (hb.mono B.size)
    clear hb
    obtain rfl : bO = true := HTO.out (by trivial)
    have HTk : Hid (takeP n n F U fr s) := HT.out.1 (by trivial)
    clear s1 s2 kS cS
    obtain ⟨a1, y1, e1, h1⟩ := r1.read
    obtain ⟨a2, y2, e2, h2⟩ := r2.read
    cases e1
    cases e2
    go_wp2_with fail
    refine (iFreeC_any _ _ n n _ _ fr F U _ (by omega) (by omega) HU.out h1 h2 true ⟨fun _ => HO.out.1 (by trivial), fun _ => rfl⟩).mono ?_
    rintro e w9 ⟨⟨v, rfl, hV, hVc⟩, hb⟩
    clear h1 h2
    replace r1 := r1.up hb
    replace r2 := r2.up hb
    replace g1 := g1.up hb
    replace g2 := g2.up hb
    replace kA := (hb.block _ (blk_lt kA)).trans kA
    replace cA := blk_cell kA
    replace kB := (hb.block _ (blk_lt kB)).trans kB
    replace cB := blk_cell kB
    replace B := B.trans (hb.mono B.size)
    clear hb
    obtain ⟨q7, x7, rfl⟩ := vrow_form hV
    have hVd : (walkL F n fr).length ≤ x7 := hVc
    clear hVc
    have hV : VRow 2 w9 w8.heap.size (.slice q7 (walkL F n fr).length x7) (walkL F n fr).length (intsOf (walkL F n fr)) := hV
    have ePre : (freeL true n F fr).length = (walkL F n fr).length := rfl
    rw [ePre]
    clear ePre
    obtain ⟨N, hN⟩ : ∃ N, N = needS s := ⟨_, rfl⟩
    have eN : ((s.size : Int) + 9) / 10 = (N : Int) := by rw [hN]; unfold needS; omega
    have eN2 : ((s.size : Int) + 10 - 1) / 10 = (N : Int) := by rw [hN]; unfold needS; omega
    have HN : Hid (N = needS s) := hN
    clear hN
    have HF : Hid (TakF n F U fr s (walkL F n fr) (needS s) (tNx F (walkL F n fr) s) (tD (walkL F n fr) s U (needS s)) (F (tL (walkL F n fr) s).toNat) ((walkL F n fr).take (needS s)) ((walkL F n fr).drop (needS s))) := takF HTk.out HU2.out
    have HH : Hid (tHd true (walkL F n fr) = fr) := tak_head HTk.out
    have HNl : Hid (N ≤ (walkL F n fr).length) := by rw [Hid, HN.out]; exact HTk.out.2.2
    have HNp : Hid (1 ≤ N) := by rw [Hid, HN.out]; have := HTk.out.2.1; unfold needS; omega
    have HNN : Hid (N ≤ 10) := by rw [Hid, HN.out]; unfold needS; omega
    have hse : (s.toList == []) = false := toList_beq_nil (by have := HTk.out.2.1; omega)
    have eK : gK true n = n := rfl
    have eF : tFr true F (walkL F n fr) s = F (tL (walkL F n fr) s).toNat := rfl
    rw [eK] at g1 g2
    rw [eK, eF] at kB
    rw [HH.out]
    clear cB hk60 eK eF HH HTO HO HT
    have cB := blk_cell kB
    rw [← HN.out] at HF g2
    generalize tNx F (walkL F n fr) s = F2 at *
    generalize tD (walkL F n fr) s U N = U2 at *
    generalize F (tL (walkL F n fr) s).toNat = fr2 at *
    have HOk : Hid (okP n n F U fr) := HTk.out.1
    clear HTk
    generalize walkL F n fr = L at *
    have HD2 : Hid (∀ i, i < n → (U2 i).size ≤ maxLen) := fun i hi => by have := HF.out.size i hi; unfold maxLen; omega
    have hnl : N ≤ L.length := HNl.out
    have hnl' : (N : Int) ≤ L.length := by omega
    have hL60 : L.length ≤ 60 := by have := HLf.out; omega
    obtain ⟨a1, y1, e1, h1⟩ := g1.read
    obtain ⟨a2, y2, e2, h2⟩ := g2.read
    cases e1
    cases e2
    go_wp2_with fail
    rw [eN2]
    clear eN eN2 hse hnl'
    refine (iHeld_any _ _ n n _ _ fr2 fr F2 U2 _ (by omega) (by omega) HD2.out h1 h2 true (by simp [HF.out.chain])).mono ?_
    rintro e w10 ⟨rfl, hb⟩
    rw [HF.out.way, HF.out.text]
    clear h1 h2
    replace r1 := r1.up hb
    replace r2 := r2.up hb
    replace g1 := g1.up hb
    replace g2 := g2.up hb
    replace hV := hV.up hb
    replace kA := (hb.block _ (blk_lt kA)).trans kA
    replace cA := blk_cell kA
    replace kB := (hb.block _ (blk_lt kB)).trans kB
    replace cB := blk_cell kB
    replace B := B.trans (hb.mono B.size)
    clear hb
    obtain ⟨a1, y1, e1, h1⟩ := g1.read
    obtain ⟨a2, y2, e2, h2⟩ := g2.read
    cases e1
    cases e2
    go_wp2_with fail
    refine (iChain_any _ _ n n _ _ fr2 fr F2 U2 _ (by omega) (by omega) HD2.out h1 h2 true (by simp [HF.out.chain])).mono ?_
    rintro e w11 ⟨⟨v, rfl, hP⟩, hb⟩
    rw [HF.out.way] at hP
    clear h1 h2
    replace r1 := r1.up hb
    replace r2 := r2.up hb
    replace g1 := g1.up hb
    replace g2 := g2.up hb
    replace hV := hV.up hb
    replace kA := (hb.block _ (blk_lt kA)).trans kA
    replace cA := blk_cell kA
    replace kB := (hb.block _ (blk_lt kB)).trans kB
    replace cB := blk_cell kB
    replace B := B.trans (hb.mono B.size)
    clear hb
    obtain ⟨q12, x12, rfl⟩ := vrow_form hP
    have HPl : Hid ((L.take N).length = N) := by rw [Hid, List.length_take]; omega
    rw [HPl.out] at hP
    rw [HPl.out]
    generalize hPP : L.take N = P at *
    generalize hQQ : L.drop N = Q at *
    have HPP : Hid (L.take N = P) := hPP
    have HQQ : Hid (L.drop N = Q) := hQQ
    clear hPP hQQ
    obtain ⟨a1, y1, e1, h1⟩ := g1.read
    obtain ⟨a2, y2, e2, h2⟩ := g2.read
    cases e1
    cases e2
    go_wp2_with fail
    refine (iGiven_any _ _ n n _ _ fr2 fr F2 U2 _ (by omega) (by omega) HD2.out h1 h2 true (by simp [HF.out.chain])).mono ?_
    rintro e w12 ⟨⟨v1, v2, rfl, z1, z2⟩, hb⟩
    rw [HF.out.way] at z1 z2
    have eK : gK true n = n := rfl
    have eF : gFr true fr = fr := rfl
    rw [eK] at z1 z2
    clear h1 h2
    replace r1 := r1.up hb
    replace r2 := r2.up hb
    replace g1 := g1.up hb
    replace g2 := g2.up hb
    replace hV := hV.up hb
    replace hP := hP.up hb
    replace kA := (hb.block _ (blk_lt kA)).trans kA
    replace cA := blk_cell kA
    replace kB := (hb.block _ (blk_lt kB)).trans kB
    replace cB := blk_cell kB
    replace B := B.trans (hb.mono B.size)
    clear hb
    obtain ⟨q8, x8, rfl⟩ := vrow_form z1
    obtain ⟨q9, x9, rfl⟩ := vrow_form z2
    rw [eF]
    clear eK eF
    have hX : Below w12.heap.size w12 (w12.alloc (.cells #[.slice q8 n x8, .slice q9 n x9, .int .i64 fr] 27)) := (Below.refl _ _).alloc (Nat.le_refl _) _
    have kC := blk_new w12 (.cells #[.slice q8 n x8, .slice q9 n x9, .int .i64 fr] 27)
    replace r1 := r1.up hX
    replace r2 := r2.up hX
    replace g1 := g1.up hX
    replace g2 := g2.up hX
    replace hV := hV.up hX
    replace hP := hP.up hX
    replace z1 := z1.up hX
    replace z2 := z2.up hX
    replace kA := (hX.block _ (blk_lt kA)).trans kA
    replace cA := blk_cell kA
    replace kB := (hX.block _ (blk_lt kB)).trans kB
    replace cB := blk_cell kB
    replace B := B.trans (hX.mono B.size)
    have cC := blk_cell kC
    clear hX
    go_wp2_with fail
    generalize w12.alloc (.cells #[.slice q8 n x8, .slice q9 n x9, .int .i64 fr] 27) = wZ at *
    generalize w12.heap.size = bC at *
    clear cA cB cC
    have HBe : Hid (∀ i, i < n → (gDt U2 P i).size ≤ maxLen) := fun i hi => by
      unfold gDt
      split
      · exact Nat.zero_le _
      · exact HD2.out i hi
    go_loopw [19] (fun i wr => ∃ k : Nat, k ≤ n ∧ i = .int .i64 k ∧ Below wZ.heap.size wZ wr) (fun i _ => n - (intOf i).toNat)
    case atStart => exact ⟨0, Nat.zero_le _, rfl, Below.refl _ _⟩
    case round =>
      obtain ⟨k, hk, rfl, hB⟩ := hrel
      by_cases hlt : k < n
      · have hlt' : (k : Int) < n := by omega
        have cA2 := blk_cell ((hB.block _ (blk_lt kA)).trans kA)
        obtain ⟨a1, y1, e1, h1⟩ := (r1.up hB).read
        obtain ⟨a2, y2, e2, h2⟩ := (r2.up hB).read
        cases e1; cases e2
        obtain ⟨b1, hb1⟩ : ∃ b : Bool, b = true ↔ chainP n n F U fr k := ⟨bOf _, bOf_iff _⟩
        have HB1 : Hid (b1 = true ↔ chainP n n F U fr k) := hb1
        obtain ⟨b2, hb2⟩ : ∃ b : Bool, b = true ↔ chainP n n F2 U2 fr2 k := ⟨bOf _, bOf_iff _⟩
        have HB2 : Hid (b2 = true ↔ chainP n n F2 U2 fr2 k) := hb2
        clear hb1 hb2
        go_wp2_with fail
        refine (iHeld_any _ _ n n _ _ fr (k : Int) F U _ (by omega) (by omega) HU.out h1 h2 b1 HB1.out).mono ?_
        rintro e wa ⟨rfl, hb⟩
        replace hB := hB.trans (hb.mono hB.size)
        clear hb h1 h2 cA2
        have cB2 := blk_cell ((hB.block _ (blk_lt kB)).trans kB)
        obtain ⟨a1, y1, e1, h1⟩ := (g1.up hB).read
        obtain ⟨a2, y2, e2, h2⟩ := (g2.up hB).read
        cases e1; cases e2
        go_wp2_with fail
        refine (iHeld_any _ _ n n _ _ fr2 (k : Int) F2 U2 _ (by omega) (by omega) HD2.out h1 h2 b2 HB2.out).mono ?_
        rintro e wb ⟨rfl, hb⟩
        replace hB := hB.trans (hb.mono hB.size)
        clear hb h1 h2 cB2
        have HBB : Hid (Below wZ.heap.size wZ wb) := hB
        clear hB
        cases b1
        · go_wp2_with fail
          go_roundw
          case rel => exact ⟨k + 1, by omega, by go_num, HBB.out⟩
          case measure => simp [intOf]; omega
        · have hge := HF.out.else_ k (HB1.out.1 (by trivial))
          obtain rfl : b2 = true := HB2.out.2 hge.1
          rw [hge.2]
          clear hge
          generalize catT U (freeL true n F (k : Int)) = tx at *
          go_wp2_with fail
          go_roundw
          case rel => exact ⟨k + 1, by omega, by go_num, HBB.out⟩
          case measure => simp [intOf]; omega
      · obtain rfl : n = k := by omega
        have cA0 := blk_cell ((hB.block _ (blk_lt kA)).trans kA)
        obtain ⟨g7, rfl⟩ : ∃ g7, q7 = some ⟨g7, 0, none⟩ := by
          obtain ⟨a0, c0, e0, ⟨e1, e2⟩ | ⟨g1', e1, _⟩⟩ := hV
          · have := HNp.out; omega
          · cases e0; exact ⟨g1', e1⟩
        obtain ⟨o2, ho2⟩ : ∃ o2 : Nat, o2 = if x7 = N then 0 else N := ⟨_, rfl⟩
        have HO2 : Hid (o2 = if x7 = N then 0 else N) := ho2
        have HX7 : Hid (L.length ≤ x7) := hVd
        have hNx : N ≤ x7 := by omega
        have hNx' : (N : Int) ≤ x7 := by omega
        clear ho2
        go_wp2_with fail
        clear cA0
        have hBd : Below wZ.heap.size wZ wr.drew := hB.drew
        clear hB hk hlt
        have cB2 : ∀ o, (wr.drew).cell? ⟨bB, o, none⟩ = (#[.slice q3 n x3, .slice q4 n x4, .int .i64 fr2] : Array Value)[o]? := blk_cell ((hBd.block _ (blk_lt kB)).trans kB)
        have cC2 : ∀ o, (wr.drew).cell? ⟨bC, o, none⟩ = (#[.slice q8 n x8, .slice q9 n x9, .int .i64 fr] : Array Value)[o]? := blk_cell ((hBd.block _ (blk_lt kC)).trans kC)
        refine wp_region_held_drew (S := fun w' => (∀ o, w'.cell? ⟨bB, o, none⟩ = (#[.slice q3 n x3, .slice q4 n x4, .int .i64 fr2] : Array Value)[o]?) ∧ (∀ o, w'.cell? ⟨bC, o, none⟩ = (#[.slice q8 n x8, .slice q9 n x9, .int .i64 fr] : Array Value)[o]?)) (by kernel_rfl) ⟨cB2, cC2⟩ (fun hHeld => ?_)
        generalize wr.drew = V at *
        refine takeD (i := 0) (some 162) (v := ?_) rfl rfl (by kernel_rfl) (by kernel_rfl) (by kernel_rfl) (fun _ _ _ h => h) (by kernel_rfl) ?_ (by assumption) ?_
        rotate_left
        · intro wx hSw
          obtain ⟨hS1, hS2⟩ := hSw
          go_simp
          try (with_reducible rfl)
        try simp only [Act.put, List.setIfInBounds_toArray, List.set_cons_zero, List.set_cons_succ]
        refine takeD (i := 1) (some 163) (v := ?_) rfl rfl (by kernel_rfl) (by kernel_rfl) (by kernel_rfl) (fun _ _ _ h => h) (by kernel_rfl) ?_ (by assumption) ?_
        rotate_left
        · intro wx hSw
          obtain ⟨hS1, hS2⟩ := hSw
          go_simp
          try (with_reducible rfl)
        try simp only [Act.put, List.setIfInBounds_toArray, List.set_cons_zero, List.set_cons_succ]
        refine takeD (i := 2) (some 164) (v := ?_) rfl rfl (by kernel_rfl) (by kernel_rfl) (by kernel_rfl) (fun _ _ _ h => h) (by kernel_rfl) ?_ (by assumption) ?_
        rotate_left
        · intro wx hSw
          obtain ⟨hS1, hS2⟩ := hSw
          go_simp
          try (with_reducible rfl)
        try simp only [Act.put, List.setIfInBounds_toArray, List.set_cons_zero, List.set_cons_succ]
        refine takeD (i := 3) (some 165) (v := ?_) rfl rfl (by kernel_rfl) (by kernel_rfl) (by kernel_rfl) (fun _ _ _ h => h) (by kernel_rfl) ?_ (by assumption) ?_
        rotate_left
        · intro wx hSw
          obtain ⟨hS1, hS2⟩ := hSw
          go_simp
          try (with_reducible rfl)
        try simp only [Act.put, List.setIfInBounds_toArray, List.set_cons_zero, List.set_cons_succ]
        refine takeD (i := 4) (some 166) (v := ?_) rfl rfl (by kernel_rfl) (by kernel_rfl) (by kernel_rfl) (fun _ _ _ h => h) (by kernel_rfl) ?_ (by assumption) ?_
        rotate_left
        · intro wx hSw
          obtain ⟨hS1, hS2⟩ := hSw
          go_simp
          try (with_reducible rfl)
        try simp only [Act.put, List.setIfInBounds_toArray, List.set_cons_zero, List.set_cons_succ]
        refine takeD (i := 5) (some 167) (v := ?_) rfl rfl (by kernel_rfl) (by kernel_rfl) (by kernel_rfl) (fun _ _ _ h => h) (by kernel_rfl) ?_ (by assumption) ?_
        rotate_left
        · intro wx hSw
          obtain ⟨hS1, hS2⟩ := hSw
          go_simp
          try (with_reducible rfl)
        try simp only [Act.put, List.setIfInBounds_toArray, List.set_cons_zero, List.set_cons_succ]
        refine takeD (i := 6) (some 168) (v := ?_) rfl rfl (by kernel_rfl) (by kernel_rfl) (by kernel_rfl) (fun _ _ _ h => h) (by kernel_rfl) ?_ (by assumption) ?_
        rotate_left
        · intro wx hSw
          obtain ⟨hS1, hS2⟩ := hSw
          go_simp
          try (with_reducible rfl)
        try simp only [Act.put, List.setIfInBounds_toArray, List.set_cons_zero, List.set_cons_succ]
        refine takeD (i := 7) (some 169) (v := ?_) rfl rfl (by kernel_rfl) (by kernel_rfl) (by kernel_rfl) (fun _ _ _ h => h) (by kernel_rfl) ?_ (by assumption) ?_
        rotate_left
        · intro wx hSw
          obtain ⟨hS1, hS2⟩ := hSw
          go_simp
          try (with_reducible rfl)
        try simp only [Act.put, List.setIfInBounds_toArray, List.set_cons_zero, List.set_cons_succ]
        refine takeD (i := 8) (some 170) (v := ?_) rfl rfl (by kernel_rfl) (by kernel_rfl) (by kernel_rfl) (fun _ _ _ h => h) (by kernel_rfl) ?_ (by assumption) ?_
        rotate_left
        · intro wx hSw
          obtain ⟨hS1, hS2⟩ := hSw
          go_simp
          try (with_reducible rfl)
        try simp only [Act.put, List.setIfInBounds_toArray, List.set_cons_zero, List.set_cons_succ]
        refine takeD (i := 9) (some 171) (v := ?_) rfl rfl (by kernel_rfl) (by kernel_rfl) (by kernel_rfl) (fun _ _ _ h => h) (by kernel_rfl) ?_ (by assumption) ?_
        rotate_left
        · intro wx hSw
          obtain ⟨hS1, hS2⟩ := hSw
          go_simp
          try (with_reducible rfl)
        try simp only [Act.put, List.setIfInBounds_toArray, List.set_cons_zero, List.set_cons_succ]
        refine takeD (i := 10) (some 172) (v := ?_) rfl rfl (by kernel_rfl) (by kernel_rfl) (by kernel_rfl) (fun _ _ _ h => h) (by kernel_rfl) ?_ (by assumption) ?_
        rotate_left
        · intro wx hSw
          obtain ⟨hS1, hS2⟩ := hSw
          go_simp
          try (with_reducible rfl)
        try simp only [Act.put, List.setIfInBounds_toArray, List.set_cons_zero, List.set_cons_succ]
        refine takeD (i := 11) (some 173) (v := ?_) rfl rfl (by kernel_rfl) (by kernel_rfl) (by kernel_rfl) (fun _ _ _ h => h) (by kernel_rfl) ?_ (by assumption) ?_
        rotate_left
        · intro wx hSw
          obtain ⟨hS1, hS2⟩ := hSw
          go_simp
          try (with_reducible rfl)
        try simp only [Act.put, List.setIfInBounds_toArray, List.set_cons_zero, List.set_cons_succ]
        refine takeD (i := 12) (some 174) (v := ?_) rfl rfl (by kernel_rfl) (by kernel_rfl) (by kernel_rfl) (fun _ _ _ h => h) (by kernel_rfl) ?_ (by assumption) ?_
        rotate_left
        · intro wx hSw
          obtain ⟨hS1, hS2⟩ := hSw
          go_simp
          try (with_reducible rfl)
        try simp only [Act.put, List.setIfInBounds_toArray, List.set_cons_zero, List.set_cons_succ]
        refine takeD (i := 13) (some 175) (v := .slice (some ⟨g7, 0, none⟩) N x7) rfl rfl (by kernel_rfl) (by kernel_rfl) (by kernel_rfl) (fun _ _ _ h => h) (by kernel_rfl) ?_ (by assumption) ?_
        · intro wx hSw
          go_simp
        try simp only [Act.put, List.setIfInBounds_toArray, List.set_cons_zero, List.set_cons_succ]
        refine wpAnyH_ready (rs := [14]) (by kernel_rfl) (by simp) ?_
        refine AllReadyH.cons rfl (fun K hK => ?_) AllReadyH.nil
        go_simp
        obtain ⟨a1, y1, e1, h1⟩ := (hP.up hBd).read
        cases e1
        obtain ⟨a0, y0, e0, h0⟩ := (hV.up hBd).read
        cases e0
        have h3 := rd_take (n := 0) h0 hnl
        rw [HPP.out] at h3
        refine (sameInts_any _ _ _ _ _ (fun i => P.getD i 0) _ (by have := HNN.out; omega) h1 h3).mono ?_
        rintro e V1 ⟨rfl, hSm⟩
        have hb := hSm.below V.heap.size
        clear hSm h0 h1 h3
        replace hBd := hBd.trans (hb.mono hBd.size)
        clear hb cB2 cC2 hHeld
        have cB2 : ∀ o, (V1).cell? ⟨bB, o, none⟩ = (#[.slice q3 n x3, .slice q4 n x4, .int .i64 fr2] : Array Value)[o]? := blk_cell ((hBd.block _ (blk_lt kB)).trans kB)
        have cC2 : ∀ o, (V1).cell? ⟨bC, o, none⟩ = (#[.slice q8 n x8, .slice q9 n x9, .int .i64 fr] : Array Value)[o]? := blk_cell ((hBd.block _ (blk_lt kC)).trans kC)
        go_wp2_with fail
        refine hK.out _ _ ⟨cB2, cC2⟩ (fun hHeld => ?_)
        clear hK K
        try simp only [Act.put, List.setIfInBounds_toArray, List.set_cons_zero, List.set_cons_succ]
        refine takeD (i := 15) (some 177) (v := ?_) rfl rfl (by kernel_rfl) (by kernel_rfl) (by kernel_rfl) (fun _ _ _ h => h) (by kernel_rfl) ?_ (by assumption) ?_
        rotate_left
        · intro wx hSw
          obtain ⟨hS1, hS2⟩ := hSw
          go_simp
          try (with_reducible rfl)
        try simp only [Act.put, List.setIfInBounds_toArray, List.set_cons_zero, List.set_cons_succ]
        refine takeD (i := 16) (some 178) (v := ?_) rfl rfl (by kernel_rfl) (by kernel_rfl) (by kernel_rfl) (fun _ _ _ h => h) (by kernel_rfl) ?_ (by assumption) ?_
        rotate_left
        · intro wx hSw
          obtain ⟨hS1, hS2⟩ := hSw
          go_simp
          try (with_reducible rfl)
        try simp only [Act.put, List.setIfInBounds_toArray, List.set_cons_zero, List.set_cons_succ]
        refine takeD (i := 17) (some 179) (v := ?_) rfl rfl (by kernel_rfl) (by kernel_rfl) (by kernel_rfl) (fun _ _ _ h => h) (by kernel_rfl) ?_ (by assumption) ?_
        rotate_left
        · intro wx hSw
          obtain ⟨hS1, hS2⟩ := hSw
          go_simp
          try (with_reducible rfl)
        try simp only [Act.put, List.setIfInBounds_toArray, List.set_cons_zero, List.set_cons_succ]
        refine wpAnyH_ready (rs := [18]) (by kernel_rfl) (by simp) ?_
        refine AllReadyH.cons rfl (fun K hK => ?_) AllReadyH.nil
        go_simp
        obtain ⟨a1, y1, e1, h1⟩ := (g1.up hBd).read
        obtain ⟨a2, y2, e2, h2⟩ := (g2.up hBd).read
        cases e1
        cases e2
        refine (iOk_any _ _ n n _ _ fr2 F2 U2 _ (by omega) (by omega) HD2.out h1 h2 true (by simp [HF.out.ok])).mono ?_
        rintro e V2 ⟨rfl, hb⟩
        clear h1 h2
        replace hBd := hBd.trans (hb.mono hBd.size)
        clear hb cB2 cC2 hHeld
        have cB2 : ∀ o, (V2).cell? ⟨bB, o, none⟩ = (#[.slice q3 n x3, .slice q4 n x4, .int .i64 fr2] : Array Value)[o]? := blk_cell ((hBd.block _ (blk_lt kB)).trans kB)
        have cC2 : ∀ o, (V2).cell? ⟨bC, o, none⟩ = (#[.slice q8 n x8, .slice q9 n x9, .int .i64 fr] : Array Value)[o]? := blk_cell ((hBd.block _ (blk_lt kC)).trans kC)
        go_wp2_with fail
        refine hK.out _ _ ⟨cB2, cC2⟩ (fun hHeld => ?_)
        clear hK K
        try simp only [Act.put, List.setIfInBounds_toArray, List.set_cons_zero, List.set_cons_succ]
        refine takeD (i := 19) (some 181) (v := ?_) rfl rfl (by kernel_rfl) (by kernel_rfl) (by kernel_rfl) (fun _ _ _ h => h) (by kernel_rfl) ?_ (by assumption) ?_
        rotate_left
        · intro wx hSw
          obtain ⟨hS1, hS2⟩ := hSw
          go_simp
          try (with_reducible rfl)
        try simp only [Act.put, List.setIfInBounds_toArray, List.set_cons_zero, List.set_cons_succ]
        refine takeD (i := 20) (some 182) (v := ?_) rfl rfl (by kernel_rfl) (by kernel_rfl) (by kernel_rfl) (fun _ _ _ h => h) (by kernel_rfl) ?_ (by assumption) ?_
        rotate_left
        · intro wx hSw
          obtain ⟨hS1, hS2⟩ := hSw
          go_simp
          try (with_reducible rfl)
        try simp only [Act.put, List.setIfInBounds_toArray, List.set_cons_zero, List.set_cons_succ]
        refine takeD (i := 21) (some 183) (v := ?_) rfl rfl (by kernel_rfl) (by kernel_rfl) (by kernel_rfl) (fun _ _ _ h => h) (by kernel_rfl) ?_ (by assumption) ?_
        rotate_left
        · intro wx hSw
          obtain ⟨hS1, hS2⟩ := hSw
          go_simp
          try (with_reducible rfl)
        try simp only [Act.put, List.setIfInBounds_toArray, List.set_cons_zero, List.set_cons_succ]
        refine takeD (i := 23) (some 185) (v := ?_) rfl rfl (by kernel_rfl) (by kernel_rfl) (by kernel_rfl) (fun _ _ _ h => h) (by kernel_rfl) ?_ (by assumption) ?_
        rotate_left
        · intro wx hSw
          obtain ⟨hS1, hS2⟩ := hSw
          go_simp
          try (with_reducible rfl)
        try simp only [Act.put, List.setIfInBounds_toArray, List.set_cons_zero, List.set_cons_succ]
        refine takeD (i := 24) (some 186) (v := ?_) rfl rfl (by kernel_rfl) (by kernel_rfl) (by kernel_rfl) (fun _ _ _ h => h) (by kernel_rfl) ?_ (by assumption) ?_
        rotate_left
        · intro wx hSw
          obtain ⟨hS1, hS2⟩ := hSw
          go_simp
          try (with_reducible rfl)
        try simp only [Act.put, List.setIfInBounds_toArray, List.set_cons_zero, List.set_cons_succ]
        refine takeD (i := 25) (some 187) (v := .slice (some ⟨g7, o2, none⟩) (L.length - N) (x7 - N)) rfl rfl (by kernel_rfl) (by kernel_rfl) (by kernel_rfl) (fun _ _ _ h => h) (by kernel_rfl) ?_ (by assumption) ?_
        · intro wx hSw
          have ho2 := HO2.out
          subst ho2
          by_cases hxe : x7 = N
          · go_simp
          · go_simp
        try simp only [Act.put, List.setIfInBounds_toArray, List.set_cons_zero, List.set_cons_succ]
        refine wpAnyH_ready (rs := [22]) (by kernel_rfl) (by simp) ?_
        refine AllReadyH.cons rfl (fun K hK => ?_) AllReadyH.nil
        go_simp
        obtain ⟨a1, y1, e1, h1⟩ := (g1.up hBd).read
        obtain ⟨a2, y2, e2, h2⟩ := (g2.up hBd).read
        cases e1
        cases e2
        refine (iFree_any _ _ n n _ _ fr2 F2 U2 _ (by omega) (by omega) HD2.out h1 h2 true (by simp [HF.out.ok])).mono ?_
        rintro e V3 ⟨⟨v, rfl, hW⟩, hb⟩
        rw [HF.out.free] at hW
        obtain ⟨q13, x13, rfl⟩ := vrow_form hW
        have HQl : Hid (Q.length = L.length - N) := by rw [Hid, ← HQQ.out, List.length_drop]
        rw [HQl.out] at hW
        rw [HQl.out]
        clear h1 h2
        replace hBd := hBd.trans (hb.mono hBd.size)
        clear hb cB2 cC2 hHeld
        have cB2 : ∀ o, (V3).cell? ⟨bB, o, none⟩ = (#[.slice q3 n x3, .slice q4 n x4, .int .i64 fr2] : Array Value)[o]? := blk_cell ((hBd.block _ (blk_lt kB)).trans kB)
        have cC2 : ∀ o, (V3).cell? ⟨bC, o, none⟩ = (#[.slice q8 n x8, .slice q9 n x9, .int .i64 fr] : Array Value)[o]? := blk_cell ((hBd.block _ (blk_lt kC)).trans kC)
        go_wp2_with fail
        refine hK.out _ _ ⟨cB2, cC2⟩ (fun hHeld => ?_)
        clear hK K
        try simp only [Act.put, List.setIfInBounds_toArray, List.set_cons_zero, List.set_cons_succ]
        refine wpAnyH_ready (rs := [26]) (by kernel_rfl) (by simp) ?_
        refine AllReadyH.cons rfl (fun K hK => ?_) AllReadyH.nil
        go_simp
        obtain ⟨a1, y1, e1, h1⟩ := hW.read
        cases e1
        obtain ⟨a0, y0, e0, h0⟩ := (hV.up hBd).read
        cases e0
        have h3 := rd_drop (N := N) (o2 := o2) h0 (fun hlt => by rw [HO2.out, if_neg (by have := HX7.out; omega)])
        rw [HQQ.out] at h3
        refine (sameInts_any _ _ _ _ _ (fun i => Q.getD i 0) _ (by omega) h1 h3).mono ?_
        rintro e V4 ⟨rfl, hSm⟩
        have hb := hSm.below V3.heap.size
        clear hSm h0 h1 h3 hW
        replace hBd := hBd.trans (hb.mono hBd.size)
        clear hb cB2 cC2 hHeld
        have cB2 : ∀ o, (V4).cell? ⟨bB, o, none⟩ = (#[.slice q3 n x3, .slice q4 n x4, .int .i64 fr2] : Array Value)[o]? := blk_cell ((hBd.block _ (blk_lt kB)).trans kB)
        have cC2 : ∀ o, (V4).cell? ⟨bC, o, none⟩ = (#[.slice q8 n x8, .slice q9 n x9, .int .i64 fr] : Array Value)[o]? := blk_cell ((hBd.block _ (blk_lt kC)).trans kC)
        go_wp2_with fail
        refine hK.out _ _ ⟨cB2, cC2⟩ (fun hHeld => ?_)
        clear hK K
        try simp only [Act.put, List.setIfInBounds_toArray, List.set_cons_zero, List.set_cons_succ]
        refine takeD (i := 27) (some 189) (v := ?_) rfl rfl (by kernel_rfl) (by kernel_rfl) (by kernel_rfl) (fun _ _ _ h => h) (by kernel_rfl) ?_ (by assumption) ?_
        rotate_left
        · intro wx hSw
          obtain ⟨hS1, hS2⟩ := hSw
          go_simp
          try (with_reducible rfl)
        try simp only [Act.put, List.setIfInBounds_toArray, List.set_cons_zero, List.set_cons_succ]
        refine takeD (i := 28) (some 190) (v := ?_) rfl rfl (by kernel_rfl) (by kernel_rfl) (by kernel_rfl) (fun _ _ _ h => h) (by kernel_rfl) ?_ (by assumption) ?_
        rotate_left
        · intro wx hSw
          obtain ⟨hS1, hS2⟩ := hSw
          go_simp
          try (with_reducible rfl)
        try simp only [Act.put, List.setIfInBounds_toArray, List.set_cons_zero, List.set_cons_succ]
        refine takeD (i := 29) (some 191) (v := ?_) rfl rfl (by kernel_rfl) (by kernel_rfl) (by kernel_rfl) (fun _ _ _ h => h) (by kernel_rfl) ?_ (by assumption) ?_
        rotate_left
        · intro wx hSw
          obtain ⟨hS1, hS2⟩ := hSw
          go_simp
          try (with_reducible rfl)
        try simp only [Act.put, List.setIfInBounds_toArray, List.set_cons_zero, List.set_cons_succ]
        refine takeD (i := 30) (some 192) (v := ?_) rfl rfl (by kernel_rfl) (by kernel_rfl) (by kernel_rfl) (fun _ _ _ h => h) (by kernel_rfl) ?_ (by assumption) ?_
        rotate_left
        · intro wx hSw
          obtain ⟨hS1, hS2⟩ := hSw
          go_simp
          try (with_reducible rfl)
        try simp only [Act.put, List.setIfInBounds_toArray, List.set_cons_zero, List.set_cons_succ]
        refine takeD (i := 31) (some 193) (v := ?_) rfl rfl (by kernel_rfl) (by kernel_rfl) (by kernel_rfl) (fun _ _ _ h => h) (by kernel_rfl) ?_ (by assumption) ?_
        rotate_left
        · intro wx hSw
          obtain ⟨hS1, hS2⟩ := hSw
          go_simp
          try (with_reducible rfl)
        try simp only [Act.put, List.setIfInBounds_toArray, List.set_cons_zero, List.set_cons_succ]
        refine takeD (i := 32) (some 194) (v := ?_) rfl rfl (by kernel_rfl) (by kernel_rfl) (by kernel_rfl) (fun _ _ _ h => h) (by kernel_rfl) ?_ (by assumption) ?_
        rotate_left
        · intro wx hSw
          obtain ⟨hS1, hS2⟩ := hSw
          go_simp
          try (with_reducible rfl)
        try simp only [Act.put, List.setIfInBounds_toArray, List.set_cons_zero, List.set_cons_succ]
        refine takeD (i := 35) (some 197) (v := ?_) rfl rfl (by kernel_rfl) (by kernel_rfl) (by kernel_rfl) (fun _ _ _ h => h) (by kernel_rfl) ?_ (by assumption) ?_
        rotate_left
        · intro wx hSw
          obtain ⟨hS1, hS2⟩ := hSw
          go_simp
          try (with_reducible rfl)
        try simp only [Act.put, List.setIfInBounds_toArray, List.set_cons_zero, List.set_cons_succ]
        refine takeD (i := 36) (some 198) (v := ?_) rfl rfl (by kernel_rfl) (by kernel_rfl) (by kernel_rfl) (fun _ _ _ h => h) (by kernel_rfl) ?_ (by assumption) ?_
        rotate_left
        · intro wx hSw
          obtain ⟨hS1, hS2⟩ := hSw
          go_simp
          try (with_reducible rfl)
        try simp only [Act.put, List.setIfInBounds_toArray, List.set_cons_zero, List.set_cons_succ]
        refine wpAnyH_ready (rs := [33]) (by kernel_rfl) (by simp) ?_
        refine AllReadyH.cons rfl (fun K hK => ?_) AllReadyH.nil
        go_simp
        obtain ⟨a1, y1, e1, h1⟩ := (z1.up hBd).read
        obtain ⟨a2, y2, e2, h2⟩ := (z2.up hBd).read
        cases e1
        cases e2
        refine (iFree_any _ _ n n _ _ fr (gNx F2 P fr2) (gDt U2 P) _ (by omega) (by omega) HBe.out h1 h2 true (by simp [HF.out.back])).mono ?_
        rintro e V5 ⟨⟨v, rfl, hW⟩, hb⟩
        rw [HF.out.all] at hW
        obtain ⟨q14, x14, rfl⟩ := vrow_form hW
        clear h1 h2 hW
        replace hBd := hBd.trans (hb.mono hBd.size)
        clear hb cB2 cC2 hHeld
        have cB2 : ∀ o, (V5).cell? ⟨bB, o, none⟩ = (#[.slice q3 n x3, .slice q4 n x4, .int .i64 fr2] : Array Value)[o]? := blk_cell ((hBd.block _ (blk_lt kB)).trans kB)
        have cC2 : ∀ o, (V5).cell? ⟨bC, o, none⟩ = (#[.slice q8 n x8, .slice q9 n x9, .int .i64 fr] : Array Value)[o]? := blk_cell ((hBd.block _ (blk_lt kC)).trans kC)
        go_wp2_with fail
        refine hK.out _ _ ⟨cB2, cC2⟩ (fun hHeld => ?_)
        clear hK K
        try simp only [Act.put, List.setIfInBounds_toArray, List.set_cons_zero, List.set_cons_succ]
        refine takeD (i := 34) (some 196) (v := ?_) rfl rfl (by kernel_rfl) (by kernel_rfl) (by kernel_rfl) (fun _ _ _ h => h) (by kernel_rfl) ?_ (by assumption) ?_
        rotate_left
        · intro wx hSw
          obtain ⟨hS1, hS2⟩ := hSw
          go_simp
          try (with_reducible rfl)
        try simp only [Act.put, List.setIfInBounds_toArray, List.set_cons_zero, List.set_cons_succ]
        refine takeD (i := 37) (some 199) (v := ?_) rfl rfl (by kernel_rfl) (by kernel_rfl) (by kernel_rfl) (fun _ _ _ h => h) (by kernel_rfl) ?_ (by assumption) ?_
        rotate_left
        · intro wx hSw
          obtain ⟨hS1, hS2⟩ := hSw
          go_simp
          try (with_reducible rfl)
        try simp only [Act.put, List.setIfInBounds_toArray, List.set_cons_zero, List.set_cons_succ]
        refine takeD (i := 38) (some 200) (v := ?_) rfl rfl (by kernel_rfl) (by kernel_rfl) (by kernel_rfl) (fun _ _ _ h => h) (by kernel_rfl) ?_ (by assumption) ?_
        rotate_left
        · intro wx hSw
          obtain ⟨hS1, hS2⟩ := hSw
          go_simp
          try (with_reducible rfl)
        try simp only [Act.put, List.setIfInBounds_toArray, List.set_cons_zero, List.set_cons_succ]
        refine takeD (i := 39) (some 201) (v := ?_) rfl rfl (by kernel_rfl) (by kernel_rfl) (by kernel_rfl) (fun _ _ _ h => h) (by kernel_rfl) ?_ (by assumption) ?_
        rotate_left
        · intro wx hSw
          obtain ⟨hS1, hS2⟩ := hSw
          go_simp
          try (with_reducible rfl)
        try simp only [Act.put, List.setIfInBounds_toArray, List.set_cons_zero, List.set_cons_succ]
        refine takeD (i := 40) (some 202) (v := ?_) rfl rfl (by kernel_rfl) (by kernel_rfl) (by kernel_rfl) (fun _ _ _ h => h) (by kernel_rfl) ?_ (by assumption) ?_
        rotate_left
        · intro wx hSw
          obtain ⟨hS1, hS2⟩ := hSw
          go_simp
          try (with_reducible rfl)
        try simp only [Act.put, List.setIfInBounds_toArray, List.set_cons_zero, List.set_cons_succ]
        refine wpAnyH_ready (rs := [41]) (by kernel_rfl) (by simp) ?_
        refine AllReadyH.cons rfl (fun K hK => ?_) AllReadyH.nil
        go_simp
        obtain ⟨a1, y1, e1, h1⟩ := (z1.up hBd).read
        obtain ⟨a2, y2, e2, h2⟩ := (z2.up hBd).read
        cases e1
        cases e2
        refine (iOk_any _ _ n n _ _ fr (gNx F2 P fr2) (gDt U2 P) _ (by omega) (by omega) HBe.out h1 h2 true (by simp [HF.out.back])).mono ?_
        rintro e V6 ⟨rfl, hb⟩
        clear h1 h2
        replace hBd := hBd.trans (hb.mono hBd.size)
        clear hb cB2 cC2 hHeld
        have cB2 : ∀ o, (V6).cell? ⟨bB, o, none⟩ = (#[.slice q3 n x3, .slice q4 n x4, .int .i64 fr2] : Array Value)[o]? := blk_cell ((hBd.block _ (blk_lt kB)).trans kB)
        have cC2 : ∀ o, (V6).cell? ⟨bC, o, none⟩ = (#[.slice q8 n x8, .slice q9 n x9, .int .i64 fr] : Array Value)[o]? := blk_cell ((hBd.block _ (blk_lt kC)).trans kC)
        go_wp2_with fail
        refine hK.out _ _ ⟨cB2, cC2⟩ (fun hHeld => ?_)
        clear hK K
        try simp only [Act.put, List.setIfInBounds_toArray, List.set_cons_zero, List.set_cons_succ]
        refine takeD (i := 42) (some 204) (v := ?_) rfl rfl (by kernel_rfl) (by kernel_rfl) (by kernel_rfl) (fun _ _ _ h => h) (by kernel_rfl) ?_ (by assumption) ?_
        rotate_left
        · intro wx hSw
          obtain ⟨hS1, hS2⟩ := hSw
          go_simp
          try (with_reducible rfl)
        try simp only [Act.put, List.setIfInBounds_toArray, List.set_cons_zero, List.set_cons_succ]
        refine takeD (i := 43) (some 2) (v := ?_) rfl rfl (by kernel_rfl) (by kernel_rfl) (by kernel_rfl) (fun _ _ _ h => h) (by kernel_rfl) ?_ (by assumption) ?_
        rotate_left
        · intro wx hSw
          obtain ⟨hS1, hS2⟩ := hSw
          go_simp
          try (with_reducible rfl)
        try simp only [Act.put, List.setIfInBounds_toArray, List.set_cons_zero, List.set_cons_succ]
        refine wpAnyH_done (by kernel_rfl) ?_ _
        go_wp2_with fail
        go_ret
        exact ⟨rfl, B.trans (hBd.mono B.size)⟩
end Go.Proofs.Ythkkogpegmmbdaa
