/- What the exact laws on tables do first: measure a table, copy it, hold two against each other. -/
import Derived.Test.YtaikjgjdggpnjaaEnt
namespace Go.Proofs.Ytaikjgjdggpnjaa
open Go.RowKit
set_option linter.unusedVariables false
set_option linter.unusedSimpArgs false

theorem szEnts_any (a : Option Addr) (n cap : Nat) (left : Int) (w : World) (hn : n ≤ maxLen) (h0 : 0 ≤ left) (h1 : left ≤ 1048576) :
    Calls Try.prog 7 #[.slice a n cap, .int .i64 left] w fun e w' => (∃ r : Int, e = .returned (.int .i64 r) ∧ (r = -1 ∨ 0 ≤ r ∧ r ≤ left ∧ n ≤ 1048576)) ∧ w = w' := by
  have hm : (n : Int) ≤ 9223372036854775807 := by unfold maxLen at hn; omega
  by_cases h : left - n < 0
  · go_enter Try.func7, Try.ntmps7
    go_wp2_with fail
    go_ret
    exact ⟨⟨_, rfl, .inl rfl⟩, rfl⟩
  · go_enter Try.func7, Try.ntmps7
    go_wp2_with fail
    go_ret
    exact ⟨⟨_, rfl, .inr (by omega)⟩, rfl⟩

theorem infoEnt : (Try.prog.info? 39).map (fun i => (i.zero, i.size, i.bytes)) = some (some (.agg #[.int .i64 0, .int .i64 0, .int .i64 0]), 3, 24) := by kernel_rfl
def zEnts (n : Nat) : Array Value := madeCells #[.int .i64 0, .int .i64 0, .int .i64 0] (n * 3)
theorem make_ents (n : Nat) (hn : n ≤ 1048576) (w : World) : (Instr.makeSlice 25 (.int .i64 (n : Int)) (.int .i64 (n : Int))).run Try.prog w = .ok (.slice (some ⟨w.heap.size, 0, none⟩) n n) (w.alloc (.cells (zEnts n) 39)) := by
  obtain ⟨i0, hi, hz0, hz1, hz2⟩ := info_parts infoEnt
  have := run_make (P := Try.prog) w 25 39 i0 (.agg #[.int .i64 0, .int .i64 0, .int .i64 0]) Try.underlying25 hi hz0 .i64 .i64 (n : Int) (n : Int) (by omega) (by omega) (by rw [hz2]; omega) (by omega)
  rw [this, hz1]
  simp [zEnts, Value.cells]
theorem zEnts_row {w : World} {g n : Nat} (h : w.heap[g]? = some (.cells (zEnts n) 39 (0, 0))) (f : Nat → Ent) : RowTo g 39 (n * 3) (flat f) (0 * 3) w :=
  ⟨_, h, by simp [zEnts, size_madeCells], fun i hi => by omega⟩

theorem three_new (w : World) (A B C : Obj) : (((w.alloc A).alloc B).alloc C).heap[w.heap.size]? = some A ∧ (((w.alloc A).alloc B).alloc C).heap[w.heap.size + 1]? = some B ∧ (((w.alloc A).alloc B).alloc C).heap[w.heap.size + 1 + 1]? = some C ∧ Below w.heap.size w (((w.alloc A).alloc B).alloc C) := by
  have e1 : (w.alloc A).heap.size = w.heap.size + 1 := by simp
  have e2 : ((w.alloc A).alloc B).heap.size = w.heap.size + 1 + 1 := by simp
  refine ⟨?_, ?_, ?_, ?_⟩
  · rw [blk_old _ (by omega), blk_old _ (by omega), blk_new]
  · rw [blk_old _ (by omega), ← e1, blk_new]
  · rw [← e2, blk_new]
  · exact (((Below.refl _ _).alloc (Nat.le_refl _) _).alloc (by omega) _).alloc (by omega) _
theorem toEntry_any (m p t : Int) (w : World) :
    Calls Try.prog 22 #[.agg #[.int .i64 m, .int .i64 p, .int .i64 t]] w fun e w' => e = .returned (.agg #[.int .i64 m, .int .i64 p, .int .i64 t]) ∧ Below w.heap.size w w' := by
  go_enter Try.func22, Try.ntmps22
  have HB : Hid (∀ A B C, Below w.heap.size w (((w.alloc A).alloc B).alloc C)) := fun A B C => (three_new w A B C).2.2.2
  go_wp2_with fail
  have cB := blk_cell (three_new w (.cells #[.int .i64 m, .int .i64 p, .int .i64 t] 42) (.cells #[.int .i64 m, .int .i64 p, .int .i64 t] 39) (.cells #[.int .i64 m, .int .i64 p, .int .i64 t] 39)).2.1
  exact bodyPost_ret (v := .agg #[.int .i64 m, .int .i64 p, .int .i64 t]) (by simp [results, Try.results22, go_sem, cB]) rfl ⟨rfl, HB.out _ _ _⟩

theorem toEnts_any (a : Option Addr) (n cap : Nat) (f : Nat → Ent) (w : World) (hn : n ≤ 1048576) (h : RdEnt w a n f) :
    Calls Try.prog 9 #[.slice a n cap] w fun e w' => e = .returned (.slice (some ⟨w.heap.size, 0, none⟩) n n) ∧ RowTo w.heap.size 39 (n * 3) (flat f) (n * 3) w' ∧ Below w.heap.size w w' := by
  have mk := make_ents n hn
  go_enter Try.func9, Try.ntmps9
  go_wp2_with fail
  clear mk
  have HR : Hid (RdEnt w a n f) := h
  clear h
  go_loopw [4] (fun i wr => ∃ k : Nat, k ≤ n ∧ i = .int .i64 k ∧ RowTo w.heap.size 39 (n * 3) (flat f) (k * 3) wr ∧ Below w.heap.size w wr) (fun i _ => n - (intOf i).toNat)
  case atStart => exact ⟨0, Nat.zero_le _, rfl, zEnts_row (blk_new w _) f, (Below.refl _ _).alloc (Nat.le_refl _) _⟩
  case round =>
    obtain ⟨k, hk, rfl, hR, hB⟩ := hrel
    by_cases hlt : k < n
    · have hlt' : (k : Int) < n := by omega
      obtain ⟨g, o, rfl, c1, c2, c3⟩ := (HR.out.up hB) k hlt
      go_wp2_with fail
      refine (toEntry_any _ _ _ _).mono ?_
      rintro e w1 ⟨rfl, hb1⟩
      have B1 : Below w.heap.size w w1 := hB.trans (hb1.mono hB.size)
      have R1 := hR.keep (hb1.block _ hR.lt)
      obtain ⟨v0, q0⟩ := R1.there (k * 3) (by omega)
      obtain ⟨v1, q1⟩ := R1.there (k * 3 + 1) (by omega)
      obtain ⟨v2, q2⟩ := R1.there (k * 3 + 2) (by omega)
      have f0 := R1.free (k * 3)
      have f1 := R1.free (k * 3 + 1)
      have f2 := R1.free (k * 3 + 2)
      have HS : Hid (RowTo w.heap.size 39 (n * 3) (flat f) ((k + 1) * 3) (((w1.setCell ⟨w.heap.size, k * 3, none⟩ (.int .i64 (f k).m)).setCell ⟨w.heap.size, k * 3 + 1, none⟩ (.int .i64 (f k).p)).setCell ⟨w.heap.size, k * 3 + 2, none⟩ (.int .i64 (f k).t))) := R1.ent hlt
      have HB : Hid (Below w.heap.size w w1) := B1
      clear hb1 c1 c2 c3 R1 B1 hR hB
      go_wp2_with fail
      go_roundw
      case rel => exact ⟨k + 1, by omega, by go_num, HS.out, ((HB.out.setCell (Nat.le_refl _) _).setCell (Nat.le_refl _) _).setCell (Nat.le_refl _) _⟩
      case measure => simp [intOf]; omega
    · obtain rfl : k = n := by omega
      go_wp2_with fail
      go_ret
      exact ⟨rfl, hR, hB⟩

theorem eqEntry_any (m p t : Int) (w : World) :
    Calls Try.prog 24 #[.agg #[.int .i64 m, .int .i64 p, .int .i64 t], .agg #[.int .i64 m, .int .i64 p, .int .i64 t]] w fun e w' => e = .returned (.bool true) ∧ Below w.heap.size w w' := by
  go_enter Try.func24, Try.ntmps24
  go_wp2_with fail
  go_ret
  exact ⟨rfl, ((Below.refl _ _).alloc (Nat.le_refl _) _).alloc (by simp) _⟩

set_option maxHeartbeats 1000000 in
theorem eqEnts_any (a1 a2 : Option Addr) (n c1 c2 : Nat) (f : Nat → Ent) (w : World) (hn : n ≤ 1048576) (h1 : RdEnt w a1 n f) (h2 : RdEnt w a2 n f) :
    Calls Try.prog 11 #[.slice a1 n c1, .slice a2 n c2] w fun e w' => e = .returned (.bool true) ∧ Below w.heap.size w w' := by
  have H1 : Hid (RdEnt w a1 n f) := h1
  have H2 : Hid (RdEnt w a2 n f) := h2
  clear h1 h2
  go_enter Try.func11, Try.ntmps11
  go_wp2_with fail
  go_loopw [5] (fun i wr => ∃ k : Nat, k ≤ n ∧ i = .int .i64 k ∧ Below w.heap.size w wr) (fun i _ => n - (intOf i).toNat)
  case atStart => exact ⟨0, Nat.zero_le _, rfl, Below.refl _ _⟩
  case round =>
    obtain ⟨k, hk, rfl, hB⟩ := hrel
    by_cases hlt : k < n
    · have hlt' : (k : Int) < n := by omega
      obtain ⟨g, o, rfl, c1, c2, c3⟩ := (H1.out.up hB) k hlt
      obtain ⟨g2, o2, rfl, d1, d2, d3⟩ := (H2.out.up hB) k hlt
      go_wp2_with fail
      refine wp_region_held_drew (S := fun w' => w'.cell? ⟨g, o + k * 3, none⟩ = some (.int .i64 (f k).m) ∧ w'.cell? ⟨g, o + k * 3 + 1, none⟩ = some (.int .i64 (f k).p) ∧ w'.cell? ⟨g, o + k * 3 + 2, none⟩ = some (.int .i64 (f k).t) ∧ w'.cell? ⟨g2, o2 + k * 3, none⟩ = some (.int .i64 (f k).m) ∧ w'.cell? ⟨g2, o2 + k * 3 + 1, none⟩ = some (.int .i64 (f k).p) ∧ w'.cell? ⟨g2, o2 + k * 3 + 2, none⟩ = some (.int .i64 (f k).t)) (by kernel_rfl) ⟨c1, c2, c3, d1, d2, d3⟩ (fun hHeld => ?_)
      refine takeD (i := 0) (some 17) (v := ?_) rfl rfl (by kernel_rfl) (by kernel_rfl) (by kernel_rfl) (fun _ _ _ h => h) (by kernel_rfl) ?_ (by assumption) ?_
      rotate_left
      · intro wx hSw
        obtain ⟨hS1, hS2, hS3, hS4, hS5, hS6⟩ := hSw
        go_simp
        try (with_reducible rfl)
      try simp only [Act.put, List.setIfInBounds_toArray, List.set_cons_zero, List.set_cons_succ]
      refine takeD (i := 1) (some 18) (v := ?_) rfl rfl (by kernel_rfl) (by kernel_rfl) (by kernel_rfl) (fun _ _ _ h => h) (by kernel_rfl) ?_ (by assumption) ?_
      rotate_left
      · intro wx hSw
        obtain ⟨hS1, hS2, hS3, hS4, hS5, hS6⟩ := hSw
        go_simp
        try (with_reducible rfl)
      try simp only [Act.put, List.setIfInBounds_toArray, List.set_cons_zero, List.set_cons_succ]
      refine takeD (i := 2) (some 19) (v := ?_) rfl rfl (by kernel_rfl) (by kernel_rfl) (by kernel_rfl) (fun _ _ _ h => h) (by kernel_rfl) ?_ (by assumption) ?_
      rotate_left
      · intro wx hSw
        obtain ⟨hS1, hS2, hS3, hS4, hS5, hS6⟩ := hSw
        go_simp
        try (with_reducible rfl)
      try simp only [Act.put, List.setIfInBounds_toArray, List.set_cons_zero, List.set_cons_succ]
      refine takeD (i := 3) (some 20) (v := ?_) rfl rfl (by kernel_rfl) (by kernel_rfl) (by kernel_rfl) (fun _ _ _ h => h) (by kernel_rfl) ?_ (by assumption) ?_
      rotate_left
      · intro wx hSw
        obtain ⟨hS1, hS2, hS3, hS4, hS5, hS6⟩ := hSw
        go_simp
        try (with_reducible rfl)
      try simp only [Act.put, List.setIfInBounds_toArray, List.set_cons_zero, List.set_cons_succ]
      refine takeD (i := 4) (some 21) (v := ?_) rfl rfl (by kernel_rfl) (by kernel_rfl) (by kernel_rfl) (fun _ _ _ h => h) (by kernel_rfl) ?_ (by assumption) ?_
      rotate_left
      · intro wx hSw
        obtain ⟨hS1, hS2, hS3, hS4, hS5, hS6⟩ := hSw
        go_simp
        try (with_reducible rfl)
      try simp only [Act.put, List.setIfInBounds_toArray, List.set_cons_zero, List.set_cons_succ]
      refine takeD (i := 5) (some 22) (v := ?_) rfl rfl (by kernel_rfl) (by kernel_rfl) (by kernel_rfl) (fun _ _ _ h => h) (by kernel_rfl) ?_ (by assumption) ?_
      rotate_left
      · intro wx hSw
        obtain ⟨hS1, hS2, hS3, hS4, hS5, hS6⟩ := hSw
        go_simp
        try (with_reducible rfl)
      try simp only [Act.put, List.setIfInBounds_toArray, List.set_cons_zero, List.set_cons_succ]
      refine takeD (i := 6) (some 23) (v := ?_) rfl rfl (by kernel_rfl) (by kernel_rfl) (by kernel_rfl) (fun _ _ _ h => h) (by kernel_rfl) ?_ (by assumption) ?_
      rotate_left
      · intro wx hSw
        obtain ⟨hS1, hS2, hS3, hS4, hS5, hS6⟩ := hSw
        go_simp
        try (with_reducible rfl)
      try simp only [Act.put, List.setIfInBounds_toArray, List.set_cons_zero, List.set_cons_succ]
      refine takeD (i := 7) (some 24) (v := ?_) rfl rfl (by kernel_rfl) (by kernel_rfl) (by kernel_rfl) (fun _ _ _ h => h) (by kernel_rfl) ?_ (by assumption) ?_
      rotate_left
      · intro wx hSw
        obtain ⟨hS1, hS2, hS3, hS4, hS5, hS6⟩ := hSw
        go_simp
        try (with_reducible rfl)
      try simp only [Act.put, List.setIfInBounds_toArray, List.set_cons_zero, List.set_cons_succ]
      refine wpAnyH_ready (rs := [8]) (by kernel_rfl) (by simp) ?_
      refine AllReadyH.cons rfl (fun K hK => ?_) AllReadyH.nil
      go_simp
      refine (eqEntry_any _ _ _ _).mono ?_
      rintro e w1 ⟨rfl, hb1⟩
      have b1 : Below wr.heap.size wr w1 := (Below.refl _ _).drew.trans hb1
      have c1 := (b1.cell (p := ⟨g, o + k * 3, none⟩) (cellLt c1)).trans c1
      have c2 := (b1.cell (p := ⟨g, o + k * 3 + 1, none⟩) (cellLt c2)).trans c2
      have c3 := (b1.cell (p := ⟨g, o + k * 3 + 2, none⟩) (cellLt c3)).trans c3
      have d1 := (b1.cell (p := ⟨g2, o2 + k * 3, none⟩) (cellLt d1)).trans d1
      have d2 := (b1.cell (p := ⟨g2, o2 + k * 3 + 1, none⟩) (cellLt d2)).trans d2
      have d3 := (b1.cell (p := ⟨g2, o2 + k * 3 + 2, none⟩) (cellLt d3)).trans d3
      go_wp2_with fail
      refine hK.out _ _ ⟨c1, c2, c3, d1, d2, d3⟩ (fun hHeld => ?_)
      clear hK K
      try simp only [Act.put, List.setIfInBounds_toArray, List.set_cons_zero, List.set_cons_succ]
      refine takeD (i := 9) (some 26) (v := ?_) rfl rfl (by kernel_rfl) (by kernel_rfl) (by kernel_rfl) (fun _ _ _ h => h) (by kernel_rfl) ?_ (by assumption) ?_
      rotate_left
      · intro wx hSw
        obtain ⟨hS1, hS2, hS3, hS4, hS5, hS6⟩ := hSw
        go_simp
        try (with_reducible rfl)
      try simp only [Act.put, List.setIfInBounds_toArray, List.set_cons_zero, List.set_cons_succ]
      refine wpAnyH_done (by kernel_rfl) ?_ _
      have HB : Hid (Below w.heap.size w w1) := hB.trans (b1.mono hB.size)
      clear b1 hb1 hB c1 c2 c3 d1 d2 d3 hHeld
      go_wp2_with fail
      go_roundw
      case rel => exact ⟨k + 1, by omega, by go_num, HB.out⟩
      case measure => simp [intOf]; omega
    · obtain rfl : k = n := by omega
      go_wp2_with fail
      go_ret
      exact ⟨rfl, hB⟩
end Go.Proofs.Ytaikjgjdggpnjaa
