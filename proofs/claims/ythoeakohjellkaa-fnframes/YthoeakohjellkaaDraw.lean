/- Texts that are hurt, and what the laws draw. -/
import Derived.Test.YthoeakohjellkaaRd2
import Derived.Test.YthoeakohjellkaaRead2
namespace Go.Proofs.Ythoeakohjellkaa
open Go.RowKit
set_option linter.unusedVariables false
set_option linter.unusedSimpArgs false

theorem conv1 (w : World) (a : Int) : (convert 22 9 (.slice (some ⟨w.heap.size, 0, none⟩) 1 1)).run Try.prog (w.alloc (.cells #[.int .u8 a] 5)) = .ok (.string (strOfNums [a])) (w.alloc (.cells #[.int .u8 a] 5)) := by
  refine run_convert_bytes_arg _ 22 5 Try.underlying22 Try.underlying5 w.heap.size 0 1 1 [a] rfl ?_ 9 Try.underlying9
  intro i hi
  have := World.cell?_alloc_mark w #[.int .u8 a] 5 (0, 0) (0 + i)
  rw [this]
  obtain rfl : i = 0 := by omega
  rfl

theorem cut_to (s : ByteArray) (y : Nat) (h : (y : Int) ≤ s.size) : ∃ A : ByteArray, A.size ≤ s.size ∧ ∀ wx : World, (Instr.slice 9 (.string s) none (some (.int .i64 (y : Int))) none).run Try.prog wx = .ok (.string A) wx := by
  refine ⟨s.extract 0 y, by rw [ByteArray.size_extract]; omega, fun wx => ?_⟩
  have := run_slice_string_h (P := Try.prog) wx 9 s Try.underlying9 .i64 (y : Int) (by omega) h
  simpa using this
theorem cut_from (s : ByteArray) (y : Int) (h0 : 0 ≤ y) (h : y ≤ s.size) : ∃ A : ByteArray, A.size ≤ s.size ∧ ∀ wx : World, (Instr.slice 9 (.string s) (some (.int .i64 y)) none none).run Try.prog wx = .ok (.string A) wx := by
  refine ⟨s.extract y.toNat s.size, by rw [ByteArray.size_extract]; omega, fun wx => ?_⟩
  exact run_slice_string_l (P := Try.prog) wx 9 s Try.underlying9 .i64 y h0 h

set_option maxHeartbeats 1000000 in
set_option maxRecDepth 100000 in
theorem hurt_any (g : Nat) (cv : Value) (s : ByteArray) (w : World) (h : Rd g cv w) (hs : s.size ≤ 60) :
    Calls Try.prog 47 #[.pointer (some ⟨g, 0, none⟩), .string s] w fun e w' => ∃ t : ByteArray, t.size ≤ 200 ∧ e = .returned (.string t) ∧ Rd g cv w' ∧ Kept g w w' := by
  go_enter Try.func47, Try.ntmps47
  go_wp2_with fail
  refine (below_any _ _ _ _ h (by omega) (by omega)).mono ?_
  rintro e w1 ⟨x, hx, rfl, hR1, hK1⟩
  by_cases h1 : x = 1
  · have q1 : ((x : Int) == 1) = true := by simp; omega
    go_wp2_with fail
    refine (below_any _ _ _ _ hR1 (by omega) (by omega)).mono ?_
    rintro e w2 ⟨y, hy, rfl, hR2, hK2⟩
    have hy' : (y : Int) ≤ s.size := by omega
    go_wp2_with fail
    go_ret
    exact ⟨_, by rw [ByteArray.size_extract]; omega, rfl, hR2, hK1.trans hK2⟩
  · have q1 : ((x : Int) == 1) = false := by simp; omega
    by_cases h2 : x = 2
    · have q2 : ((x : Int) == 2) = true := by simp; omega
      by_cases h0 : 0 < s.size
      · go_wp2_with fail
        refine (below_any _ _ _ _ hR1 (by omega) (by omega)).mono ?_
        rintro e w2 ⟨y, hy, rfl, hR2, hK2⟩
        have hy' : (y : Int) ≤ s.size := by omega
        have hy1 : (y : Int) + 1 ≤ s.size := by omega
        have hy0 : (0 : Int) ≤ (y : Int) + 1 := by omega
        have hwr : IntKind.i64.wrap ((y : Int) + 1) = (y : Int) + 1 := wrap_small _ (by omega) (by omega)
        go_wp2_with fail
        obtain ⟨A, hAs, hA⟩ := cut_to s y hy'
        obtain ⟨B, hBs, hB⟩ := cut_from s ((y : Int) + 1) hy0 hy1
        have hd1 : ∀ a, ¬ (9223372036854775807 < A.size + (strOfNums [a]).size) := by intro a; rw [strOfNums_size]; simp; omega
        have hd2 : ∀ a, ¬ (9223372036854775807 < (A ++ strOfNums [a]).size + B.size) := by intro a; rw [ByteArray.size_append, strOfNums_size]; simp; omega
        have hd2' : ∀ a, ¬ (9223372036854775807 < A.size + (strOfNums [a]).size + B.size) := by intro a; rw [strOfNums_size]; simp; omega
        have hfs : ∀ a, Hid ((A ++ strOfNums [a] ++ B).size ≤ 100 + 100) := by intro a; show _ ≤ _; rw [ByteArray.size_append, ByteArray.size_append, strOfNums_size]; simp; omega
        refine wp_region_noPanic ?_
        refine wp_region_held_drew (S := fun _ => True) (by kernel_rfl) True.intro (fun hHeld => ?_)
        refine wpAnyH_take (i := 0) (v := ?_) rfl (by kernel_rfl) (by kernel_rfl) (by kernel_rfl) (fun _ _ _ h => h) (Or.inl ⟨by rfl, ?_⟩) (by assumption) ?_
        rotate_left
        · intro wx hSw
          go_simp
          try (with_reducible rfl)
        try simp only [Act.put, List.setIfInBounds_toArray, List.set_cons_zero, List.set_cons_succ]
        refine wpAnyH_take (i := 1) (v := ?_) rfl (by kernel_rfl) (by kernel_rfl) (by kernel_rfl) (fun _ _ _ h => h) (Or.inl ⟨by rfl, ?_⟩) (by assumption) ?_
        rotate_left
        · intro wx hSw
          go_simp
          try (with_reducible rfl)
        try simp only [Act.put, List.setIfInBounds_toArray, List.set_cons_zero, List.set_cons_succ]
        refine wpAnyH_take (i := 2) (v := ?_) rfl (by kernel_rfl) (by kernel_rfl) (by kernel_rfl) (fun _ _ _ h => h) (Or.inl ⟨by rfl, ?_⟩) (by assumption) ?_
        rotate_left
        · intro wx hSw
          go_simp
          try (with_reducible rfl)
        try simp only [Act.put, List.setIfInBounds_toArray, List.set_cons_zero, List.set_cons_succ]
        refine wpAnyH_take (i := 3) (v := ?_) rfl (by kernel_rfl) (by kernel_rfl) (by kernel_rfl) (fun _ _ _ h => h) (Or.inl ⟨by rfl, ?_⟩) (by assumption) ?_
        rotate_left
        · intro wx hSw
          go_simp
          try (with_reducible rfl)
        try simp only [Act.put, List.setIfInBounds_toArray, List.set_cons_zero, List.set_cons_succ]
        refine wpAnyH_take (i := 9) (v := ?_) rfl (by kernel_rfl) (by kernel_rfl) (by kernel_rfl) (fun _ _ _ h => h) (Or.inl ⟨by rfl, ?_⟩) (by assumption) ?_
        rotate_left
        · intro wx hSw
          go_simp
          try (with_reducible rfl)
        try simp only [Act.put, List.setIfInBounds_toArray, List.set_cons_zero, List.set_cons_succ]
        refine wpAnyH_take (i := 10) (v := ?_) rfl (by kernel_rfl) (by kernel_rfl) (by kernel_rfl) (fun _ _ _ h => h) (Or.inl ⟨by rfl, ?_⟩) (by assumption) ?_
        rotate_left
        · intro wx hSw
          go_simp
          try (with_reducible rfl)
        try simp only [Act.put, List.setIfInBounds_toArray, List.set_cons_zero, List.set_cons_succ]
        refine wpAnyH_take (i := 11) (v := ?_) rfl (by kernel_rfl) (by kernel_rfl) (by kernel_rfl) (fun _ _ _ h => h) (Or.inl ⟨by rfl, ?_⟩) (by assumption) ?_
        rotate_left
        · intro wx hSw
          go_simp
          try (with_reducible rfl)
        try simp only [Act.put, List.setIfInBounds_toArray, List.set_cons_zero, List.set_cons_succ]
        refine wpAnyH_take (i := 12) (v := ?_) rfl (by kernel_rfl) (by kernel_rfl) (by kernel_rfl) (fun _ _ _ h => h) (Or.inl ⟨by rfl, ?_⟩) (by assumption) ?_
        rotate_left
        · intro wx hSw
          go_simp
          try (with_reducible rfl)
        try simp only [Act.put, List.setIfInBounds_toArray, List.set_cons_zero, List.set_cons_succ]
        refine wpAnyH_ready (rs := [4]) (by kernel_rfl) (by simp) ?_
        refine AllReadyH.cons rfl (fun K hK => ?_) AllReadyH.nil
        go_simp
        have hR2' : Rd g cv w2.drew := hR2.keep (fun _ _ => rfl)
        refine (below_any _ _ _ _ hR2' (by omega) (by omega)).mono ?_
        rintro e w3 ⟨z, hz, rfl, hR3, hK3'⟩
        have hK3 : Kept g w2 w3 := ⟨hK3'.os, hK3'.tape, hK3'.output, hK3'.size, hK3'.block⟩
        clear hK3' hR2'
        go_wp2_with fail
        refine hK.out _ _ True.intro (fun hHeld => ?_)
        clear hK K
        try simp only [Act.put, List.setIfInBounds_toArray, List.set_cons_zero, List.set_cons_succ]
        refine wpAnyH_take (i := 5) (v := ?_) rfl (by kernel_rfl) (by kernel_rfl) (by kernel_rfl) (fun _ _ _ h => h) (Or.inl ⟨by rfl, ?_⟩) (by assumption) ?_
        rotate_left
        · intro wx hSw
          go_simp
          try (with_reducible rfl)
        try simp only [Act.put, List.setIfInBounds_toArray, List.set_cons_zero, List.set_cons_succ]
        refine wpAnyH_ready (rs := [6]) (by kernel_rfl) (by simp) ?_
        refine AllReadyH.cons rfl (fun K hK => ?_) AllReadyH.nil
        go_simp
        refine hK.out _ _ True.intro (fun hHeld => ?_)
        clear hK K
        have hcv := conv1 w3
        try simp only [Act.put, List.setIfInBounds_toArray, List.set_cons_zero, List.set_cons_succ]
        refine wpAnyH_ready (rs := [7]) (by kernel_rfl) (by simp) ?_
        refine AllReadyH.cons rfl (fun K hK => ?_) AllReadyH.nil
        go_simp
        refine hK.out _ _ True.intro (fun hHeld => ?_)
        clear hK K
        try simp only [Act.put, List.setIfInBounds_toArray, List.set_cons_zero, List.set_cons_succ]
        refine wpAnyH_ready (rs := [8]) (by kernel_rfl) (by simp) ?_
        refine AllReadyH.cons rfl (fun K hK => ?_) AllReadyH.nil
        go_simp
        refine hK.out _ _ True.intro (fun hHeld => ?_)
        clear hK K
        try simp only [Act.put, List.setIfInBounds_toArray, List.set_cons_zero, List.set_cons_succ]
        refine wpAnyH_ready (rs := [13]) (by kernel_rfl) (by simp) ?_
        refine AllReadyH.cons rfl (fun K hK => ?_) AllReadyH.nil
        go_simp
        refine hK.out _ _ True.intro (fun hHeld => ?_)
        clear hK K
        try simp only [Act.put, List.setIfInBounds_toArray, List.set_cons_zero, List.set_cons_succ]
        refine wpAnyH_ready (rs := [14]) (by kernel_rfl) (by simp) ?_
        refine AllReadyH.cons rfl (fun K hK => ?_) AllReadyH.nil
        go_simp
        refine hK.out _ _ True.intro (fun hHeld => ?_)
        clear hK K
        try simp only [Act.put, List.setIfInBounds_toArray, List.set_cons_zero, List.set_cons_succ]
        refine wpAnyH_done (by kernel_rfl) ?_ _
        refine NoPanic.normal ?_
        go_wp2_with fail
        go_ret
        exact ⟨_, (hfs _).out, rfl, hR3.alloc _, (hK1.trans (hK2.trans hK3)).alloc _⟩
      · go_wp2_with fail
        go_ret
        exact ⟨_, by omega, rfl, hR1, hK1⟩
    · have q2 : ((x : Int) == 2) = false := by simp; omega
      by_cases h3 : x = 3
      · have q3 : ((x : Int) == 3) = true := by simp; omega
        go_wp2_with fail
        go_ret
        exact ⟨_, by rw [ByteArray.size_append]; show s.size + 1 ≤ 200; omega, rfl, hR1, hK1⟩
      · have q3 : ((x : Int) == 3) = false := by simp; omega
        go_wp2_with fail
        go_ret
        exact ⟨_, by omega, rfl, hR1, hK1⟩


theorem textOr_size (k d s p : Int) (b : ByteArray) (hb : b.size ≤ 40) : (textOr k d s p b).size ≤ 60 := by
  unfold textOr
  split
  · rw [size_data]
    show (bodyB k d s p b ++ Crc.bytes (bodyB k d s p b)).length ≤ 60
    rw [List.length_append, bytes_len, bodyB, List.length_append, ← size_data]
    show 5 + b.size + 4 ≤ 60
    omega
  · show (0 : Nat) ≤ 60
    omega

theorem drawText_any (cv : Value) (len : Nat) (w : World) (h : Code w.heap.size cv len w) (hs : ∃ a n c, cv = .slice a n c) :
    Calls Try.prog 9 #[cv] w fun e w' => ∃ (k d s p : Int) (b : ByteArray), b.size ≤ 40 ∧ e = .returned (.agg #[.int .i64 k, .int .i64 d, .int .i64 s, .int .i64 p, .string b]) ∧ Below w.heap.size w w' := by
  obtain ⟨a, n, c, rfl⟩ := hs
  go_enter Try.func9, Try.ntmps9
  go_wp2_with fail
  refine (open_any _ len _ ?_ ⟨_, _, _, rfl⟩).mono ?_
  · rcases h with h | ⟨b, off, cap, hv, hb, hl, hc⟩
    · exact .inl h
    · refine .inr ⟨b, off, cap, hv, by simp; omega, hl, fun i hi => ?_⟩
      obtain ⟨z, hz, he⟩ := hc i hi
      exact ⟨z, hz, (World.cell?_of_block (w := w) (a := ⟨b, off + i, none⟩) (blk_old _ hb)).trans he⟩
  rintro e w1 ⟨rfl, hR1, hb1⟩
  go_wp2_with fail
  have e1 : ∀ o, (w.alloc o).heap.size = w.heap.size + 1 := by intro o; simp
  rw [e1] at hR1
  refine (frame_any _ _ _ hR1).mono ?_
  rintro e w2 ⟨k, d, s, p, b, hb, rfl, hR2, hK2⟩
  have r1 := (hb1.block w.heap.size (by rw [e1]; omega)).trans (blk_new w _)
  have r2 := kblk hK2 r1 (by omega)
  have B1 : Below w.heap.size w w1 := ((Below.refl _ _).alloc (Nat.le_refl _) _).trans (hb1.mono (by rw [e1]; omega))
  have B2 : Below w.heap.size w w2 := B1.trans (hK2.below B1.size (by omega))
  have cr := blk_cell r2
  have fr := blk_free r2
  clear hb1 hK2 hR1 hR2
  go_wp2_with fail
  exact bodyPost_ret (v := .agg #[.int .i64 k, .int .i64 d, .int .i64 s, .int .i64 p, .string b]) (by simp [results, Try.results9, go_sem, cr]) rfl ⟨_, _, _, _, _, hb, rfl, ((((B2.setCell (Nat.le_refl _) _).setCell (Nat.le_refl _) _).setCell (Nat.le_refl _) _).setCell (Nat.le_refl _) _).setCell (Nat.le_refl _) _⟩

theorem drawRead_any (cv : Value) (len : Nat) (w : World) (h : Code w.heap.size cv len w) (hs : ∃ a n c, cv = .slice a n c) :
    Calls Try.prog 16 #[cv] w fun e w' => ∃ t : ByteArray, t.size ≤ 200 ∧ e = .returned (.string t) ∧ Below w.heap.size w w' := by
  obtain ⟨a, n, c, rfl⟩ := hs
  go_enter Try.func16, Try.ntmps16
  go_wp2_with fail
  refine (open_any _ len _ h ⟨_, _, _, rfl⟩).mono ?_
  rintro e w1 ⟨rfl, hR1, hb1⟩
  go_wp2_with fail
  refine (frame_any _ _ _ hR1).mono ?_
  rintro e w2 ⟨k, d, s, p, b, hb, rfl, hR2, hK2⟩
  have B2 : Below w.heap.size w w2 := hb1.trans (hK2.below hb1.size (Nat.le_refl _))
  clear hK2 hb1
  go_wp2_with fail
  refine (sText_or _ _ _ _ _ _ (by unfold maxLen; omega)).mono ?_
  rintro e w3 ⟨rfl, hb3⟩
  have hR3 := hR2.below hb3
  have B3 : Below w.heap.size w w3 := B2.trans (hb3.mono B2.size)
  have ht := textOr_size k d s p b hb
  clear hb3
  generalize textOr k d s p b = T at *
  go_wp2_with fail
  refine (hurt_any _ _ _ _ hR3 ht).mono ?_
  rintro e w4 ⟨t, ht2, rfl, hR4, hK4⟩
  have B4 : Below w.heap.size w w4 := B3.trans (hK4.below B3.size (Nat.le_refl _))
  go_wp2_with fail
  go_ret
  exact ⟨t, ht2, rfl, B4⟩

end Go.Proofs.Ythoeakohjellkaa
