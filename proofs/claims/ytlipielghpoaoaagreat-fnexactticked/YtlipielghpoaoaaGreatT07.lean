import Derived.Test.YtlipielghpoaoaaGreatT06
namespace Go.Proofs.YtlipielghpoaoaaGreat
open Go.RowKit
set_option linter.unusedVariables false
set_option linter.unusedSimpArgs false
set_option maxHeartbeats 3000000 in
theorem sTableOk_any (a : Option Addr) (n cap : Nat) (f : Nat → Ent) (w : World) (hn : n ≤ maxLen) (h : RdEnt w a n f) (ok : Bool) (hok : ok = true ↔ tabOk n f) :
  Calls Tryz.prog 20 #[.slice a n cap] w fun e w' => e = .returned (.bool ok) ∧ Below w.heap.size w w' := by
 have HO : Hid (ok = true ↔ tabOk n f) := hok
 have HR : Hid (RdEnt w a n f) := h
 clear hok h
 have hm : (n : Int) ≤ 9223372036854775807 := by unfold maxLen at hn; omega
 go_enter Tryz.func20, Tryz.ntmps20
 go_wp2_with fail
 go_loopw [3] (fun i wr => ∃ k : Nat, k ≤ n ∧ i = .int .i64 k ∧ entsOk k f ∧ Same w wr) (fun i _ => n - (intOf i).toNat)
 case atStart => exact ⟨0, Nat.zero_le _, rfl, fun i hi => by omega, Same.refl _⟩
 case round =>
  obtain ⟨k, hk, rfl, hall, hS⟩ := hrel
  have HA : Hid (entsOk k f) := hall
  clear hall
  have hB : Below w.heap.size w wr := hS.below _
  by_cases hlt : k < n
  ·
   have hlt' : (k : Int) < n := by omega
   obtain ⟨g, o, rfl, c1, c2, c3⟩ := (HR.out.up hB) k hlt
   have HN : Hid (¬ (entOk (f k) ∧ (0 < k → (f (k - 1)).m < (f k).m)) → ok = false) := fun hh => by
    rw [Bool.eq_false_iff]
    intro e
    exact hh ((HO.out.1 e).2 k hlt)
   generalize hx : f k = x at *
   obtain ⟨m, p, t⟩ := x
   dsimp only at c1 c2 c3
   by_cases hm0 : 1 ≤ m ∧ m ≤ 20
   ·
    have HM : Hid (1 ≤ m ∧ m ≤ 20) := hm0
    have hm : decide (1 ≤ m ∧ m ≤ 20) = true := decide_eq_true hm0
    clear hm0
    by_cases hp0 : 0 ≤ p ∧ p ≤ 3
    ·
     have HP : Hid (0 ≤ p ∧ p ≤ 3) := hp0
     have hp : decide (0 ≤ p ∧ p ≤ 3) = true := decide_eq_true hp0
     clear hp0
     by_cases ht0 : 0 ≤ t ∧ t ≤ 1000000000
     ·
      have HT : Hid (0 ≤ t ∧ t ≤ 1000000000) := ht0
      have ht : decide (0 ≤ t ∧ t ≤ 1000000000) = true := decide_eq_true ht0
      clear ht0
      have HE : Hid (entOk ⟨m, p, t⟩) := ⟨HM.out, HP.out, HT.out⟩
      by_cases h0 : k = 0
      ·
       subst h0
       have HS : Hid (entsOk (0 + 1) f) := HA.out.step (by rw [hx]; exact HE.out) (fun h => by omega)
       simp only [Nat.zero_mul, Nat.add_zero] at c1 c2 c3
       have hlt0 : (0 : Int) < n := by omega
       clear hlt'
       go_wp2_with fail
       refine wp_region_held_drew (S := fun w' => w'.cell? ⟨g, o, none⟩ = some (.int .i64 m) ∧ w'.cell? ⟨g, o + 1, none⟩ = some (.int .i64 p) ∧ w'.cell? ⟨g, o + 2, none⟩ = some (.int .i64 t)) (by kernel_rfl) ⟨c1, c2, c3⟩ (fun hHeld => ?_)
       refine tC 0 10 (v := ?_) ?_ ?_
       rotate_left
       ·
        intro wx hSw
        obtain ⟨hS1, hS2, hS3⟩ := hSw
        go_simp
        try (with_reducible rfl)
       try simp only [Act.put, PZ]
       refine tC 1 11 (v := ?_) ?_ ?_
       rotate_left
       ·
        intro wx hSw
        obtain ⟨hS1, hS2, hS3⟩ := hSw
        go_simp
        try (with_reducible rfl)
       try simp only [Act.put, PZ]
       refine tC 2 12 (v := ?_) ?_ ?_
       rotate_left
       ·
        intro wx hSw
        obtain ⟨hS1, hS2, hS3⟩ := hSw
        go_simp
        try (with_reducible rfl)
       try simp only [Act.put, PZ]
       refine tC 3 13 (v := ?_) ?_ ?_
       rotate_left
       ·
        intro wx hSw
        obtain ⟨hS1, hS2, hS3⟩ := hSw
        go_simp
        try (with_reducible rfl)
       try simp only [Act.put, PZ]
       refine tC 4 14 (v := ?_) ?_ ?_
       rotate_left
       ·
        intro wx hSw
        obtain ⟨hS1, hS2, hS3⟩ := hSw
        go_simp
        try (with_reducible rfl)
       try simp only [Act.put, PZ]
       refine wpAnyH_ready (rs := [5]) (by kernel_rfl) (by simp) ?_
       refine AllReadyH.cons rfl (fun K hK => ?_) AllReadyH.nil
       go_simp
       refine (l1Mac_any _ _).mono ?_
       rintro e w1 ⟨rfl, rfl⟩
       rw [hm]
       go_wp2_with fail
       refine hK.out _ _ ⟨c1, c2, c3⟩ (fun hHeld => ?_)
       clear hK K
       try simp only [Act.put, PZ]
       refine tC 6 16 (v := ?_) ?_ ?_
       rotate_left
       ·
        intro wx hSw
        obtain ⟨hS1, hS2, hS3⟩ := hSw
        go_simp
        try (with_reducible rfl)
       try simp only [Act.put, PZ]
       refine tC 7 17 (v := ?_) ?_ ?_
       rotate_left
       ·
        intro wx hSw
        obtain ⟨hS1, hS2, hS3⟩ := hSw
        go_simp
        try (with_reducible rfl)
       try simp only [Act.put, PZ]
       refine tC 8 18 (v := ?_) ?_ ?_
       rotate_left
       ·
        intro wx hSw
        obtain ⟨hS1, hS2, hS3⟩ := hSw
        go_simp
        try (with_reducible rfl)
       try simp only [Act.put, PZ]
       refine tC 9 19 (v := ?_) ?_ ?_
       rotate_left
       ·
        intro wx hSw
        obtain ⟨hS1, hS2, hS3⟩ := hSw
        go_simp
        try (with_reducible rfl)
       try simp only [Act.put, PZ]
       refine tC 10 20 (v := ?_) ?_ ?_
       rotate_left
       ·
        intro wx hSw
        obtain ⟨hS1, hS2, hS3⟩ := hSw
        go_simp
        try (with_reducible rfl)
       try simp only [Act.put, PZ]
       refine tC 11 21 (v := ?_) ?_ ?_
       rotate_left
       ·
        intro wx hSw
        obtain ⟨hS1, hS2, hS3⟩ := hSw
        go_simp
        try (with_reducible rfl)
       try simp only [Act.put, PZ]
       refine tC 12 22 (v := ?_) ?_ ?_
       rotate_left
       ·
        intro wx hSw
        obtain ⟨hS1, hS2, hS3⟩ := hSw
        go_simp
        try (with_reducible rfl)
       try simp only [Act.put, PZ]
       refine wpAnyH_ready (rs := [13]) (by kernel_rfl) (by simp) ?_
       refine AllReadyH.cons rfl (fun K hK => ?_) AllReadyH.nil
       go_simp
       refine (l1In_any _ _ _ _).mono ?_
       rintro e w1 ⟨rfl, rfl⟩
       rw [hp]
       go_wp2_with fail
       refine hK.out _ _ ⟨c1, c2, c3⟩ (fun hHeld => ?_)
       clear hK K
       try simp only [Act.put, PZ]
       refine tC 14 24 (v := ?_) ?_ ?_
       rotate_left
       ·
        intro wx hSw
        obtain ⟨hS1, hS2, hS3⟩ := hSw
        go_simp
        try (with_reducible rfl)
       try simp only [Act.put, PZ]
       refine tC 15 25 (v := ?_) ?_ ?_
       rotate_left
       ·
        intro wx hSw
        obtain ⟨hS1, hS2, hS3⟩ := hSw
        go_simp
        try (with_reducible rfl)
       try simp only [Act.put, PZ]
       refine tC 16 26 (v := ?_) ?_ ?_
       rotate_left
       ·
        intro wx hSw
        obtain ⟨hS1, hS2, hS3⟩ := hSw
        go_simp
        try (with_reducible rfl)
       try simp only [Act.put, PZ]
       refine tC 17 27 (v := ?_) ?_ ?_
       rotate_left
       ·
        intro wx hSw
        obtain ⟨hS1, hS2, hS3⟩ := hSw
        go_simp
        try (with_reducible rfl)
       try simp only [Act.put, PZ]
       refine tC 18 28 (v := ?_) ?_ ?_
       rotate_left
       ·
        intro wx hSw
        obtain ⟨hS1, hS2, hS3⟩ := hSw
        go_simp
        try (with_reducible rfl)
       try simp only [Act.put, PZ]
       refine tC 19 29 (v := ?_) ?_ ?_
       rotate_left
       ·
        intro wx hSw
        obtain ⟨hS1, hS2, hS3⟩ := hSw
        go_simp
        try (with_reducible rfl)
       try simp only [Act.put, PZ]
       refine tC 20 30 (v := ?_) ?_ ?_
       rotate_left
       ·
        intro wx hSw
        obtain ⟨hS1, hS2, hS3⟩ := hSw
        go_simp
        try (with_reducible rfl)
       try simp only [Act.put, PZ]
       refine tC 21 31 (v := ?_) ?_ ?_
       rotate_left
       ·
        intro wx hSw
        obtain ⟨hS1, hS2, hS3⟩ := hSw
        go_simp
        try (with_reducible rfl)
       try simp only [Act.put, PZ]
       refine wpAnyH_ready (rs := [22]) (by kernel_rfl) (by simp) ?_
       refine AllReadyH.cons rfl (fun K hK => ?_) AllReadyH.nil
       go_simp
       refine (l1In_any _ _ _ _).mono ?_
       rintro e w1 ⟨rfl, rfl⟩
       rw [ht]
       go_wp2_with fail
       refine hK.out _ _ ⟨c1, c2, c3⟩ (fun hHeld => ?_)
       clear hK K
       try simp only [Act.put, PZ]
       refine tC 23 33 (v := ?_) ?_ ?_
       rotate_left
       ·
        intro wx hSw
        obtain ⟨hS1, hS2, hS3⟩ := hSw
        go_simp
        try (with_reducible rfl)
       try simp only [Act.put, PZ]
       refine tC 24 34 (v := ?_) ?_ ?_
       rotate_left
       ·
        intro wx hSw
        obtain ⟨hS1, hS2, hS3⟩ := hSw
        go_simp
        try (with_reducible rfl)
       try simp only [Act.put, PZ]
       refine tC 25 35 (v := ?_) ?_ ?_
       rotate_left
       ·
        intro wx hSw
        obtain ⟨hS1, hS2, hS3⟩ := hSw
        go_simp
        try (with_reducible rfl)
       try simp only [Act.put, PZ]
       refine tC 26 36 (v := ?_) ?_ ?_
       rotate_left
       ·
        intro wx hSw
        obtain ⟨hS1, hS2, hS3⟩ := hSw
        go_simp
        try (with_reducible rfl)
       try simp only [Act.put, PZ]
       refine tC 27 37 (v := ?_) ?_ ?_
       rotate_left
       ·
        intro wx hSw
        obtain ⟨hS1, hS2, hS3⟩ := hSw
        go_simp
        try (with_reducible rfl)
       try simp only [Act.put, PZ]
       refine tC 28 38 (v := ?_) ?_ ?_
       rotate_left
       ·
        intro wx hSw
        obtain ⟨hS1, hS2, hS3⟩ := hSw
        go_simp
        try (with_reducible rfl)
       try simp only [Act.put, PZ]
       refine sA 29 39 ?_
       try simp only [Act.put, PZ]
       refine sA 30 40 ?_
       try simp only [Act.put, PZ]
       refine sA 31 41 ?_
       try simp only [Act.put, PZ]
       refine sA 32 42 ?_
       try simp only [Act.put, PZ]
       refine sA 33 43 ?_
       try simp only [Act.put, PZ]
       refine sA 34 44 ?_
       try simp only [Act.put, PZ]
       refine sA 35 45 ?_
       try simp only [Act.put, PZ]
       refine sA 36 46 ?_
       try simp only [Act.put, PZ]
       refine sA 37 47 ?_
       try simp only [Act.put, PZ]
       refine sA 38 48 ?_
       try simp only [Act.put, PZ]
       refine sA 39 49 ?_
       try simp only [Act.put, PZ]
       refine sA 40 50 ?_
       try simp only [Act.put, PZ]
       refine tC 41 51 (v := ?_) ?_ ?_
       rotate_left
       ·
        intro wx hSw
        obtain ⟨hS1, hS2, hS3⟩ := hSw
        go_simp
        try (with_reducible rfl)
       try simp only [Act.put, PZ]
       refine tC 42 52 (v := ?_) ?_ ?_
       rotate_left
       ·
        intro wx hSw
        obtain ⟨hS1, hS2, hS3⟩ := hSw
        go_simp
        try (with_reducible rfl)
       try simp only [Act.put, PZ]
       refine wpAnyH_done (by kernel_rfl) ?_ _
       go_wp2_with fail
       go_roundw
       case rel => exact ⟨1, by omega, by go_num, HS.out, hS.drewN 1⟩
       case measure => simp [intOf]; omega
      ·
       obtain ⟨j, rfl⟩ : ∃ j, k = j + 1 := ⟨k - 1, by omega⟩
       have hj' : (j : Int) < n := by omega
       have hjj : (0 : Int) < (j : Int) + 1 := by omega
       have hj0 : (0 : Int) ≤ (j : Int) + 1 := by omega
       have hj1 : (j : Int) + 1 < n := by omega
       have hwj : IntKind.i64.wrap (j : Int) = (j : Int) := wrapE _ (by omega) (by omega)
       obtain ⟨g', o', eg, cP, _, _⟩ := (HR.out.up hB) j (by omega)
       cases eg
       by_cases hq : (f j).m < m
       ·
        have HS : Hid (entsOk (j + 1 + 1) f) := HA.out.step (by rw [hx]; exact HE.out) (fun h => by rw [hx]; exact hq)
        generalize (f j).m = q at *
        have hq' : ¬ m ≤ q := by omega
        go_wp2_with fail
        refine wp_region_held_drew (S := fun w' => w'.cell? ⟨g, o + (j + 1) * 3, none⟩ = some (.int .i64 m) ∧ w'.cell? ⟨g, o + (j + 1) * 3 + 1, none⟩ = some (.int .i64 p) ∧ w'.cell? ⟨g, o + (j + 1) * 3 + 2, none⟩ = some (.int .i64 t) ∧ w'.cell? ⟨g, o + j * 3, none⟩ = some (.int .i64 q)) (by kernel_rfl) ⟨c1, c2, c3, cP⟩ (fun hHeld => ?_)
        refine tC 0 10 (v := ?_) ?_ ?_
        rotate_left
        ·
         intro wx hSw
         obtain ⟨hS1, hS2, hS3, hS4⟩ := hSw
         go_simp
         try (with_reducible rfl)
        try simp only [Act.put, PZ]
        refine tC 1 11 (v := ?_) ?_ ?_
        rotate_left
        ·
         intro wx hSw
         obtain ⟨hS1, hS2, hS3, hS4⟩ := hSw
         go_simp
         try (with_reducible rfl)
        try simp only [Act.put, PZ]
        refine tC 2 12 (v := ?_) ?_ ?_
        rotate_left
        ·
         intro wx hSw
         obtain ⟨hS1, hS2, hS3, hS4⟩ := hSw
         go_simp
         try (with_reducible rfl)
        try simp only [Act.put, PZ]
        refine tC 3 13 (v := ?_) ?_ ?_
        rotate_left
        ·
         intro wx hSw
         obtain ⟨hS1, hS2, hS3, hS4⟩ := hSw
         go_simp
         try (with_reducible rfl)
        try simp only [Act.put, PZ]
        refine tC 4 14 (v := ?_) ?_ ?_
        rotate_left
        ·
         intro wx hSw
         obtain ⟨hS1, hS2, hS3, hS4⟩ := hSw
         go_simp
         try (with_reducible rfl)
        try simp only [Act.put, PZ]
        refine wpAnyH_ready (rs := [5]) (by kernel_rfl) (by simp) ?_
        refine AllReadyH.cons rfl (fun K hK => ?_) AllReadyH.nil
        go_simp
        refine (l1Mac_any _ _).mono ?_
        rintro e w1 ⟨rfl, rfl⟩
        rw [hm]
        go_wp2_with fail
        refine hK.out _ _ ⟨c1, c2, c3, cP⟩ (fun hHeld => ?_)
        clear hK K
        try simp only [Act.put, PZ]
        refine tC 6 16 (v := ?_) ?_ ?_
        rotate_left
        ·
         intro wx hSw
         obtain ⟨hS1, hS2, hS3, hS4⟩ := hSw
         go_simp
         try (with_reducible rfl)
        try simp only [Act.put, PZ]
        refine tC 7 17 (v := ?_) ?_ ?_
        rotate_left
        ·
         intro wx hSw
         obtain ⟨hS1, hS2, hS3, hS4⟩ := hSw
         go_simp
         try (with_reducible rfl)
        try simp only [Act.put, PZ]
        refine tC 8 18 (v := ?_) ?_ ?_
        rotate_left
        ·
         intro wx hSw
         obtain ⟨hS1, hS2, hS3, hS4⟩ := hSw
         go_simp
         try (with_reducible rfl)
        try simp only [Act.put, PZ]
        refine tC 9 19 (v := ?_) ?_ ?_
        rotate_left
        ·
         intro wx hSw
         obtain ⟨hS1, hS2, hS3, hS4⟩ := hSw
         go_simp
         try (with_reducible rfl)
        try simp only [Act.put, PZ]
        refine tC 10 20 (v := ?_) ?_ ?_
        rotate_left
        ·
         intro wx hSw
         obtain ⟨hS1, hS2, hS3, hS4⟩ := hSw
         go_simp
         try (with_reducible rfl)
        try simp only [Act.put, PZ]
        refine tC 11 21 (v := ?_) ?_ ?_
        rotate_left
        ·
         intro wx hSw
         obtain ⟨hS1, hS2, hS3, hS4⟩ := hSw
         go_simp
         try (with_reducible rfl)
        try simp only [Act.put, PZ]
        refine tC 12 22 (v := ?_) ?_ ?_
        rotate_left
        ·
         intro wx hSw
         obtain ⟨hS1, hS2, hS3, hS4⟩ := hSw
         go_simp
         try (with_reducible rfl)
        try simp only [Act.put, PZ]
        refine wpAnyH_ready (rs := [13]) (by kernel_rfl) (by simp) ?_
        refine AllReadyH.cons rfl (fun K hK => ?_) AllReadyH.nil
        go_simp
        refine (l1In_any _ _ _ _).mono ?_
        rintro e w1 ⟨rfl, rfl⟩
        rw [hp]
        go_wp2_with fail
        refine hK.out _ _ ⟨c1, c2, c3, cP⟩ (fun hHeld => ?_)
        clear hK K
        try simp only [Act.put, PZ]
        refine tC 14 24 (v := ?_) ?_ ?_
        rotate_left
        ·
         intro wx hSw
         obtain ⟨hS1, hS2, hS3, hS4⟩ := hSw
         go_simp
         try (with_reducible rfl)
        try simp only [Act.put, PZ]
        refine tC 15 25 (v := ?_) ?_ ?_
        rotate_left
        ·
         intro wx hSw
         obtain ⟨hS1, hS2, hS3, hS4⟩ := hSw
         go_simp
         try (with_reducible rfl)
        try simp only [Act.put, PZ]
        refine tC 16 26 (v := ?_) ?_ ?_
        rotate_left
        ·
         intro wx hSw
         obtain ⟨hS1, hS2, hS3, hS4⟩ := hSw
         go_simp
         try (with_reducible rfl)
        try simp only [Act.put, PZ]
        refine tC 17 27 (v := ?_) ?_ ?_
        rotate_left
        ·
         intro wx hSw
         obtain ⟨hS1, hS2, hS3, hS4⟩ := hSw
         go_simp
         try (with_reducible rfl)
        try simp only [Act.put, PZ]
        refine tC 18 28 (v := ?_) ?_ ?_
        rotate_left
        ·
         intro wx hSw
         obtain ⟨hS1, hS2, hS3, hS4⟩ := hSw
         go_simp
         try (with_reducible rfl)
        try simp only [Act.put, PZ]
        refine tC 19 29 (v := ?_) ?_ ?_
        rotate_left
        ·
         intro wx hSw
         obtain ⟨hS1, hS2, hS3, hS4⟩ := hSw
         go_simp
         try (with_reducible rfl)
        try simp only [Act.put, PZ]
        refine tC 20 30 (v := ?_) ?_ ?_
        rotate_left
        ·
         intro wx hSw
         obtain ⟨hS1, hS2, hS3, hS4⟩ := hSw
         go_simp
         try (with_reducible rfl)
        try simp only [Act.put, PZ]
        refine tC 21 31 (v := ?_) ?_ ?_
        rotate_left
        ·
         intro wx hSw
         obtain ⟨hS1, hS2, hS3, hS4⟩ := hSw
         go_simp
         try (with_reducible rfl)
        try simp only [Act.put, PZ]
        refine wpAnyH_ready (rs := [22]) (by kernel_rfl) (by simp) ?_
        refine AllReadyH.cons rfl (fun K hK => ?_) AllReadyH.nil
        go_simp
        refine (l1In_any _ _ _ _).mono ?_
        rintro e w1 ⟨rfl, rfl⟩
        rw [ht]
        go_wp2_with fail
        refine hK.out _ _ ⟨c1, c2, c3, cP⟩ (fun hHeld => ?_)
        clear hK K
        try simp only [Act.put, PZ]
        refine tC 23 33 (v := ?_) ?_ ?_
        rotate_left
        ·
         intro wx hSw
         obtain ⟨hS1, hS2, hS3, hS4⟩ := hSw
         go_simp
         try (with_reducible rfl)
        try simp only [Act.put, PZ]
        refine tC 24 34 (v := ?_) ?_ ?_
        rotate_left
        ·
         intro wx hSw
         obtain ⟨hS1, hS2, hS3, hS4⟩ := hSw
         go_simp
         try (with_reducible rfl)
        try simp only [Act.put, PZ]
        refine tC 25 35 (v := ?_) ?_ ?_
        rotate_left
        ·
         intro wx hSw
         obtain ⟨hS1, hS2, hS3, hS4⟩ := hSw
         go_simp
         try (with_reducible rfl)
        try simp only [Act.put, PZ]
        refine tC 26 36 (v := ?_) ?_ ?_
        rotate_left
        ·
         intro wx hSw
         obtain ⟨hS1, hS2, hS3, hS4⟩ := hSw
         go_simp
         try (with_reducible rfl)
        try simp only [Act.put, PZ]
        refine tC 27 37 (v := ?_) ?_ ?_
        rotate_left
        ·
         intro wx hSw
         obtain ⟨hS1, hS2, hS3, hS4⟩ := hSw
         go_simp
         try (with_reducible rfl)
        try simp only [Act.put, PZ]
        refine tC 28 38 (v := ?_) ?_ ?_
        rotate_left
        ·
         intro wx hSw
         obtain ⟨hS1, hS2, hS3, hS4⟩ := hSw
         go_simp
         try (with_reducible rfl)
        try simp only [Act.put, PZ]
        refine tC 29 39 (v := ?_) ?_ ?_
        rotate_left
        ·
         intro wx hSw
         obtain ⟨hS1, hS2, hS3, hS4⟩ := hSw
         go_simp
         try (with_reducible rfl)
        try simp only [Act.put, PZ]
        refine tC 30 40 (v := ?_) ?_ ?_
        rotate_left
        ·
         intro wx hSw
         obtain ⟨hS1, hS2, hS3, hS4⟩ := hSw
         go_simp
         try (with_reducible rfl)
        try simp only [Act.put, PZ]
        refine tC 31 41 (v := ?_) ?_ ?_
        rotate_left
        ·
         intro wx hSw
         obtain ⟨hS1, hS2, hS3, hS4⟩ := hSw
         go_simp
         try (with_reducible rfl)
        try simp only [Act.put, PZ]
        refine tC 32 42 (v := ?_) ?_ ?_
        rotate_left
        ·
         intro wx hSw
         obtain ⟨hS1, hS2, hS3, hS4⟩ := hSw
         go_simp
         try (with_reducible rfl)
        try simp only [Act.put, PZ]
        refine tC 33 43 (v := ?_) ?_ ?_
        rotate_left
        ·
         intro wx hSw
         obtain ⟨hS1, hS2, hS3, hS4⟩ := hSw
         go_simp
         try (with_reducible rfl)
        try simp only [Act.put, PZ]
        refine tC 34 44 (v := ?_) ?_ ?_
        rotate_left
        ·
         intro wx hSw
         obtain ⟨hS1, hS2, hS3, hS4⟩ := hSw
         go_simp
         try (with_reducible rfl)
        try simp only [Act.put, PZ]
        refine tC 35 45 (v := ?_) ?_ ?_
        rotate_left
        ·
         intro wx hSw
         obtain ⟨hS1, hS2, hS3, hS4⟩ := hSw
         go_simp
         try (with_reducible rfl)
        try simp only [Act.put, PZ]
        refine tC 36 46 (v := ?_) ?_ ?_
        rotate_left
        ·
         intro wx hSw
         obtain ⟨hS1, hS2, hS3, hS4⟩ := hSw
         go_simp
         try (with_reducible rfl)
        try simp only [Act.put, PZ]
        refine tC 37 47 (v := ?_) ?_ ?_
        rotate_left
        ·
         intro wx hSw
         obtain ⟨hS1, hS2, hS3, hS4⟩ := hSw
         go_simp
         try (with_reducible rfl)
        try simp only [Act.put, PZ]
        refine tC 38 48 (v := ?_) ?_ ?_
        rotate_left
        ·
         intro wx hSw
         obtain ⟨hS1, hS2, hS3, hS4⟩ := hSw
         go_simp
         try (with_reducible rfl)
        try simp only [Act.put, PZ]
        refine tC 39 49 (v := ?_) ?_ ?_
        rotate_left
        ·
         intro wx hSw
         obtain ⟨hS1, hS2, hS3, hS4⟩ := hSw
         go_simp
         try (with_reducible rfl)
        try simp only [Act.put, PZ]
        refine tC 40 50 (v := ?_) ?_ ?_
        rotate_left
        ·
         intro wx hSw
         obtain ⟨hS1, hS2, hS3, hS4⟩ := hSw
         go_simp
         try (with_reducible rfl)
        try simp only [Act.put, PZ]
        refine tC 41 51 (v := ?_) ?_ ?_
        rotate_left
        ·
         intro wx hSw
         obtain ⟨hS1, hS2, hS3, hS4⟩ := hSw
         go_simp
         try (with_reducible rfl)
        try simp only [Act.put, PZ]
        refine tC 42 52 (v := ?_) ?_ ?_
        rotate_left
        ·
         intro wx hSw
         obtain ⟨hS1, hS2, hS3, hS4⟩ := hSw
         go_simp
         try (with_reducible rfl)
        try simp only [Act.put, PZ]
        refine wpAnyH_done (by kernel_rfl) ?_ _
        go_wp2_with fail
        go_roundw
        case rel => exact ⟨j + 1 + 1, by omega, by go_num, HS.out, hS.drewN 1⟩
        case measure => simp [intOf]; omega
       ·
        have HF : Hid (ok = false) := HN.out (fun h => hq (h.2 (by omega)))
        generalize (f j).m = q at *
        have hq' : m ≤ q := by omega
        go_wp2_with fail
        refine wp_region_held_drew (S := fun w' => w'.cell? ⟨g, o + (j + 1) * 3, none⟩ = some (.int .i64 m) ∧ w'.cell? ⟨g, o + (j + 1) * 3 + 1, none⟩ = some (.int .i64 p) ∧ w'.cell? ⟨g, o + (j + 1) * 3 + 2, none⟩ = some (.int .i64 t) ∧ w'.cell? ⟨g, o + j * 3, none⟩ = some (.int .i64 q)) (by kernel_rfl) ⟨c1, c2, c3, cP⟩ (fun hHeld => ?_)
        refine tC 0 10 (v := ?_) ?_ ?_
        rotate_left
        ·
         intro wx hSw
         obtain ⟨hS1, hS2, hS3, hS4⟩ := hSw
         go_simp
         try (with_reducible rfl)
        try simp only [Act.put, PZ]
        refine tC 1 11 (v := ?_) ?_ ?_
        rotate_left
        ·
         intro wx hSw
         obtain ⟨hS1, hS2, hS3, hS4⟩ := hSw
         go_simp
         try (with_reducible rfl)
        try simp only [Act.put, PZ]
        refine tC 2 12 (v := ?_) ?_ ?_
        rotate_left
        ·
         intro wx hSw
         obtain ⟨hS1, hS2, hS3, hS4⟩ := hSw
         go_simp
         try (with_reducible rfl)
        try simp only [Act.put, PZ]
        refine tC 3 13 (v := ?_) ?_ ?_
        rotate_left
        ·
         intro wx hSw
         obtain ⟨hS1, hS2, hS3, hS4⟩ := hSw
         go_simp
         try (with_reducible rfl)
        try simp only [Act.put, PZ]
        refine tC 4 14 (v := ?_) ?_ ?_
        rotate_left
        ·
         intro wx hSw
         obtain ⟨hS1, hS2, hS3, hS4⟩ := hSw
         go_simp
         try (with_reducible rfl)
        try simp only [Act.put, PZ]
        refine wpAnyH_ready (rs := [5]) (by kernel_rfl) (by simp) ?_
        refine AllReadyH.cons rfl (fun K hK => ?_) AllReadyH.nil
        go_simp
        refine (l1Mac_any _ _).mono ?_
        rintro e w1 ⟨rfl, rfl⟩
        rw [hm]
        go_wp2_with fail
        refine hK.out _ _ ⟨c1, c2, c3, cP⟩ (fun hHeld => ?_)
        clear hK K
        try simp only [Act.put, PZ]
        refine tC 6 16 (v := ?_) ?_ ?_
        rotate_left
        ·
         intro wx hSw
         obtain ⟨hS1, hS2, hS3, hS4⟩ := hSw
         go_simp
         try (with_reducible rfl)
        try simp only [Act.put, PZ]
        refine tC 7 17 (v := ?_) ?_ ?_
        rotate_left
        ·
         intro wx hSw
         obtain ⟨hS1, hS2, hS3, hS4⟩ := hSw
         go_simp
         try (with_reducible rfl)
        try simp only [Act.put, PZ]
        refine tC 8 18 (v := ?_) ?_ ?_
        rotate_left
        ·
         intro wx hSw
         obtain ⟨hS1, hS2, hS3, hS4⟩ := hSw
         go_simp
         try (with_reducible rfl)
        try simp only [Act.put, PZ]
        refine tC 9 19 (v := ?_) ?_ ?_
        rotate_left
        ·
         intro wx hSw
         obtain ⟨hS1, hS2, hS3, hS4⟩ := hSw
         go_simp
         try (with_reducible rfl)
        try simp only [Act.put, PZ]
        refine tC 10 20 (v := ?_) ?_ ?_
        rotate_left
        ·
         intro wx hSw
         obtain ⟨hS1, hS2, hS3, hS4⟩ := hSw
         go_simp
         try (with_reducible rfl)
        try simp only [Act.put, PZ]
        refine tC 11 21 (v := ?_) ?_ ?_
        rotate_left
        ·
         intro wx hSw
         obtain ⟨hS1, hS2, hS3, hS4⟩ := hSw
         go_simp
         try (with_reducible rfl)
        try simp only [Act.put, PZ]
        refine tC 12 22 (v := ?_) ?_ ?_
        rotate_left
        ·
         intro wx hSw
         obtain ⟨hS1, hS2, hS3, hS4⟩ := hSw
         go_simp
         try (with_reducible rfl)
        try simp only [Act.put, PZ]
        refine wpAnyH_ready (rs := [13]) (by kernel_rfl) (by simp) ?_
        refine AllReadyH.cons rfl (fun K hK => ?_) AllReadyH.nil
        go_simp
        refine (l1In_any _ _ _ _).mono ?_
        rintro e w1 ⟨rfl, rfl⟩
        rw [hp]
        go_wp2_with fail
        refine hK.out _ _ ⟨c1, c2, c3, cP⟩ (fun hHeld => ?_)
        clear hK K
        try simp only [Act.put, PZ]
        refine tC 14 24 (v := ?_) ?_ ?_
        rotate_left
        ·
         intro wx hSw
         obtain ⟨hS1, hS2, hS3, hS4⟩ := hSw
         go_simp
         try (with_reducible rfl)
        try simp only [Act.put, PZ]
        refine tC 15 25 (v := ?_) ?_ ?_
        rotate_left
        ·
         intro wx hSw
         obtain ⟨hS1, hS2, hS3, hS4⟩ := hSw
         go_simp
         try (with_reducible rfl)
        try simp only [Act.put, PZ]
        refine tC 16 26 (v := ?_) ?_ ?_
        rotate_left
        ·
         intro wx hSw
         obtain ⟨hS1, hS2, hS3, hS4⟩ := hSw
         go_simp
         try (with_reducible rfl)
        try simp only [Act.put, PZ]
        refine tC 17 27 (v := ?_) ?_ ?_
        rotate_left
        ·
         intro wx hSw
         obtain ⟨hS1, hS2, hS3, hS4⟩ := hSw
         go_simp
         try (with_reducible rfl)
        try simp only [Act.put, PZ]
        refine tC 18 28 (v := ?_) ?_ ?_
        rotate_left
        ·
         intro wx hSw
         obtain ⟨hS1, hS2, hS3, hS4⟩ := hSw
         go_simp
         try (with_reducible rfl)
        try simp only [Act.put, PZ]
        refine tC 19 29 (v := ?_) ?_ ?_
        rotate_left
        ·
         intro wx hSw
         obtain ⟨hS1, hS2, hS3, hS4⟩ := hSw
         go_simp
         try (with_reducible rfl)
        try simp only [Act.put, PZ]
        refine tC 20 30 (v := ?_) ?_ ?_
        rotate_left
        ·
         intro wx hSw
         obtain ⟨hS1, hS2, hS3, hS4⟩ := hSw
         go_simp
         try (with_reducible rfl)
        try simp only [Act.put, PZ]
        refine tC 21 31 (v := ?_) ?_ ?_
        rotate_left
        ·
         intro wx hSw
         obtain ⟨hS1, hS2, hS3, hS4⟩ := hSw
         go_simp
         try (with_reducible rfl)
        try simp only [Act.put, PZ]
        refine wpAnyH_ready (rs := [22]) (by kernel_rfl) (by simp) ?_
        refine AllReadyH.cons rfl (fun K hK => ?_) AllReadyH.nil
        go_simp
        refine (l1In_any _ _ _ _).mono ?_
        rintro e w1 ⟨rfl, rfl⟩
        rw [ht]
        go_wp2_with fail
        refine hK.out _ _ ⟨c1, c2, c3, cP⟩ (fun hHeld => ?_)
        clear hK K
        try simp only [Act.put, PZ]
        refine tC 23 33 (v := ?_) ?_ ?_
        rotate_left
        ·
         intro wx hSw
         obtain ⟨hS1, hS2, hS3, hS4⟩ := hSw
         go_simp
         try (with_reducible rfl)
        try simp only [Act.put, PZ]
        refine tC 24 34 (v := ?_) ?_ ?_
        rotate_left
        ·
         intro wx hSw
         obtain ⟨hS1, hS2, hS3, hS4⟩ := hSw
         go_simp
         try (with_reducible rfl)
        try simp only [Act.put, PZ]
        refine tC 25 35 (v := ?_) ?_ ?_
        rotate_left
        ·
         intro wx hSw
         obtain ⟨hS1, hS2, hS3, hS4⟩ := hSw
         go_simp
         try (with_reducible rfl)
        try simp only [Act.put, PZ]
        refine tC 26 36 (v := ?_) ?_ ?_
        rotate_left
        ·
         intro wx hSw
         obtain ⟨hS1, hS2, hS3, hS4⟩ := hSw
         go_simp
         try (with_reducible rfl)
        try simp only [Act.put, PZ]
        refine tC 27 37 (v := ?_) ?_ ?_
        rotate_left
        ·
         intro wx hSw
         obtain ⟨hS1, hS2, hS3, hS4⟩ := hSw
         go_simp
         try (with_reducible rfl)
        try simp only [Act.put, PZ]
        refine tC 28 38 (v := ?_) ?_ ?_
        rotate_left
        ·
         intro wx hSw
         obtain ⟨hS1, hS2, hS3, hS4⟩ := hSw
         go_simp
         try (with_reducible rfl)
        try simp only [Act.put, PZ]
        refine tC 29 39 (v := ?_) ?_ ?_
        rotate_left
        ·
         intro wx hSw
         obtain ⟨hS1, hS2, hS3, hS4⟩ := hSw
         go_simp
         try (with_reducible rfl)
        try simp only [Act.put, PZ]
        refine tC 30 40 (v := ?_) ?_ ?_
        rotate_left
        ·
         intro wx hSw
         obtain ⟨hS1, hS2, hS3, hS4⟩ := hSw
         go_simp
         try (with_reducible rfl)
        try simp only [Act.put, PZ]
        refine tC 31 41 (v := ?_) ?_ ?_
        rotate_left
        ·
         intro wx hSw
         obtain ⟨hS1, hS2, hS3, hS4⟩ := hSw
         go_simp
         try (with_reducible rfl)
        try simp only [Act.put, PZ]
        refine tC 32 42 (v := ?_) ?_ ?_
        rotate_left
        ·
         intro wx hSw
         obtain ⟨hS1, hS2, hS3, hS4⟩ := hSw
         go_simp
         try (with_reducible rfl)
        try simp only [Act.put, PZ]
        refine tC 33 43 (v := ?_) ?_ ?_
        rotate_left
        ·
         intro wx hSw
         obtain ⟨hS1, hS2, hS3, hS4⟩ := hSw
         go_simp
         try (with_reducible rfl)
        try simp only [Act.put, PZ]
        refine tC 34 44 (v := ?_) ?_ ?_
        rotate_left
        ·
         intro wx hSw
         obtain ⟨hS1, hS2, hS3, hS4⟩ := hSw
         go_simp
         try (with_reducible rfl)
        try simp only [Act.put, PZ]
        refine tC 35 45 (v := ?_) ?_ ?_
        rotate_left
        ·
         intro wx hSw
         obtain ⟨hS1, hS2, hS3, hS4⟩ := hSw
         go_simp
         try (with_reducible rfl)
        try simp only [Act.put, PZ]
        refine tC 36 46 (v := ?_) ?_ ?_
        rotate_left
        ·
         intro wx hSw
         obtain ⟨hS1, hS2, hS3, hS4⟩ := hSw
         go_simp
         try (with_reducible rfl)
        try simp only [Act.put, PZ]
        refine tC 37 47 (v := ?_) ?_ ?_
        rotate_left
        ·
         intro wx hSw
         obtain ⟨hS1, hS2, hS3, hS4⟩ := hSw
         go_simp
         try (with_reducible rfl)
        try simp only [Act.put, PZ]
        refine tC 38 48 (v := ?_) ?_ ?_
        rotate_left
        ·
         intro wx hSw
         obtain ⟨hS1, hS2, hS3, hS4⟩ := hSw
         go_simp
         try (with_reducible rfl)
        try simp only [Act.put, PZ]
        refine tC 39 49 (v := ?_) ?_ ?_
        rotate_left
        ·
         intro wx hSw
         obtain ⟨hS1, hS2, hS3, hS4⟩ := hSw
         go_simp
         try (with_reducible rfl)
        try simp only [Act.put, PZ]
        refine tC 40 50 (v := ?_) ?_ ?_
        rotate_left
        ·
         intro wx hSw
         obtain ⟨hS1, hS2, hS3, hS4⟩ := hSw
         go_simp
         try (with_reducible rfl)
        try simp only [Act.put, PZ]
        refine tC 41 51 (v := ?_) ?_ ?_
        rotate_left
        ·
         intro wx hSw
         obtain ⟨hS1, hS2, hS3, hS4⟩ := hSw
         go_simp
         try (with_reducible rfl)
        try simp only [Act.put, PZ]
        refine tC 42 52 (v := ?_) ?_ ?_
        rotate_left
        ·
         intro wx hSw
         obtain ⟨hS1, hS2, hS3, hS4⟩ := hSw
         go_simp
         try (with_reducible rfl)
        try simp only [Act.put, PZ]
        refine wpAnyH_done (by kernel_rfl) ?_ _
        go_wp2_with fail
        go_ret
        exact ⟨ret_bool HF.out.symm, hB.drew⟩
     ·
      have HF : Hid (ok = false) := HN.out (fun h => ht0 h.1.2.2)
      have ht : decide (0 ≤ t ∧ t ≤ 1000000000) = false := decide_eq_false ht0
      clear ht0
      go_wp2_with fail
      refine wp_region_held_drew (S := fun w' => w'.cell? ⟨g, o + k * 3, none⟩ = some (.int .i64 m) ∧ w'.cell? ⟨g, o + k * 3 + 1, none⟩ = some (.int .i64 p) ∧ w'.cell? ⟨g, o + k * 3 + 2, none⟩ = some (.int .i64 t)) (by kernel_rfl) ⟨c1, c2, c3⟩ (fun hHeld => ?_)
      refine tC 0 10 (v := ?_) ?_ ?_
      rotate_left
      ·
       intro wx hSw
       obtain ⟨hS1, hS2, hS3⟩ := hSw
       go_simp
       try (with_reducible rfl)
      try simp only [Act.put, PZ]
      refine tC 1 11 (v := ?_) ?_ ?_
      rotate_left
      ·
       intro wx hSw
       obtain ⟨hS1, hS2, hS3⟩ := hSw
       go_simp
       try (with_reducible rfl)
      try simp only [Act.put, PZ]
      refine tC 2 12 (v := ?_) ?_ ?_
      rotate_left
      ·
       intro wx hSw
       obtain ⟨hS1, hS2, hS3⟩ := hSw
       go_simp
       try (with_reducible rfl)
      try simp only [Act.put, PZ]
      refine tC 3 13 (v := ?_) ?_ ?_
      rotate_left
      ·
       intro wx hSw
       obtain ⟨hS1, hS2, hS3⟩ := hSw
       go_simp
       try (with_reducible rfl)
      try simp only [Act.put, PZ]
      refine tC 4 14 (v := ?_) ?_ ?_
      rotate_left
      ·
       intro wx hSw
       obtain ⟨hS1, hS2, hS3⟩ := hSw
       go_simp
       try (with_reducible rfl)
      try simp only [Act.put, PZ]
      refine wpAnyH_ready (rs := [5]) (by kernel_rfl) (by simp) ?_
      refine AllReadyH.cons rfl (fun K hK => ?_) AllReadyH.nil
      go_simp
      refine (l1Mac_any _ _).mono ?_
      rintro e w1 ⟨rfl, rfl⟩
      rw [hm]
      go_wp2_with fail
      refine hK.out _ _ ⟨c1, c2, c3⟩ (fun hHeld => ?_)
      clear hK K
      try simp only [Act.put, PZ]
      refine tC 6 16 (v := ?_) ?_ ?_
      rotate_left
      ·
       intro wx hSw
       obtain ⟨hS1, hS2, hS3⟩ := hSw
       go_simp
       try (with_reducible rfl)
      try simp only [Act.put, PZ]
      refine tC 7 17 (v := ?_) ?_ ?_
      rotate_left
      ·
       intro wx hSw
       obtain ⟨hS1, hS2, hS3⟩ := hSw
       go_simp
       try (with_reducible rfl)
      try simp only [Act.put, PZ]
      refine tC 8 18 (v := ?_) ?_ ?_
      rotate_left
      ·
       intro wx hSw
       obtain ⟨hS1, hS2, hS3⟩ := hSw
       go_simp
       try (with_reducible rfl)
      try simp only [Act.put, PZ]
      refine tC 9 19 (v := ?_) ?_ ?_
      rotate_left
      ·
       intro wx hSw
       obtain ⟨hS1, hS2, hS3⟩ := hSw
       go_simp
       try (with_reducible rfl)
      try simp only [Act.put, PZ]
      refine tC 10 20 (v := ?_) ?_ ?_
      rotate_left
      ·
       intro wx hSw
       obtain ⟨hS1, hS2, hS3⟩ := hSw
       go_simp
       try (with_reducible rfl)
      try simp only [Act.put, PZ]
      refine tC 11 21 (v := ?_) ?_ ?_
      rotate_left
      ·
       intro wx hSw
       obtain ⟨hS1, hS2, hS3⟩ := hSw
       go_simp
       try (with_reducible rfl)
      try simp only [Act.put, PZ]
      refine tC 12 22 (v := ?_) ?_ ?_
      rotate_left
      ·
       intro wx hSw
       obtain ⟨hS1, hS2, hS3⟩ := hSw
       go_simp
       try (with_reducible rfl)
      try simp only [Act.put, PZ]
      refine wpAnyH_ready (rs := [13]) (by kernel_rfl) (by simp) ?_
      refine AllReadyH.cons rfl (fun K hK => ?_) AllReadyH.nil
      go_simp
      refine (l1In_any _ _ _ _).mono ?_
      rintro e w1 ⟨rfl, rfl⟩
      rw [hp]
      go_wp2_with fail
      refine hK.out _ _ ⟨c1, c2, c3⟩ (fun hHeld => ?_)
      clear hK K
      try simp only [Act.put, PZ]
      refine tC 14 24 (v := ?_) ?_ ?_
      rotate_left
      ·
       intro wx hSw
       obtain ⟨hS1, hS2, hS3⟩ := hSw
       go_simp
       try (with_reducible rfl)
      try simp only [Act.put, PZ]
      refine tC 15 25 (v := ?_) ?_ ?_
      rotate_left
      ·
       intro wx hSw
       obtain ⟨hS1, hS2, hS3⟩ := hSw
       go_simp
       try (with_reducible rfl)
      try simp only [Act.put, PZ]
      refine tC 16 26 (v := ?_) ?_ ?_
      rotate_left
      ·
       intro wx hSw
       obtain ⟨hS1, hS2, hS3⟩ := hSw
       go_simp
       try (with_reducible rfl)
      try simp only [Act.put, PZ]
      refine tC 17 27 (v := ?_) ?_ ?_
      rotate_left
      ·
       intro wx hSw
       obtain ⟨hS1, hS2, hS3⟩ := hSw
       go_simp
       try (with_reducible rfl)
      try simp only [Act.put, PZ]
      refine tC 18 28 (v := ?_) ?_ ?_
      rotate_left
      ·
       intro wx hSw
       obtain ⟨hS1, hS2, hS3⟩ := hSw
       go_simp
       try (with_reducible rfl)
      try simp only [Act.put, PZ]
      refine tC 19 29 (v := ?_) ?_ ?_
      rotate_left
      ·
       intro wx hSw
       obtain ⟨hS1, hS2, hS3⟩ := hSw
       go_simp
       try (with_reducible rfl)
      try simp only [Act.put, PZ]
      refine tC 20 30 (v := ?_) ?_ ?_
      rotate_left
      ·
       intro wx hSw
       obtain ⟨hS1, hS2, hS3⟩ := hSw
       go_simp
       try (with_reducible rfl)
      try simp only [Act.put, PZ]
      refine tC 21 31 (v := ?_) ?_ ?_
      rotate_left
      ·
       intro wx hSw
       obtain ⟨hS1, hS2, hS3⟩ := hSw
       go_simp
       try (with_reducible rfl)
      try simp only [Act.put, PZ]
      refine wpAnyH_ready (rs := [22]) (by kernel_rfl) (by simp) ?_
      refine AllReadyH.cons rfl (fun K hK => ?_) AllReadyH.nil
      go_simp
      refine (l1In_any _ _ _ _).mono ?_
      rintro e w1 ⟨rfl, rfl⟩
      rw [ht]
      go_wp2_with fail
      refine hK.out _ _ ⟨c1, c2, c3⟩ (fun hHeld => ?_)
      clear hK K
      try simp only [Act.put, PZ]
      refine tC 23 33 (v := ?_) ?_ ?_
      rotate_left
      ·
       intro wx hSw
       obtain ⟨hS1, hS2, hS3⟩ := hSw
       go_simp
       try (with_reducible rfl)
      try simp only [Act.put, PZ]
      refine tC 24 34 (v := ?_) ?_ ?_
      rotate_left
      ·
       intro wx hSw
       obtain ⟨hS1, hS2, hS3⟩ := hSw
       go_simp
       try (with_reducible rfl)
      try simp only [Act.put, PZ]
      refine tC 25 35 (v := ?_) ?_ ?_
      rotate_left
      ·
       intro wx hSw
       obtain ⟨hS1, hS2, hS3⟩ := hSw
       go_simp
       try (with_reducible rfl)
      try simp only [Act.put, PZ]
      refine sA 26 36 ?_
      try simp only [Act.put, PZ]
      refine sA 27 37 ?_
      try simp only [Act.put, PZ]
      refine sA 28 38 ?_
      try simp only [Act.put, PZ]
      refine sA 29 39 ?_
      try simp only [Act.put, PZ]
      refine sA 30 40 ?_
      try simp only [Act.put, PZ]
      refine sA 31 41 ?_
      try simp only [Act.put, PZ]
      refine sA 32 42 ?_
      try simp only [Act.put, PZ]
      refine sA 33 43 ?_
      try simp only [Act.put, PZ]
      refine sA 34 44 ?_
      try simp only [Act.put, PZ]
      refine sA 35 45 ?_
      try simp only [Act.put, PZ]
      refine sA 36 46 ?_
      try simp only [Act.put, PZ]
      refine sA 37 47 ?_
      try simp only [Act.put, PZ]
      refine sA 38 48 ?_
      try simp only [Act.put, PZ]
      refine sA 39 49 ?_
      try simp only [Act.put, PZ]
      refine sA 40 50 ?_
      try simp only [Act.put, PZ]
      refine sA 41 51 ?_
      try simp only [Act.put, PZ]
      refine tC 42 52 (v := ?_) ?_ ?_
      rotate_left
      ·
       intro wx hSw
       obtain ⟨hS1, hS2, hS3⟩ := hSw
       go_simp
       try (with_reducible rfl)
      try simp only [Act.put, PZ]
      refine wpAnyH_done (by kernel_rfl) ?_ _
      go_wp2_with fail
      go_ret
      exact ⟨ret_bool HF.out.symm, hB.drew⟩
    ·
     have HF : Hid (ok = false) := HN.out (fun h => hp0 h.1.2.1)
     have hp : decide (0 ≤ p ∧ p ≤ 3) = false := decide_eq_false hp0
     clear hp0
     go_wp2_with fail
     refine wp_region_held_drew (S := fun w' => w'.cell? ⟨g, o + k * 3, none⟩ = some (.int .i64 m) ∧ w'.cell? ⟨g, o + k * 3 + 1, none⟩ = some (.int .i64 p) ∧ w'.cell? ⟨g, o + k * 3 + 2, none⟩ = some (.int .i64 t)) (by kernel_rfl) ⟨c1, c2, c3⟩ (fun hHeld => ?_)
     refine tC 0 10 (v := ?_) ?_ ?_
     rotate_left
     ·
      intro wx hSw
      obtain ⟨hS1, hS2, hS3⟩ := hSw
      go_simp
      try (with_reducible rfl)
     try simp only [Act.put, PZ]
     refine tC 1 11 (v := ?_) ?_ ?_
     rotate_left
     ·
      intro wx hSw
      obtain ⟨hS1, hS2, hS3⟩ := hSw
      go_simp
      try (with_reducible rfl)
     try simp only [Act.put, PZ]
     refine tC 2 12 (v := ?_) ?_ ?_
     rotate_left
     ·
      intro wx hSw
      obtain ⟨hS1, hS2, hS3⟩ := hSw
      go_simp
      try (with_reducible rfl)
     try simp only [Act.put, PZ]
     refine tC 3 13 (v := ?_) ?_ ?_
     rotate_left
     ·
      intro wx hSw
      obtain ⟨hS1, hS2, hS3⟩ := hSw
      go_simp
      try (with_reducible rfl)
     try simp only [Act.put, PZ]
     refine tC 4 14 (v := ?_) ?_ ?_
     rotate_left
     ·
      intro wx hSw
      obtain ⟨hS1, hS2, hS3⟩ := hSw
      go_simp
      try (with_reducible rfl)
     try simp only [Act.put, PZ]
     refine wpAnyH_ready (rs := [5]) (by kernel_rfl) (by simp) ?_
     refine AllReadyH.cons rfl (fun K hK => ?_) AllReadyH.nil
     go_simp
     refine (l1Mac_any _ _).mono ?_
     rintro e w1 ⟨rfl, rfl⟩
     rw [hm]
     go_wp2_with fail
     refine hK.out _ _ ⟨c1, c2, c3⟩ (fun hHeld => ?_)
     clear hK K
     try simp only [Act.put, PZ]
     refine tC 6 16 (v := ?_) ?_ ?_
     rotate_left
     ·
      intro wx hSw
      obtain ⟨hS1, hS2, hS3⟩ := hSw
      go_simp
      try (with_reducible rfl)
     try simp only [Act.put, PZ]
     refine tC 7 17 (v := ?_) ?_ ?_
     rotate_left
     ·
      intro wx hSw
      obtain ⟨hS1, hS2, hS3⟩ := hSw
      go_simp
      try (with_reducible rfl)
     try simp only [Act.put, PZ]
     refine tC 8 18 (v := ?_) ?_ ?_
     rotate_left
     ·
      intro wx hSw
      obtain ⟨hS1, hS2, hS3⟩ := hSw
      go_simp
      try (with_reducible rfl)
     try simp only [Act.put, PZ]
     refine tC 9 19 (v := ?_) ?_ ?_
     rotate_left
     ·
      intro wx hSw
      obtain ⟨hS1, hS2, hS3⟩ := hSw
      go_simp
      try (with_reducible rfl)
     try simp only [Act.put, PZ]
     refine tC 10 20 (v := ?_) ?_ ?_
     rotate_left
     ·
      intro wx hSw
      obtain ⟨hS1, hS2, hS3⟩ := hSw
      go_simp
      try (with_reducible rfl)
     try simp only [Act.put, PZ]
     refine tC 11 21 (v := ?_) ?_ ?_
     rotate_left
     ·
      intro wx hSw
      obtain ⟨hS1, hS2, hS3⟩ := hSw
      go_simp
      try (with_reducible rfl)
     try simp only [Act.put, PZ]
     refine tC 12 22 (v := ?_) ?_ ?_
     rotate_left
     ·
      intro wx hSw
      obtain ⟨hS1, hS2, hS3⟩ := hSw
      go_simp
      try (with_reducible rfl)
     try simp only [Act.put, PZ]
     refine wpAnyH_ready (rs := [13]) (by kernel_rfl) (by simp) ?_
     refine AllReadyH.cons rfl (fun K hK => ?_) AllReadyH.nil
     go_simp
     refine (l1In_any _ _ _ _).mono ?_
     rintro e w1 ⟨rfl, rfl⟩
     rw [hp]
     go_wp2_with fail
     refine hK.out _ _ ⟨c1, c2, c3⟩ (fun hHeld => ?_)
     clear hK K
     try simp only [Act.put, PZ]
     refine tC 14 24 (v := ?_) ?_ ?_
     rotate_left
     ·
      intro wx hSw
      obtain ⟨hS1, hS2, hS3⟩ := hSw
      go_simp
      try (with_reducible rfl)
     try simp only [Act.put, PZ]
     refine tC 15 25 (v := ?_) ?_ ?_
     rotate_left
     ·
      intro wx hSw
      obtain ⟨hS1, hS2, hS3⟩ := hSw
      go_simp
      try (with_reducible rfl)
     try simp only [Act.put, PZ]
     refine tC 16 26 (v := ?_) ?_ ?_
     rotate_left
     ·
      intro wx hSw
      obtain ⟨hS1, hS2, hS3⟩ := hSw
      go_simp
      try (with_reducible rfl)
     try simp only [Act.put, PZ]
     refine sA 17 27 ?_
     try simp only [Act.put, PZ]
     refine sA 18 28 ?_
     try simp only [Act.put, PZ]
     refine sA 19 29 ?_
     try simp only [Act.put, PZ]
     refine sA 20 30 ?_
     try simp only [Act.put, PZ]
     refine sA 21 31 ?_
     try simp only [Act.put, PZ]
     refine sA 22 32 ?_
     try simp only [Act.put, PZ]
     refine sA 23 33 ?_
     try simp only [Act.put, PZ]
     refine tC 24 34 (v := ?_) ?_ ?_
     rotate_left
     ·
      intro wx hSw
      obtain ⟨hS1, hS2, hS3⟩ := hSw
      go_simp
      try (with_reducible rfl)
     try simp only [Act.put, PZ]
     refine tC 25 35 (v := ?_) ?_ ?_
     rotate_left
     ·
      intro wx hSw
      obtain ⟨hS1, hS2, hS3⟩ := hSw
      go_simp
      try (with_reducible rfl)
     try simp only [Act.put, PZ]
     refine sA 26 36 ?_
     try simp only [Act.put, PZ]
     refine sA 27 37 ?_
     try simp only [Act.put, PZ]
     refine sA 28 38 ?_
     try simp only [Act.put, PZ]
     refine sA 29 39 ?_
     try simp only [Act.put, PZ]
     refine sA 30 40 ?_
     try simp only [Act.put, PZ]
     refine sA 31 41 ?_
     try simp only [Act.put, PZ]
     refine sA 32 42 ?_
     try simp only [Act.put, PZ]
     refine sA 33 43 ?_
     try simp only [Act.put, PZ]
     refine sA 34 44 ?_
     try simp only [Act.put, PZ]
     refine sA 35 45 ?_
     try simp only [Act.put, PZ]
     refine sA 36 46 ?_
     try simp only [Act.put, PZ]
     refine sA 37 47 ?_
     try simp only [Act.put, PZ]
     refine sA 38 48 ?_
     try simp only [Act.put, PZ]
     refine sA 39 49 ?_
     try simp only [Act.put, PZ]
     refine sA 40 50 ?_
     try simp only [Act.put, PZ]
     refine sA 41 51 ?_
     try simp only [Act.put, PZ]
     refine tC 42 52 (v := ?_) ?_ ?_
     rotate_left
     ·
      intro wx hSw
      obtain ⟨hS1, hS2, hS3⟩ := hSw
      go_simp
      try (with_reducible rfl)
     try simp only [Act.put, PZ]
     refine wpAnyH_done (by kernel_rfl) ?_ _
     go_wp2_with fail
     go_ret
     exact ⟨ret_bool HF.out.symm, hB.drew⟩
   ·
    have HF : Hid (ok = false) := HN.out (fun h => hm0 h.1.1)
    have hm : decide (1 ≤ m ∧ m ≤ 20) = false := decide_eq_false hm0
    clear hm0
    go_wp2_with fail
    refine wp_region_held_drew (S := fun w' => w'.cell? ⟨g, o + k * 3, none⟩ = some (.int .i64 m) ∧ w'.cell? ⟨g, o + k * 3 + 1, none⟩ = some (.int .i64 p) ∧ w'.cell? ⟨g, o + k * 3 + 2, none⟩ = some (.int .i64 t)) (by kernel_rfl) ⟨c1, c2, c3⟩ (fun hHeld => ?_)
    refine tC 0 10 (v := ?_) ?_ ?_
    rotate_left
    ·
     intro wx hSw
     obtain ⟨hS1, hS2, hS3⟩ := hSw
     go_simp
     try (with_reducible rfl)
    try simp only [Act.put, PZ]
    refine tC 1 11 (v := ?_) ?_ ?_
    rotate_left
    ·
     intro wx hSw
     obtain ⟨hS1, hS2, hS3⟩ := hSw
     go_simp
     try (with_reducible rfl)
    try simp only [Act.put, PZ]
    refine tC 2 12 (v := ?_) ?_ ?_
    rotate_left
    ·
     intro wx hSw
     obtain ⟨hS1, hS2, hS3⟩ := hSw
     go_simp
     try (with_reducible rfl)
    try simp only [Act.put, PZ]
    refine tC 3 13 (v := ?_) ?_ ?_
    rotate_left
    ·
     intro wx hSw
     obtain ⟨hS1, hS2, hS3⟩ := hSw
     go_simp
     try (with_reducible rfl)
    try simp only [Act.put, PZ]
    refine tC 4 14 (v := ?_) ?_ ?_
    rotate_left
    ·
     intro wx hSw
     obtain ⟨hS1, hS2, hS3⟩ := hSw
     go_simp
     try (with_reducible rfl)
    try simp only [Act.put, PZ]
    refine wpAnyH_ready (rs := [5]) (by kernel_rfl) (by simp) ?_
    refine AllReadyH.cons rfl (fun K hK => ?_) AllReadyH.nil
    go_simp
    refine (l1Mac_any _ _).mono ?_
    rintro e w1 ⟨rfl, rfl⟩
    rw [hm]
    go_wp2_with fail
    refine hK.out _ _ ⟨c1, c2, c3⟩ (fun hHeld => ?_)
    clear hK K
    try simp only [Act.put, PZ]
    refine tC 6 16 (v := ?_) ?_ ?_
    rotate_left
    ·
     intro wx hSw
     obtain ⟨hS1, hS2, hS3⟩ := hSw
     go_simp
     try (with_reducible rfl)
    try simp only [Act.put, PZ]
    refine tC 7 17 (v := ?_) ?_ ?_
    rotate_left
    ·
     intro wx hSw
     obtain ⟨hS1, hS2, hS3⟩ := hSw
     go_simp
     try (with_reducible rfl)
    try simp only [Act.put, PZ]
    refine sA 8 18 ?_
    try simp only [Act.put, PZ]
    refine sA 9 19 ?_
    try simp only [Act.put, PZ]
    refine sA 10 20 ?_
    try simp only [Act.put, PZ]
    refine sA 11 21 ?_
    try simp only [Act.put, PZ]
    refine sA 12 22 ?_
    try simp only [Act.put, PZ]
    refine sA 13 23 ?_
    try simp only [Act.put, PZ]
    refine sA 14 24 ?_
    try simp only [Act.put, PZ]
    refine tC 15 25 (v := ?_) ?_ ?_
    rotate_left
    ·
     intro wx hSw
     obtain ⟨hS1, hS2, hS3⟩ := hSw
     go_simp
     try (with_reducible rfl)
    try simp only [Act.put, PZ]
    refine tC 16 26 (v := ?_) ?_ ?_
    rotate_left
    ·
     intro wx hSw
     obtain ⟨hS1, hS2, hS3⟩ := hSw
     go_simp
     try (with_reducible rfl)
    try simp only [Act.put, PZ]
    refine sA 17 27 ?_
    try simp only [Act.put, PZ]
    refine sA 18 28 ?_
    try simp only [Act.put, PZ]
    refine sA 19 29 ?_
    try simp only [Act.put, PZ]
    refine sA 20 30 ?_
    try simp only [Act.put, PZ]
    refine sA 21 31 ?_
    try simp only [Act.put, PZ]
    refine sA 22 32 ?_
    try simp only [Act.put, PZ]
    refine sA 23 33 ?_
    try simp only [Act.put, PZ]
    refine tC 24 34 (v := ?_) ?_ ?_
    rotate_left
    ·
     intro wx hSw
     obtain ⟨hS1, hS2, hS3⟩ := hSw
     go_simp
     try (with_reducible rfl)
    try simp only [Act.put, PZ]
    refine tC 25 35 (v := ?_) ?_ ?_
    rotate_left
    ·
     intro wx hSw
     obtain ⟨hS1, hS2, hS3⟩ := hSw
     go_simp
     try (with_reducible rfl)
    try simp only [Act.put, PZ]
    refine sA 26 36 ?_
    try simp only [Act.put, PZ]
    refine sA 27 37 ?_
    try simp only [Act.put, PZ]
    refine sA 28 38 ?_
    try simp only [Act.put, PZ]
    refine sA 29 39 ?_
    try simp only [Act.put, PZ]
    refine sA 30 40 ?_
    try simp only [Act.put, PZ]
    refine sA 31 41 ?_
    try simp only [Act.put, PZ]
    refine sA 32 42 ?_
    try simp only [Act.put, PZ]
    refine sA 33 43 ?_
    try simp only [Act.put, PZ]
    refine sA 34 44 ?_
    try simp only [Act.put, PZ]
    refine sA 35 45 ?_
    try simp only [Act.put, PZ]
    refine sA 36 46 ?_
    try simp only [Act.put, PZ]
    refine sA 37 47 ?_
    try simp only [Act.put, PZ]
    refine sA 38 48 ?_
    try simp only [Act.put, PZ]
    refine sA 39 49 ?_
    try simp only [Act.put, PZ]
    refine sA 40 50 ?_
    try simp only [Act.put, PZ]
    refine sA 41 51 ?_
    try simp only [Act.put, PZ]
    refine tC 42 52 (v := ?_) ?_ ?_
    rotate_left
    ·
     intro wx hSw
     obtain ⟨hS1, hS2, hS3⟩ := hSw
     go_simp
     try (with_reducible rfl)
    try simp only [Act.put, PZ]
    refine wpAnyH_done (by kernel_rfl) ?_ _
    go_wp2_with fail
    go_ret
    exact ⟨ret_bool HF.out.symm, hB.drew⟩
  ·
   obtain rfl : k = n := by omega
   by_cases h8 : k ≤ 8
   ·
    have h8' : (k : Int) ≤ 8 := by omega
    have HT : Hid (ok = true) := HO.out.2 ⟨h8, HA.out⟩
    go_wp2_with fail
    go_ret
    exact ⟨ret_bool HT.out.symm, hB⟩
   ·
    have h8' : ¬ (k : Int) ≤ 8 := by omega
    have HF : Hid (ok = false) := by
     show ok = false
     rw [Bool.eq_false_iff]
     intro e
     exact h8 (HO.out.1 e).1
    go_wp2_with fail
    go_ret
    exact ⟨ret_bool HF.out.symm, hB⟩
end Go.Proofs.YtlipielghpoaoaaGreat
