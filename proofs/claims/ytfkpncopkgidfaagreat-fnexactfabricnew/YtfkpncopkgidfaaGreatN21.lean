import Derived.Test.YtfkpncopkgidfaaGreatN04
namespace Go.Proofs.YtfkpncopkgidfaaGreat
open Go.RowKit
set_option linter.unusedVariables false
set_option linter.unusedSimpArgs false
set_option maxHeartbeats 3000000 in
theorem sTableOk_any (a : Option Addr) (n cap : Nat) (f : Nat → Ent) (w : World) (hn : n ≤ maxLen) (h : RdEnt w a n f) (ok : Bool) (hok : ok = true ↔ tabOk n f) :
  Calls Tryz.prog 58 #[.slice a n cap] w fun e w' => e = .returned (.bool ok) ∧ Below w.heap.size w w' := by
 have HO : Hid (ok = true ↔ tabOk n f) := hok
 have HR : Hid (RdEnt w a n f) := h
 clear hok h
 have hm : (n : Int) ≤ 9223372036854775807 := by unfold maxLen at hn; omega
 go_enter Tryz.func58, Tryz.ntmps58
 go_wp2_with fail
 go_loopw [3] (fun i wr => ∃ k : Nat, k ≤ n ∧ i = .int .i64 k ∧ entsOk k f ∧ Same w wr) (fun i _ => n - (intOf i).toNat)
 case atStart => exact ⟨0, Nat.zero_le _, rfl, fun i hi => by omega, Same.refl _⟩
 case round =>
  obtain ⟨k, hk, rfl, hall, hS⟩ := hrel
  have HA : Hid (entsOk k f) := hall
  clear hall
  have hB : Below w.heap.size w wr := hS.below _
  by_cases hlt : k < n
  ·
   have hlt' : (k : Int) < n := by omega
   obtain ⟨g, o, rfl, c1, c2, c3⟩ := (HR.out.up hB) k hlt
   have HN : Hid (¬ (entOk (f k) ∧ (0 < k → (f (k - 1)).m < (f k).m)) → ok = false) := fun hh => by
    rw [Bool.eq_false_iff]
    intro e
    exact hh ((HO.out.1 e).2 k hlt)
   generalize hx : f k = x at *
   obtain ⟨m, p, t⟩ := x
   dsimp only at c1 c2 c3
   by_cases hm0 : 1 ≤ m ∧ m ≤ 20
   ·
    have HM : Hid (1 ≤ m ∧ m ≤ 20) := hm0
    have hm : decide (1 ≤ m ∧ m ≤ 20) = true := decide_eq_true hm0
    clear hm0
    by_cases hp0 : 0 ≤ p ∧ p ≤ 3
    ·
     have HP : Hid (0 ≤ p ∧ p ≤ 3) := hp0
     have hp : decide (0 ≤ p ∧ p ≤ 3) = true := decide_eq_true hp0
     clear hp0
     by_cases ht0 : 0 ≤ t ∧ t ≤ 1000000000
     ·
      have HT : Hid (0 ≤ t ∧ t ≤ 1000000000) := ht0
      have ht : decide (0 ≤ t ∧ t ≤ 1000000000) = true := decide_eq_true ht0
      clear ht0
      have HE : Hid (entOk ⟨m, p, t⟩) := ⟨HM.out, HP.out, HT.out⟩
      by_cases h0 : k = 0
      ·
       subst h0
       have HS : Hid (entsOk (0 + 1) f) := HA.out.step (by rw [hx]; exact HE.out) (fun h => by omega)
       simp only [Nat.zero_mul, Nat.add_zero] at c1 c2 c3
       have hlt0 : (0 : Int) < n := by omega
       clear hlt'
       go_wp2_with fail
       refine wp_region_held_drew (S := fun w' => w'.cell? ⟨g, o, none⟩ = some (.int .i64 m) ∧ w'.cell? ⟨g, o + 1, none⟩ = some (.int .i64 p) ∧ w'.cell? ⟨g, o + 2, none⟩ = some (.int .i64 t)) (by kernel_rfl) ⟨c1, c2, c3⟩ (fun hHeld => ?_)
       refine t0 ?_
       try simp only [Act.put, PZ]
       iterate 4 (refine tN ?_; try simp only [Act.put, PZ])
       refine r1 5 (fun K hK => ?_)
       go_simp
       refine (l1Mac_any _ _).mono ?_
       rintro e w1 ⟨rfl, rfl⟩
       rw [hm]
       go_wp2_with fail
       refine hK.out _ _ ⟨c1, c2, c3⟩ (fun hHeld => ?_)
       clear hK K
       try simp only [Act.put, PZ]
       iterate 7 (refine tN ?_; try simp only [Act.put, PZ])
       refine r1 13 (fun K hK => ?_)
       go_simp
       refine (l1In_any _ _ _ _).mono ?_
       rintro e w1 ⟨rfl, rfl⟩
       rw [hp]
       go_wp2_with fail
       refine hK.out _ _ ⟨c1, c2, c3⟩ (fun hHeld => ?_)
       clear hK K
       try simp only [Act.put, PZ]
       iterate 8 (refine tN ?_; try simp only [Act.put, PZ])
       refine r1 22 (fun K hK => ?_)
       go_simp
       refine (l1In_any _ _ _ _).mono ?_
       rintro e w1 ⟨rfl, rfl⟩
       rw [ht]
       go_wp2_with fail
       refine hK.out _ _ ⟨c1, c2, c3⟩ (fun hHeld => ?_)
       clear hK K
       try simp only [Act.put, PZ]
       iterate 6 (refine tN ?_; try simp only [Act.put, PZ])
       iterate 12 (refine sN ?_; try simp only [Act.put, PZ])
       iterate 2 (refine tN ?_; try simp only [Act.put, PZ])
       refine dn ?_
       go_wp2_with fail
       go_roundw
       case rel => exact ⟨1, by omega, by go_num, HS.out, hS.drewN 1⟩
       case measure => simp [intOf]; omega
      ·
       obtain ⟨j, rfl⟩ : ∃ j, k = j + 1 := ⟨k - 1, by omega⟩
       have hj' : (j : Int) < n := by omega
       have hjj : (0 : Int) < (j : Int) + 1 := by omega
       have hj0 : (0 : Int) ≤ (j : Int) + 1 := by omega
       have hj1 : (j : Int) + 1 < n := by omega
       have hwj : IntKind.i64.wrap (j : Int) = (j : Int) := wrapE _ (by omega) (by omega)
       obtain ⟨g', o', eg, cP, _, _⟩ := (HR.out.up hB) j (by omega)
       cases eg
       by_cases hq : (f j).m < m
       ·
        have HS : Hid (entsOk (j + 1 + 1) f) := HA.out.step (by rw [hx]; exact HE.out) (fun h => by rw [hx]; exact hq)
        generalize (f j).m = q at *
        have hq' : ¬ m ≤ q := by omega
        go_wp2_with fail
        refine wp_region_held_drew (S := fun w' => w'.cell? ⟨g, o + (j + 1) * 3, none⟩ = some (.int .i64 m) ∧ w'.cell? ⟨g, o + (j + 1) * 3 + 1, none⟩ = some (.int .i64 p) ∧ w'.cell? ⟨g, o + (j + 1) * 3 + 2, none⟩ = some (.int .i64 t) ∧ w'.cell? ⟨g, o + j * 3, none⟩ = some (.int .i64 q)) (by kernel_rfl) ⟨c1, c2, c3, cP⟩ (fun hHeld => ?_)
        refine t0 ?_
        try simp only [Act.put, PZ]
        iterate 4 (refine tN ?_; try simp only [Act.put, PZ])
        refine r1 5 (fun K hK => ?_)
        go_simp
        refine (l1Mac_any _ _).mono ?_
        rintro e w1 ⟨rfl, rfl⟩
        rw [hm]
        go_wp2_with fail
        refine hK.out _ _ ⟨c1, c2, c3, cP⟩ (fun hHeld => ?_)
        clear hK K
        try simp only [Act.put, PZ]
        iterate 7 (refine tN ?_; try simp only [Act.put, PZ])
        refine r1 13 (fun K hK => ?_)
        go_simp
        refine (l1In_any _ _ _ _).mono ?_
        rintro e w1 ⟨rfl, rfl⟩
        rw [hp]
        go_wp2_with fail
        refine hK.out _ _ ⟨c1, c2, c3, cP⟩ (fun hHeld => ?_)
        clear hK K
        try simp only [Act.put, PZ]
        iterate 8 (refine tN ?_; try simp only [Act.put, PZ])
        refine r1 22 (fun K hK => ?_)
        go_simp
        refine (l1In_any _ _ _ _).mono ?_
        rintro e w1 ⟨rfl, rfl⟩
        rw [ht]
        go_wp2_with fail
        refine hK.out _ _ ⟨c1, c2, c3, cP⟩ (fun hHeld => ?_)
        clear hK K
        try simp only [Act.put, PZ]
        iterate 20 (refine tN ?_; try simp only [Act.put, PZ])
        refine dn ?_
        go_wp2_with fail
        go_roundw
        case rel => exact ⟨j + 1 + 1, by omega, by go_num, HS.out, hS.drewN 1⟩
        case measure => simp [intOf]; omega
       ·
        have HF : Hid (ok = false) := HN.out (fun h => hq (h.2 (by omega)))
        generalize (f j).m = q at *
        have hq' : m ≤ q := by omega
        go_wp2_with fail
        refine wp_region_held_drew (S := fun w' => w'.cell? ⟨g, o + (j + 1) * 3, none⟩ = some (.int .i64 m) ∧ w'.cell? ⟨g, o + (j + 1) * 3 + 1, none⟩ = some (.int .i64 p) ∧ w'.cell? ⟨g, o + (j + 1) * 3 + 2, none⟩ = some (.int .i64 t) ∧ w'.cell? ⟨g, o + j * 3, none⟩ = some (.int .i64 q)) (by kernel_rfl) ⟨c1, c2, c3, cP⟩ (fun hHeld => ?_)
        refine t0 ?_
        try simp only [Act.put, PZ]
        iterate 4 (refine tN ?_; try simp only [Act.put, PZ])
        refine r1 5 (fun K hK => ?_)
        go_simp
        refine (l1Mac_any _ _).mono ?_
        rintro e w1 ⟨rfl, rfl⟩
        rw [hm]
        go_wp2_with fail
        refine hK.out _ _ ⟨c1, c2, c3, cP⟩ (fun hHeld => ?_)
        clear hK K
        try simp only [Act.put, PZ]
        iterate 7 (refine tN ?_; try simp only [Act.put, PZ])
        refine r1 13 (fun K hK => ?_)
        go_simp
        refine (l1In_any _ _ _ _).mono ?_
        rintro e w1 ⟨rfl, rfl⟩
        rw [hp]
        go_wp2_with fail
        refine hK.out _ _ ⟨c1, c2, c3, cP⟩ (fun hHeld => ?_)
        clear hK K
        try simp only [Act.put, PZ]
        iterate 8 (refine tN ?_; try simp only [Act.put, PZ])
        refine r1 22 (fun K hK => ?_)
        go_simp
        refine (l1In_any _ _ _ _).mono ?_
        rintro e w1 ⟨rfl, rfl⟩
        rw [ht]
        go_wp2_with fail
        refine hK.out _ _ ⟨c1, c2, c3, cP⟩ (fun hHeld => ?_)
        clear hK K
        try simp only [Act.put, PZ]
        iterate 20 (refine tN ?_; try simp only [Act.put, PZ])
        refine dn ?_
        go_wp2_with fail
        go_ret
        exact ⟨ret_bool HF.out.symm, hB.drew⟩
     ·
      have HF : Hid (ok = false) := HN.out (fun h => ht0 h.1.2.2)
      have ht : decide (0 ≤ t ∧ t ≤ 1000000000) = false := decide_eq_false ht0
      clear ht0
      go_wp2_with fail
      refine wp_region_held_drew (S := fun w' => w'.cell? ⟨g, o + k * 3, none⟩ = some (.int .i64 m) ∧ w'.cell? ⟨g, o + k * 3 + 1, none⟩ = some (.int .i64 p) ∧ w'.cell? ⟨g, o + k * 3 + 2, none⟩ = some (.int .i64 t)) (by kernel_rfl) ⟨c1, c2, c3⟩ (fun hHeld => ?_)
      refine t0 ?_
      try simp only [Act.put, PZ]
      iterate 4 (refine tN ?_; try simp only [Act.put, PZ])
      refine r1 5 (fun K hK => ?_)
      go_simp
      refine (l1Mac_any _ _).mono ?_
      rintro e w1 ⟨rfl, rfl⟩
      rw [hm]
      go_wp2_with fail
      refine hK.out _ _ ⟨c1, c2, c3⟩ (fun hHeld => ?_)
      clear hK K
      try simp only [Act.put, PZ]
      iterate 7 (refine tN ?_; try simp only [Act.put, PZ])
      refine r1 13 (fun K hK => ?_)
      go_simp
      refine (l1In_any _ _ _ _).mono ?_
      rintro e w1 ⟨rfl, rfl⟩
      rw [hp]
      go_wp2_with fail
      refine hK.out _ _ ⟨c1, c2, c3⟩ (fun hHeld => ?_)
      clear hK K
      try simp only [Act.put, PZ]
      iterate 8 (refine tN ?_; try simp only [Act.put, PZ])
      refine r1 22 (fun K hK => ?_)
      go_simp
      refine (l1In_any _ _ _ _).mono ?_
      rintro e w1 ⟨rfl, rfl⟩
      rw [ht]
      go_wp2_with fail
      refine hK.out _ _ ⟨c1, c2, c3⟩ (fun hHeld => ?_)
      clear hK K
      try simp only [Act.put, PZ]
      iterate 3 (refine tN ?_; try simp only [Act.put, PZ])
      iterate 16 (refine sN ?_; try simp only [Act.put, PZ])
      refine tN ?_
      try simp only [Act.put, PZ]
      refine dn ?_
      go_wp2_with fail
      go_ret
      exact ⟨ret_bool HF.out.symm, hB.drew⟩
    ·
     have HF : Hid (ok = false) := HN.out (fun h => hp0 h.1.2.1)
     have hp : decide (0 ≤ p ∧ p ≤ 3) = false := decide_eq_false hp0
     clear hp0
     go_wp2_with fail
     refine wp_region_held_drew (S := fun w' => w'.cell? ⟨g, o + k * 3, none⟩ = some (.int .i64 m) ∧ w'.cell? ⟨g, o + k * 3 + 1, none⟩ = some (.int .i64 p) ∧ w'.cell? ⟨g, o + k * 3 + 2, none⟩ = some (.int .i64 t)) (by kernel_rfl) ⟨c1, c2, c3⟩ (fun hHeld => ?_)
     refine t0 ?_
     try simp only [Act.put, PZ]
     iterate 4 (refine tN ?_; try simp only [Act.put, PZ])
     refine r1 5 (fun K hK => ?_)
     go_simp
     refine (l1Mac_any _ _).mono ?_
     rintro e w1 ⟨rfl, rfl⟩
     rw [hm]
     go_wp2_with fail
     refine hK.out _ _ ⟨c1, c2, c3⟩ (fun hHeld => ?_)
     clear hK K
     try simp only [Act.put, PZ]
     iterate 7 (refine tN ?_; try simp only [Act.put, PZ])
     refine r1 13 (fun K hK => ?_)
     go_simp
     refine (l1In_any _ _ _ _).mono ?_
     rintro e w1 ⟨rfl, rfl⟩
     rw [hp]
     go_wp2_with fail
     refine hK.out _ _ ⟨c1, c2, c3⟩ (fun hHeld => ?_)
     clear hK K
     try simp only [Act.put, PZ]
     iterate 3 (refine tN ?_; try simp only [Act.put, PZ])
     iterate 7 (refine sN ?_; try simp only [Act.put, PZ])
     iterate 2 (refine tN ?_; try simp only [Act.put, PZ])
     iterate 16 (refine sN ?_; try simp only [Act.put, PZ])
     refine tN ?_
     try simp only [Act.put, PZ]
     refine dn ?_
     go_wp2_with fail
     go_ret
     exact ⟨ret_bool HF.out.symm, hB.drew⟩
   ·
    have HF : Hid (ok = false) := HN.out (fun h => hm0 h.1.1)
    have hm : decide (1 ≤ m ∧ m ≤ 20) = false := decide_eq_false hm0
    clear hm0
    go_wp2_with fail
    refine wp_region_held_drew (S := fun w' => w'.cell? ⟨g, o + k * 3, none⟩ = some (.int .i64 m) ∧ w'.cell? ⟨g, o + k * 3 + 1, none⟩ = some (.int .i64 p) ∧ w'.cell? ⟨g, o + k * 3 + 2, none⟩ = some (.int .i64 t)) (by kernel_rfl) ⟨c1, c2, c3⟩ (fun hHeld => ?_)
    refine t0 ?_
    try simp only [Act.put, PZ]
    iterate 4 (refine tN ?_; try simp only [Act.put, PZ])
    refine r1 5 (fun K hK => ?_)
    go_simp
    refine (l1Mac_any _ _).mono ?_
    rintro e w1 ⟨rfl, rfl⟩
    rw [hm]
    go_wp2_with fail
    refine hK.out _ _ ⟨c1, c2, c3⟩ (fun hHeld => ?_)
    clear hK K
    try simp only [Act.put, PZ]
    iterate 2 (refine tN ?_; try simp only [Act.put, PZ])
    iterate 7 (refine sN ?_; try simp only [Act.put, PZ])
    iterate 2 (refine tN ?_; try simp only [Act.put, PZ])
    iterate 7 (refine sN ?_; try simp only [Act.put, PZ])
    iterate 2 (refine tN ?_; try simp only [Act.put, PZ])
    iterate 16 (refine sN ?_; try simp only [Act.put, PZ])
    refine tN ?_
    try simp only [Act.put, PZ]
    refine dn ?_
    go_wp2_with fail
    go_ret
    exact ⟨ret_bool HF.out.symm, hB.drew⟩
  ·
   obtain rfl : k = n := by omega
   by_cases h8 : k ≤ 8
   ·
    have h8' : (k : Int) ≤ 8 := by omega
    have HT : Hid (ok = true) := HO.out.2 ⟨h8, HA.out⟩
    go_wp2_with fail
    go_ret
    exact ⟨ret_bool HT.out.symm, hB⟩
   ·
    have h8' : ¬ (k : Int) ≤ 8 := by omega
    have HF : Hid (ok = false) := by
     show ok = false
     rw [Bool.eq_false_iff]
     intro e
     exact h8 (HO.out.1 e).1
    go_wp2_with fail
    go_ret
    exact ⟨ret_bool HF.out.symm, hB⟩
end Go.Proofs.YtfkpncopkgidfaaGreat
