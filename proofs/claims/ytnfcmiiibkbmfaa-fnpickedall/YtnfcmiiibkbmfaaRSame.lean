/- Two rounds held against each other; is a code too long? -/
import Derived.Test.YtnfcmiiibkbmfaaDRound
namespace Go.Proofs.Ytnfcmiiibkbmfaa
open Go.RowKit
set_option linter.unusedVariables false
set_option linter.unusedSimpArgs false

theorem boxed2 {w wi : World} {A B : Array Value} {t s : TypeId} (h : Below (w.heap.size + 2) ((w.alloc (.cells A t)).alloc (.cells B s)) wi) : (∀ o, wi.cell? ⟨w.heap.size, o, none⟩ = A[o]?) ∧ ∀ o, wi.cell? ⟨w.heap.size + 1, o, none⟩ = B[o]? := by
  have k1 : wi.heap[w.heap.size]? = some (.cells A t (0, 0)) := (h.block _ (by omega)).trans ((blk_old _ (by simp)).trans (blk_new _ _))
  have k2 : wi.heap[w.heap.size + 1]? = some (.cells B s (0, 0)) := by
    refine (h.block _ (by omega)).trans ?_
    have := blk_new (w.alloc (.cells A t)) (.cells B s)
    simpa using this
  exact ⟨blk_cell k1, blk_cell k2⟩
theorem under2 {w wi : World} {o o' : Obj} (h : Below (w.heap.size + 2) ((w.alloc o).alloc o') wi) : Below w.heap.size w wi :=
  (((Below.refl _ _).alloc (Nat.le_refl _) o).alloc (by simp) o').trans (h.mono (by omega))
theorem upper2 {w wi : World} {o o' : Obj} (h : Below (w.heap.size + 2) ((w.alloc o).alloc o') wi) : w.heap.size + 2 ≤ wi.heap.size := by
  have := h.size
  simpa using this
theorem next2 {w wi wj : World} {o o' : Obj} (h : Below (w.heap.size + 2) ((w.alloc o).alloc o') wi) (k : Below wi.heap.size wi wj) : Below (w.heap.size + 2) ((w.alloc o).alloc o') wj :=
  h.trans (k.mono (upper2 h))
theorem sameInts_any (a1 a2 : Option Addr) (n c1 c2 : Nat) (f : Nat → Int) (w : World) (hn : n ≤ 1048576) (h1 : RdRow w a1 n fun i => .int .i64 (f i)) (h2 : RdRow w a2 n fun i => .int .i64 (f i)) :
    Calls Try.prog 13 #[.slice a1 n c1, .slice a2 n c2] w fun e w' => e = .returned (.bool true) ∧ Same w w' := by
  go_enter Try.func13, Try.ntmps13
  go_wp2_with fail
  go_loopw [5] (fun i wr => ∃ k : Nat, k ≤ n ∧ i = .int .i64 k ∧ Same w wr) (fun i _ => n - (intOf i).toNat)
  case atStart => exact ⟨0, Nat.zero_le _, rfl, Same.refl _⟩
  case round =>
    obtain ⟨k, hk, rfl, hS⟩ := hrel
    by_cases hlt : k < n
    · obtain ⟨g1, o1, rfl, e1⟩ := h1 k hlt
      obtain ⟨g2, o2, rfl, e2⟩ := h2 k hlt
      rw [← hS.cell] at e1 e2
      dsimp only at e1 e2
      have hbb : (f k != f k) = false := by simp
      clear h1 h2
      have hlt' : (k : Int) < n := by omega
      go_wp2_with fail
      go_quiet (fail)
      go_wp2_with fail
      go_roundw
      case rel => exact ⟨k + 1, by omega, by go_num, hS.drewN _⟩
      case measure => simp [intOf]; omega
    · obtain rfl : k = n := by omega
      go_wp2_with fail
      go_ret
      exact ⟨rfl, hS⟩
set_option maxRecDepth 100000 in
set_option maxHeartbeats 4000000 in
theorem sameRound_any (R1 R2 : Rnd) (w : World) (hs : R1.Small) (h1 : RdRnd w R1) (h2 : RdRnd w R2) (ha : Alike R1 R2) :
    Calls Try.prog 11 #[.agg R1.cells, .agg R2.cells] w fun e w' => e = .returned (.bool true) ∧ Below w.heap.size w w' := by
  obtain ⟨aQ, nQ, cQ, q, aD, nD, cD, d, turn, fresh, aS, nS, cS, A, L, C, z⟩ := R1
  obtain ⟨aQ2, nQ2, cQ2, q2, aD2, nD2, cD2, d2, turn2, fresh2, aS2, nS2, cS2, A2, L2, C2, z2⟩ := R2
  obtain ⟨eQ, eq, eD, ed, et, ef, eS, eL, ez⟩ := ha.symm
  dsimp only at eQ eq eD ed et ef eS eL ez
  subst eQ eq eD ed et ef eS eL ez
  have HQ1 : Hid (RdRow w aQ nQ fun i => .int .i64 (q i)) := h1.q
  have HQ2 : Hid (RdRow w aQ2 nQ fun i => .int .i64 (q i)) := h2.q
  have HD1 : Hid (RdRow w aD nD fun i => .int .i64 (d i)) := h1.d
  have HD2 : Hid (RdRow w aD2 nD fun i => .int .i64 (d i)) := h2.d
  have HS1 : Hid (RdRow w aS nS fun i => .slice (A i) (L i) (C i)) := h1.s
  have HS2 : Hid (RdRow w aS2 nS fun i => .slice (A2 i) (L i) (C2 i)) := h2.s
  have HZ1 : Hid (∀ k, k < nS → ∀ w', Below w.heap.size w w' → RdRow w' (A k) (L k) fun j => .int .i64 (z k j)) := fun k hk w' hb => (h1.z k hk).up hb
  have HZ2 : Hid (∀ k, k < nS → ∀ w', Below w.heap.size w w' → RdRow w' (A2 k) (L k) fun j => .int .i64 (z k j)) := fun k hk w' hb => (h2.z k hk).up hb
  have hq1 : nQ ≤ 1048576 := hs.q
  have hd1 : nD ≤ 1048576 := hs.d
  have hs1 : nS ≤ 1048576 := hs.s
  have HLm : Hid (∀ i, i < nS → L i ≤ 1048576) := hs.l
  have hbb : (fresh != fresh) = false := by cases fresh <;> rfl
  have hbb2 : (!(fresh == fresh)) = false := by cases fresh <;> rfl
  have hB : Below (w.heap.size + 2) ((w.alloc (.cells #[.slice aQ nQ cQ, .slice aD nD cD, .int .i64 turn, .bool fresh, .slice aS nS cS] 27)).alloc (.cells #[.slice aQ2 nQ cQ2, .slice aD2 nD cD2, .int .i64 turn, .bool fresh, .slice aS2 nS cS2] 27)) ((w.alloc (.cells #[.slice aQ nQ cQ, .slice aD nD cD, .int .i64 turn, .bool fresh, .slice aS nS cS] 27)).alloc (.cells #[.slice aQ2 nQ cQ2, .slice aD2 nD cD2, .int .i64 turn, .bool fresh, .slice aS2 nS cS2] 27)) := Below.refl _ _
  have cb := boxed2 hB
  clear h1 h2 hs ha
  unfold Rnd.cells
  dsimp only
  go_enter Try.func11, Try.ntmps11
  go_wp2_with fail
  refine (sameInts_any aQ aQ2 nQ cQ cQ2 q _ hq1 (HQ1.out.up (under2 hB)) (HQ2.out.up (under2 hB))).mono ?_
  rintro e w1 ⟨rfl, hSm⟩
  replace hB := next2 hB (hSm.below _)
  replace cb := boxed2 hB
  clear hSm
  go_wp2_with fail
  refine (sameInts_any aD aD2 nD cD cD2 d _ hd1 (HD1.out.up (under2 hB)) (HD2.out.up (under2 hB))).mono ?_
  rintro e w2 ⟨rfl, hSm⟩
  replace hB := next2 hB (hSm.below _)
  replace cb := boxed2 hB
  clear hSm
  go_wp2_with fail
  go_loopw [5] (fun i wr => ∃ k : Nat, k ≤ nS ∧ i = .int .i64 k ∧ Below (w.heap.size + 2) ((w.alloc (.cells #[.slice aQ nQ cQ, .slice aD nD cD, .int .i64 turn, .bool fresh, .slice aS nS cS] 27)).alloc (.cells #[.slice aQ2 nQ cQ2, .slice aD2 nD cD2, .int .i64 turn, .bool fresh, .slice aS2 nS cS2] 27)) wr) (fun i _ => nS - (intOf i).toNat)
  case atStart => exact ⟨0, Nat.zero_le _, rfl, hB⟩
  case round =>
    clear hB cb
    obtain ⟨k, hk, rfl, hB⟩ := hrel
    have cb0 := boxed2 hB
    by_cases hlt : k < nS
    · have hlt' : (k : Int) < nS := by omega
      have hD := under2 hB.drew
      obtain ⟨g, o, rfl, s1⟩ := (HS1.out.up hD) k hlt
      obtain ⟨g2, o2, rfl, s2⟩ := (HS2.out.up hD) k hlt
      dsimp only at s1 s2
      have cb := boxed2 hB.drew
      go_wp2_with fail
      refine wp_region_held_drew (S := fun w' => (∀ oo, w'.cell? ⟨w.heap.size, oo, none⟩ = (#[.slice aQ nQ cQ, .slice aD nD cD, .int .i64 turn, .bool fresh, .slice (some ⟨g, o, none⟩) nS cS] : Array Value)[oo]?) ∧ (∀ oo, w'.cell? ⟨w.heap.size + 1, oo, none⟩ = (#[.slice aQ2 nQ cQ2, .slice aD2 nD cD2, .int .i64 turn, .bool fresh, .slice (some ⟨g2, o2, none⟩) nS cS2] : Array Value)[oo]?) ∧ w'.cell? ⟨g, o + k, none⟩ = some (.slice (A k) (L k) (C k)) ∧ w'.cell? ⟨g2, o2 + k, none⟩ = some (.slice (A2 k) (L k) (C2 k))) (by kernel_rfl) ⟨cb.1, cb.2, s1, s2⟩ (fun hHeld => ?_)
      refine takeD (i := 0) (some 50) (v := ?_) rfl rfl (by kernel_rfl) (by kernel_rfl) (by kernel_rfl) (fun _ _ _ h => h) (by kernel_rfl) ?_ (by assumption) ?_
      rotate_left
      · intro wx hSw
        obtain ⟨hS1, hS2, hS3, hS4⟩ := hSw
        go_simp
        try (with_reducible rfl)
      try simp only [Act.put, List.setIfInBounds_toArray, List.set_cons_zero, List.set_cons_succ]
      refine takeD (i := 1) (some 51) (v := ?_) rfl rfl (by kernel_rfl) (by kernel_rfl) (by kernel_rfl) (fun _ _ _ h => h) (by kernel_rfl) ?_ (by assumption) ?_
      rotate_left
      · intro wx hSw
        obtain ⟨hS1, hS2, hS3, hS4⟩ := hSw
        go_simp
        try (with_reducible rfl)
      try simp only [Act.put, List.setIfInBounds_toArray, List.set_cons_zero, List.set_cons_succ]
      refine takeD (i := 2) (some 52) (v := ?_) rfl rfl (by kernel_rfl) (by kernel_rfl) (by kernel_rfl) (fun _ _ _ h => h) (by kernel_rfl) ?_ (by assumption) ?_
      rotate_left
      · intro wx hSw
        obtain ⟨hS1, hS2, hS3, hS4⟩ := hSw
        go_simp
        try (with_reducible rfl)
      try simp only [Act.put, List.setIfInBounds_toArray, List.set_cons_zero, List.set_cons_succ]
      refine takeD (i := 3) (some 53) (v := ?_) rfl rfl (by kernel_rfl) (by kernel_rfl) (by kernel_rfl) (fun _ _ _ h => h) (by kernel_rfl) ?_ (by assumption) ?_
      rotate_left
      · intro wx hSw
        obtain ⟨hS1, hS2, hS3, hS4⟩ := hSw
        go_simp
        try (with_reducible rfl)
      try simp only [Act.put, List.setIfInBounds_toArray, List.set_cons_zero, List.set_cons_succ]
      refine takeD (i := 4) (some 54) (v := ?_) rfl rfl (by kernel_rfl) (by kernel_rfl) (by kernel_rfl) (fun _ _ _ h => h) (by kernel_rfl) ?_ (by assumption) ?_
      rotate_left
      · intro wx hSw
        obtain ⟨hS1, hS2, hS3, hS4⟩ := hSw
        go_simp
        try (with_reducible rfl)
      try simp only [Act.put, List.setIfInBounds_toArray, List.set_cons_zero, List.set_cons_succ]
      refine takeD (i := 5) (some 55) (v := ?_) rfl rfl (by kernel_rfl) (by kernel_rfl) (by kernel_rfl) (fun _ _ _ h => h) (by kernel_rfl) ?_ (by assumption) ?_
      rotate_left
      · intro wx hSw
        obtain ⟨hS1, hS2, hS3, hS4⟩ := hSw
        go_simp
        try (with_reducible rfl)
      try simp only [Act.put, List.setIfInBounds_toArray, List.set_cons_zero, List.set_cons_succ]
      refine takeD (i := 6) (some 56) (v := ?_) rfl rfl (by kernel_rfl) (by kernel_rfl) (by kernel_rfl) (fun _ _ _ h => h) (by kernel_rfl) ?_ (by assumption) ?_
      rotate_left
      · intro wx hSw
        obtain ⟨hS1, hS2, hS3, hS4⟩ := hSw
        go_simp
        try (with_reducible rfl)
      try simp only [Act.put, List.setIfInBounds_toArray, List.set_cons_zero, List.set_cons_succ]
      refine takeD (i := 7) (some 57) (v := ?_) rfl rfl (by kernel_rfl) (by kernel_rfl) (by kernel_rfl) (fun _ _ _ h => h) (by kernel_rfl) ?_ (by assumption) ?_
      rotate_left
      · intro wx hSw
        obtain ⟨hS1, hS2, hS3, hS4⟩ := hSw
        go_simp
        try (with_reducible rfl)
      try simp only [Act.put, List.setIfInBounds_toArray, List.set_cons_zero, List.set_cons_succ]
      refine takeD (i := 8) (some 58) (v := ?_) rfl rfl (by kernel_rfl) (by kernel_rfl) (by kernel_rfl) (fun _ _ _ h => h) (by kernel_rfl) ?_ (by assumption) ?_
      rotate_left
      · intro wx hSw
        obtain ⟨hS1, hS2, hS3, hS4⟩ := hSw
        go_simp
        try (with_reducible rfl)
      try simp only [Act.put, List.setIfInBounds_toArray, List.set_cons_zero, List.set_cons_succ]
      refine takeD (i := 9) (some 59) (v := ?_) rfl rfl (by kernel_rfl) (by kernel_rfl) (by kernel_rfl) (fun _ _ _ h => h) (by kernel_rfl) ?_ (by assumption) ?_
      rotate_left
      · intro wx hSw
        obtain ⟨hS1, hS2, hS3, hS4⟩ := hSw
        go_simp
        try (with_reducible rfl)
      try simp only [Act.put, List.setIfInBounds_toArray, List.set_cons_zero, List.set_cons_succ]
      refine wpAnyH_ready (rs := [10]) (by kernel_rfl) (by simp) ?_
      refine AllReadyH.cons rfl (fun K hK => ?_) AllReadyH.nil
      go_simp
      refine (sameInts_any (A k) (A2 k) (L k) (C k) (C2 k) (z k) wr.drew (HLm.out k hlt) (HZ1.out k hlt _ hD) (HZ2.out k hlt _ hD)).mono ?_
      rintro e w1 ⟨rfl, hSm⟩
      have hb1 := hSm.below wr.drew.heap.size
      have hBn := next2 hB.drew hb1
      have cbn := boxed2 hBn
      have s1 := (hSm.cell ⟨g, o + k, none⟩).trans s1
      have s2 := (hSm.cell ⟨g2, o2 + k, none⟩).trans s2
      go_wp2_with fail
      refine hK.out _ _ ⟨cbn.1, cbn.2, s1, s2⟩ (fun hHeld => ?_)
      clear hK K
      try simp only [Act.put, List.setIfInBounds_toArray, List.set_cons_zero, List.set_cons_succ]
      refine takeD (i := 11) (some 61) (v := ?_) rfl rfl (by kernel_rfl) (by kernel_rfl) (by kernel_rfl) (fun _ _ _ h => h) (by kernel_rfl) ?_ (by assumption) ?_
      rotate_left
      · intro wx hSw
        obtain ⟨hS1, hS2, hS3, hS4⟩ := hSw
        go_simp
        try (with_reducible rfl)
      try simp only [Act.put, List.setIfInBounds_toArray, List.set_cons_zero, List.set_cons_succ]
      refine wpAnyH_done (by kernel_rfl) ?_ _
      have HB : Hid (Below (w.heap.size + 2) ((w.alloc (.cells #[.slice aQ nQ cQ, .slice aD nD cD, .int .i64 turn, .bool fresh, .slice (some ⟨g, o, none⟩) nS cS] 27)).alloc (.cells #[.slice aQ2 nQ cQ2, .slice aD2 nD cD2, .int .i64 turn, .bool fresh, .slice (some ⟨g2, o2, none⟩) nS cS2] 27)) w1) := hBn
      clear hBn cbn hb1 hSm s1 s2 hB cb cb0 hD hHeld
      go_wp2_with fail
      go_roundw
      case rel => exact ⟨k + 1, by omega, by go_num, HB.out⟩
      case measure => simp [intOf]; omega
    · obtain rfl : k = nS := by omega
      have hkk : ¬ ((k : Nat) : Int) < ((k : Nat) : Int) := by omega
      have cb := cb0
      clear cb0
      go_wp2_with fail
      go_ret
      exact ⟨rfl, under2 hB⟩
theorem bigC_any (a : Option Addr) (len cap : Nat) (w : World) (h : len ≤ maxLen) :
    Calls Try.prog 7 #[.slice a len cap] w fun e w' => e = .returned (.bool (decide (1048576 < (len : Int)))) ∧ w' = w := by
  have hm : (len : Int) ≤ 9223372036854775807 := by unfold maxLen at h; omega
  go_enter Try.func7, Try.ntmps7
  go_wp2
  go_ret
  exact ⟨rfl, rfl⟩
end Go.Proofs.Ytnfcmiiibkbmfaa
