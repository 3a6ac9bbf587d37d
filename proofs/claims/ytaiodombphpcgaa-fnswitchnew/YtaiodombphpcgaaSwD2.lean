/- Rounds, lanes and switches held against each other, as the laws on drawn things do it. -/
import Derived.Test.YtaiodombphpcgaaSwN
import Derived.Test.YtaiodombphpcgaaSwD1
import Derived.Test.YtaiodombphpcgaaDSame
namespace Go.Proofs.Ytaiodombphpcgaa
open Go.RowKit
set_option linter.unusedVariables false
set_option linter.unusedSimpArgs false

set_option maxRecDepth 100000 in
set_option maxHeartbeats 4000000 in
theorem sameRound_any (R1 R2 : Rnd) (w : World) (hs : R1.Small) (h1 : RdRnd w R1) (h2 : RdRnd w R2) (ha : Alike R1 R2) :
    Calls Try.prog 38 #[.agg R1.cells, .agg R2.cells] w fun e w' => e = .returned (.bool true) ∧ Below w.heap.size w w' := by
  obtain ⟨aQ, nQ, cQ, q, aD, nD, cD, d, turn, fresh, aS, nS, cS, A, L, C, z⟩ := R1
  obtain ⟨aQ2, nQ2, cQ2, q2, aD2, nD2, cD2, d2, turn2, fresh2, aS2, nS2, cS2, A2, L2, C2, z2⟩ := R2
  obtain ⟨eQ, eq, eD, ed, et, ef, eS, eL, ez⟩ := ha.symm
  dsimp only at eQ eq eD ed et ef eS eL ez
  subst eQ eq eD ed et ef eS eL ez
  have HQ1 : Hid (RdRow w aQ nQ fun i => .int .i64 (q i)) := h1.q
  have HQ2 : Hid (RdRow w aQ2 nQ fun i => .int .i64 (q i)) := h2.q
  have HD1 : Hid (RdRow w aD nD fun i => .int .i64 (d i)) := h1.d
  have HD2 : Hid (RdRow w aD2 nD fun i => .int .i64 (d i)) := h2.d
  have HS1 : Hid (RdRow w aS nS fun i => .slice (A i) (L i) (C i)) := h1.s
  have HS2 : Hid (RdRow w aS2 nS fun i => .slice (A2 i) (L i) (C2 i)) := h2.s
  have HZ1 : Hid (∀ k, k < nS → ∀ w', Below w.heap.size w w' → RdRow w' (A k) (L k) fun j => .int .i64 (z k j)) := fun k hk w' hb => (h1.z k hk).up hb
  have HZ2 : Hid (∀ k, k < nS → ∀ w', Below w.heap.size w w' → RdRow w' (A2 k) (L k) fun j => .int .i64 (z k j)) := fun k hk w' hb => (h2.z k hk).up hb
  have hq1 : nQ ≤ 1048576 := hs.q
  have hd1 : nD ≤ 1048576 := hs.d
  have hs1 : nS ≤ 1048576 := hs.s
  have HLm : Hid (∀ i, i < nS → L i ≤ 1048576) := hs.l
  have hbb : (fresh != fresh) = false := by cases fresh <;> rfl
  have hbb2 : (!(fresh == fresh)) = false := by cases fresh <;> rfl
  have hB : Below (w.heap.size + 2) ((w.alloc (.cells #[.slice aQ nQ cQ, .slice aD nD cD, .int .i64 turn, .bool fresh, .slice aS nS cS] 49)).alloc (.cells #[.slice aQ2 nQ cQ2, .slice aD2 nD cD2, .int .i64 turn, .bool fresh, .slice aS2 nS cS2] 49)) ((w.alloc (.cells #[.slice aQ nQ cQ, .slice aD nD cD, .int .i64 turn, .bool fresh, .slice aS nS cS] 49)).alloc (.cells #[.slice aQ2 nQ cQ2, .slice aD2 nD cD2, .int .i64 turn, .bool fresh, .slice aS2 nS cS2] 49)) := Below.refl _ _
  have cb := boxed2 hB
  clear h1 h2 hs ha
  unfold Rnd.cells
  dsimp only
  go_enter Try.func38, Try.ntmps38
  go_wp2_with fail
  refine (sameInts_any aQ aQ2 nQ cQ cQ2 q _ hq1 (HQ1.out.up (under2 hB)) (HQ2.out.up (under2 hB))).mono ?_
  rintro e w1 ⟨rfl, hSm⟩
  replace hB := next2 hB (hSm.below _)
  replace cb := boxed2 hB
  clear hSm
  go_wp2_with fail
  refine (sameInts_any aD aD2 nD cD cD2 d _ hd1 (HD1.out.up (under2 hB)) (HD2.out.up (under2 hB))).mono ?_
  rintro e w2 ⟨rfl, hSm⟩
  replace hB := next2 hB (hSm.below _)
  replace cb := boxed2 hB
  clear hSm
  go_wp2_with fail
  go_loopw [5] (fun i wr => ∃ k : Nat, k ≤ nS ∧ i = .int .i64 k ∧ Below (w.heap.size + 2) ((w.alloc (.cells #[.slice aQ nQ cQ, .slice aD nD cD, .int .i64 turn, .bool fresh, .slice aS nS cS] 49)).alloc (.cells #[.slice aQ2 nQ cQ2, .slice aD2 nD cD2, .int .i64 turn, .bool fresh, .slice aS2 nS cS2] 49)) wr) (fun i _ => nS - (intOf i).toNat)
  case atStart => exact ⟨0, Nat.zero_le _, rfl, hB⟩
  case round =>
    clear hB cb
    obtain ⟨k, hk, rfl, hB⟩ := hrel
    have cb0 := boxed2 hB
    by_cases hlt : k < nS
    · have hlt' : (k : Int) < nS := by omega
      have hD := under2 hB.drew
      obtain ⟨g, o, rfl, s1⟩ := (HS1.out.up hD) k hlt
      obtain ⟨g2, o2, rfl, s2⟩ := (HS2.out.up hD) k hlt
      dsimp only at s1 s2
      have cb := boxed2 hB.drew
      go_wp2_with fail
      refine wp_region_held_drew (S := fun w' => (∀ oo, w'.cell? ⟨w.heap.size, oo, none⟩ = (#[.slice aQ nQ cQ, .slice aD nD cD, .int .i64 turn, .bool fresh, .slice (some ⟨g, o, none⟩) nS cS] : Array Value)[oo]?) ∧ (∀ oo, w'.cell? ⟨w.heap.size + 1, oo, none⟩ = (#[.slice aQ2 nQ cQ2, .slice aD2 nD cD2, .int .i64 turn, .bool fresh, .slice (some ⟨g2, o2, none⟩) nS cS2] : Array Value)[oo]?) ∧ w'.cell? ⟨g, o + k, none⟩ = some (.slice (A k) (L k) (C k)) ∧ w'.cell? ⟨g2, o2 + k, none⟩ = some (.slice (A2 k) (L k) (C2 k))) (by kernel_rfl) ⟨cb.1, cb.2, s1, s2⟩ (fun hHeld => ?_)
      refine takeD (i := 0) (some 50) (v := ?_) rfl rfl (by kernel_rfl) (by kernel_rfl) (by kernel_rfl) (fun _ _ _ h => h) (by kernel_rfl) ?_ (by assumption) ?_
      rotate_left
      · intro wx hSw
        obtain ⟨hS1, hS2, hS3, hS4⟩ := hSw
        go_simp
        try (with_reducible rfl)
      try simp only [Act.put, List.setIfInBounds_toArray, List.set_cons_zero, List.set_cons_succ]
      refine takeD (i := 1) (some 51) (v := ?_) rfl rfl (by kernel_rfl) (by kernel_rfl) (by kernel_rfl) (fun _ _ _ h => h) (by kernel_rfl) ?_ (by assumption) ?_
      rotate_left
      · intro wx hSw
        obtain ⟨hS1, hS2, hS3, hS4⟩ := hSw
        go_simp
        try (with_reducible rfl)
      try simp only [Act.put, List.setIfInBounds_toArray, List.set_cons_zero, List.set_cons_succ]
      refine takeD (i := 2) (some 52) (v := ?_) rfl rfl (by kernel_rfl) (by kernel_rfl) (by kernel_rfl) (fun _ _ _ h => h) (by kernel_rfl) ?_ (by assumption) ?_
      rotate_left
      · intro wx hSw
        obtain ⟨hS1, hS2, hS3, hS4⟩ := hSw
        go_simp
        try (with_reducible rfl)
      try simp only [Act.put, List.setIfInBounds_toArray, List.set_cons_zero, List.set_cons_succ]
      refine takeD (i := 3) (some 53) (v := ?_) rfl rfl (by kernel_rfl) (by kernel_rfl) (by kernel_rfl) (fun _ _ _ h => h) (by kernel_rfl) ?_ (by assumption) ?_
      rotate_left
      · intro wx hSw
        obtain ⟨hS1, hS2, hS3, hS4⟩ := hSw
        go_simp
        try (with_reducible rfl)
      try simp only [Act.put, List.setIfInBounds_toArray, List.set_cons_zero, List.set_cons_succ]
      refine takeD (i := 4) (some 54) (v := ?_) rfl rfl (by kernel_rfl) (by kernel_rfl) (by kernel_rfl) (fun _ _ _ h => h) (by kernel_rfl) ?_ (by assumption) ?_
      rotate_left
      · intro wx hSw
        obtain ⟨hS1, hS2, hS3, hS4⟩ := hSw
        go_simp
        try (with_reducible rfl)
      try simp only [Act.put, List.setIfInBounds_toArray, List.set_cons_zero, List.set_cons_succ]
      refine takeD (i := 5) (some 55) (v := ?_) rfl rfl (by kernel_rfl) (by kernel_rfl) (by kernel_rfl) (fun _ _ _ h => h) (by kernel_rfl) ?_ (by assumption) ?_
      rotate_left
      · intro wx hSw
        obtain ⟨hS1, hS2, hS3, hS4⟩ := hSw
        go_simp
        try (with_reducible rfl)
      try simp only [Act.put, List.setIfInBounds_toArray, List.set_cons_zero, List.set_cons_succ]
      refine takeD (i := 6) (some 56) (v := ?_) rfl rfl (by kernel_rfl) (by kernel_rfl) (by kernel_rfl) (fun _ _ _ h => h) (by kernel_rfl) ?_ (by assumption) ?_
      rotate_left
      · intro wx hSw
        obtain ⟨hS1, hS2, hS3, hS4⟩ := hSw
        go_simp
        try (with_reducible rfl)
      try simp only [Act.put, List.setIfInBounds_toArray, List.set_cons_zero, List.set_cons_succ]
      refine takeD (i := 7) (some 57) (v := ?_) rfl rfl (by kernel_rfl) (by kernel_rfl) (by kernel_rfl) (fun _ _ _ h => h) (by kernel_rfl) ?_ (by assumption) ?_
      rotate_left
      · intro wx hSw
        obtain ⟨hS1, hS2, hS3, hS4⟩ := hSw
        go_simp
        try (with_reducible rfl)
      try simp only [Act.put, List.setIfInBounds_toArray, List.set_cons_zero, List.set_cons_succ]
      refine takeD (i := 8) (some 58) (v := ?_) rfl rfl (by kernel_rfl) (by kernel_rfl) (by kernel_rfl) (fun _ _ _ h => h) (by kernel_rfl) ?_ (by assumption) ?_
      rotate_left
      · intro wx hSw
        obtain ⟨hS1, hS2, hS3, hS4⟩ := hSw
        go_simp
        try (with_reducible rfl)
      try simp only [Act.put, List.setIfInBounds_toArray, List.set_cons_zero, List.set_cons_succ]
      refine takeD (i := 9) (some 59) (v := ?_) rfl rfl (by kernel_rfl) (by kernel_rfl) (by kernel_rfl) (fun _ _ _ h => h) (by kernel_rfl) ?_ (by assumption) ?_
      rotate_left
      · intro wx hSw
        obtain ⟨hS1, hS2, hS3, hS4⟩ := hSw
        go_simp
        try (with_reducible rfl)
      try simp only [Act.put, List.setIfInBounds_toArray, List.set_cons_zero, List.set_cons_succ]
      refine wpAnyH_ready (rs := [10]) (by kernel_rfl) (by simp) ?_
      refine AllReadyH.cons rfl (fun K hK => ?_) AllReadyH.nil
      go_simp
      refine (sameInts_any (A k) (A2 k) (L k) (C k) (C2 k) (z k) wr.drew (HLm.out k hlt) (HZ1.out k hlt _ hD) (HZ2.out k hlt _ hD)).mono ?_
      rintro e w1 ⟨rfl, hSm⟩
      have hb1 := hSm.below wr.drew.heap.size
      have hBn := next2 hB.drew hb1
      have cbn := boxed2 hBn
      have s1 := (hSm.cell ⟨g, o + k, none⟩).trans s1
      have s2 := (hSm.cell ⟨g2, o2 + k, none⟩).trans s2
      go_wp2_with fail
      refine hK.out _ _ ⟨cbn.1, cbn.2, s1, s2⟩ (fun hHeld => ?_)
      clear hK K
      try simp only [Act.put, List.setIfInBounds_toArray, List.set_cons_zero, List.set_cons_succ]
      refine takeD (i := 11) (some 61) (v := ?_) rfl rfl (by kernel_rfl) (by kernel_rfl) (by kernel_rfl) (fun _ _ _ h => h) (by kernel_rfl) ?_ (by assumption) ?_
      rotate_left
      · intro wx hSw
        obtain ⟨hS1, hS2, hS3, hS4⟩ := hSw
        go_simp
        try (with_reducible rfl)
      try simp only [Act.put, List.setIfInBounds_toArray, List.set_cons_zero, List.set_cons_succ]
      refine wpAnyH_done (by kernel_rfl) ?_ _
      have HB : Hid (Below (w.heap.size + 2) ((w.alloc (.cells #[.slice aQ nQ cQ, .slice aD nD cD, .int .i64 turn, .bool fresh, .slice (some ⟨g, o, none⟩) nS cS] 49)).alloc (.cells #[.slice aQ2 nQ cQ2, .slice aD2 nD cD2, .int .i64 turn, .bool fresh, .slice (some ⟨g2, o2, none⟩) nS cS2] 49)) w1) := hBn
      clear hBn cbn hb1 hSm s1 s2 hB cb cb0 hD hHeld
      go_wp2_with fail
      go_roundw
      case rel => exact ⟨k + 1, by omega, by go_num, HB.out⟩
      case measure => simp [intOf]; omega
    · obtain rfl : k = nS := by omega
      have hkk : ¬ ((k : Nat) : Int) < ((k : Nat) : Int) := by omega
      have cb := cb0
      clear cb0
      go_wp2_with fail
      go_ret
      exact ⟨rfl, under2 hB⟩
set_option maxRecDepth 100000 in
set_option maxHeartbeats 4000000 in
theorem sameLane_any (l1 l2 : Ln) (w : World) (h : EqL w l1 l2) :
    Calls Try.prog 19 #[.agg l1.cells, .agg l2.cells] w fun e w' => e = .returned (.bool true) ∧ Below w.heap.size w w' := by
  obtain ⟨st, aU, cU, R1⟩ := l1
  obtain ⟨st2, aU2, cU2, R2⟩ := l2
  have e0 : st = st2 := h.st.symm
  subst e0
  have HE : Hid (EqL w ⟨st, aU, cU, R1⟩ ⟨st, aU2, cU2, R2⟩) := h
  have HU1 : Hid (RdRow w aU 2 fun _ => .slice none 0 0) := h.u1
  have HU2 : Hid (RdRow w aU2 2 fun _ => .slice none 0 0) := h.u2
  have hbb : (st != st) = false := by cases st <;> rfl
  have hbb2 : (!(st == st)) = false := by cases st <;> rfl
  have hB : Below (w.heap.size + 2) ((w.alloc (.cells #[.bool st, .slice none 0 0, .slice aU 2 cU, .slice R1.aQ R1.nQ R1.cQ, .slice R1.aD R1.nD R1.cD, .int .i64 R1.turn, .bool R1.fresh, .slice R1.aS R1.nS R1.cS] 51)).alloc (.cells #[.bool st, .slice none 0 0, .slice aU2 2 cU2, .slice R2.aQ R2.nQ R2.cQ, .slice R2.aD R2.nD R2.cD, .int .i64 R2.turn, .bool R2.fresh, .slice R2.aS R2.nS R2.cS] 51)) ((w.alloc (.cells #[.bool st, .slice none 0 0, .slice aU 2 cU, .slice R1.aQ R1.nQ R1.cQ, .slice R1.aD R1.nD R1.cD, .int .i64 R1.turn, .bool R1.fresh, .slice R1.aS R1.nS R1.cS] 51)).alloc (.cells #[.bool st, .slice none 0 0, .slice aU2 2 cU2, .slice R2.aQ R2.nQ R2.cQ, .slice R2.aD R2.nD R2.cD, .int .i64 R2.turn, .bool R2.fresh, .slice R2.aS R2.nS R2.cS] 51)) := Below.refl _ _
  have cb := boxed2 hB
  clear h
  unfold Ln.cells
  dsimp only
  go_enter Try.func19, Try.ntmps19
  go_wp2_with fail
  refine (sameInts_any none none 0 0 0 (fun _ => 0) _ (by omega) (RdRow.nil _ _ _) (RdRow.nil _ _ _)).mono ?_
  rintro e w1 ⟨rfl, hSm⟩
  replace hB := next2 hB (hSm.below _)
  replace cb := boxed2 hB
  clear hSm
  go_wp2_with fail
  refine (sameRound_any R1 R2 _ HE.out.hs (HE.out.h1.up (under2 hB)) (HE.out.h2.up (under2 hB)) HE.out.ha).mono ?_
  rintro e w2 ⟨rfl, hb⟩
  replace hB := next2 hB hb
  replace cb := boxed2 hB
  clear hb
  go_wp2_with fail
  go_loopw [5] (fun i wr => ∃ k : Nat, k ≤ 2 ∧ i = .int .i64 k ∧ Below (w.heap.size + 2) ((w.alloc (.cells #[.bool st, .slice none 0 0, .slice aU 2 cU, .slice R1.aQ R1.nQ R1.cQ, .slice R1.aD R1.nD R1.cD, .int .i64 R1.turn, .bool R1.fresh, .slice R1.aS R1.nS R1.cS] 51)).alloc (.cells #[.bool st, .slice none 0 0, .slice aU2 2 cU2, .slice R2.aQ R2.nQ R2.cQ, .slice R2.aD R2.nD R2.cD, .int .i64 R2.turn, .bool R2.fresh, .slice R2.aS R2.nS R2.cS] 51)) wr) (fun i _ => 2 - (intOf i).toNat)
  case atStart => exact ⟨0, Nat.zero_le _, rfl, hB⟩
  case round =>
    clear hB cb
    obtain ⟨k, hk, rfl, hB⟩ := hrel
    have cb0 := boxed2 hB
    by_cases hlt : k < 2
    · have hlt' : (k : Int) < 2 := by omega
      have hD := under2 hB.drew
      obtain ⟨g, o, rfl, s1⟩ := (HU1.out.up hD) k hlt
      obtain ⟨g2, o2, rfl, s2⟩ := (HU2.out.up hD) k hlt
      have cb := boxed2 hB.drew
      go_wp2_with fail
      refine wp_region_held_drew (S := fun w' => (∀ oo, w'.cell? ⟨w.heap.size, oo, none⟩ = (#[.bool st, .slice none 0 0, .slice (some ⟨g, o, none⟩) 2 cU, .slice R1.aQ R1.nQ R1.cQ, .slice R1.aD R1.nD R1.cD, .int .i64 R1.turn, .bool R1.fresh, .slice R1.aS R1.nS R1.cS] : Array Value)[oo]?) ∧ (∀ oo, w'.cell? ⟨w.heap.size + 1, oo, none⟩ = (#[.bool st, .slice none 0 0, .slice (some ⟨g2, o2, none⟩) 2 cU2, .slice R2.aQ R2.nQ R2.cQ, .slice R2.aD R2.nD R2.cD, .int .i64 R2.turn, .bool R2.fresh, .slice R2.aS R2.nS R2.cS] : Array Value)[oo]?) ∧ w'.cell? ⟨g, o + k, none⟩ = some (.slice none 0 0) ∧ w'.cell? ⟨g2, o2 + k, none⟩ = some (.slice none 0 0)) (by kernel_rfl) ⟨cb.1, cb.2, s1, s2⟩ (fun hHeld => ?_)
      refine takeD (i := 0) (some 43) (v := ?_) rfl rfl (by kernel_rfl) (by kernel_rfl) (by kernel_rfl) (fun _ _ _ h => h) (by kernel_rfl) ?_ (by assumption) ?_
      rotate_left
      · intro wx hSw
        obtain ⟨hS1, hS2, hS3, hS4⟩ := hSw
        go_simp
        try (with_reducible rfl)
      try simp only [Act.put, List.setIfInBounds_toArray, List.set_cons_zero, List.set_cons_succ]
      refine takeD (i := 1) (some 44) (v := ?_) rfl rfl (by kernel_rfl) (by kernel_rfl) (by kernel_rfl) (fun _ _ _ h => h) (by kernel_rfl) ?_ (by assumption) ?_
      rotate_left
      · intro wx hSw
        obtain ⟨hS1, hS2, hS3, hS4⟩ := hSw
        go_simp
        try (with_reducible rfl)
      try simp only [Act.put, List.setIfInBounds_toArray, List.set_cons_zero, List.set_cons_succ]
      refine takeD (i := 2) (some 45) (v := ?_) rfl rfl (by kernel_rfl) (by kernel_rfl) (by kernel_rfl) (fun _ _ _ h => h) (by kernel_rfl) ?_ (by assumption) ?_
      rotate_left
      · intro wx hSw
        obtain ⟨hS1, hS2, hS3, hS4⟩ := hSw
        go_simp
        try (with_reducible rfl)
      try simp only [Act.put, List.setIfInBounds_toArray, List.set_cons_zero, List.set_cons_succ]
      refine takeD (i := 3) (some 46) (v := ?_) rfl rfl (by kernel_rfl) (by kernel_rfl) (by kernel_rfl) (fun _ _ _ h => h) (by kernel_rfl) ?_ (by assumption) ?_
      rotate_left
      · intro wx hSw
        obtain ⟨hS1, hS2, hS3, hS4⟩ := hSw
        go_simp
        try (with_reducible rfl)
      try simp only [Act.put, List.setIfInBounds_toArray, List.set_cons_zero, List.set_cons_succ]
      refine takeD (i := 4) (some 47) (v := ?_) rfl rfl (by kernel_rfl) (by kernel_rfl) (by kernel_rfl) (fun _ _ _ h => h) (by kernel_rfl) ?_ (by assumption) ?_
      rotate_left
      · intro wx hSw
        obtain ⟨hS1, hS2, hS3, hS4⟩ := hSw
        go_simp
        try (with_reducible rfl)
      try simp only [Act.put, List.setIfInBounds_toArray, List.set_cons_zero, List.set_cons_succ]
      refine takeD (i := 5) (some 48) (v := ?_) rfl rfl (by kernel_rfl) (by kernel_rfl) (by kernel_rfl) (fun _ _ _ h => h) (by kernel_rfl) ?_ (by assumption) ?_
      rotate_left
      · intro wx hSw
        obtain ⟨hS1, hS2, hS3, hS4⟩ := hSw
        go_simp
        try (with_reducible rfl)
      try simp only [Act.put, List.setIfInBounds_toArray, List.set_cons_zero, List.set_cons_succ]
      refine takeD (i := 6) (some 49) (v := ?_) rfl rfl (by kernel_rfl) (by kernel_rfl) (by kernel_rfl) (fun _ _ _ h => h) (by kernel_rfl) ?_ (by assumption) ?_
      rotate_left
      · intro wx hSw
        obtain ⟨hS1, hS2, hS3, hS4⟩ := hSw
        go_simp
        try (with_reducible rfl)
      try simp only [Act.put, List.setIfInBounds_toArray, List.set_cons_zero, List.set_cons_succ]
      refine takeD (i := 7) (some 50) (v := ?_) rfl rfl (by kernel_rfl) (by kernel_rfl) (by kernel_rfl) (fun _ _ _ h => h) (by kernel_rfl) ?_ (by assumption) ?_
      rotate_left
      · intro wx hSw
        obtain ⟨hS1, hS2, hS3, hS4⟩ := hSw
        go_simp
        try (with_reducible rfl)
      try simp only [Act.put, List.setIfInBounds_toArray, List.set_cons_zero, List.set_cons_succ]
      refine takeD (i := 8) (some 51) (v := ?_) rfl rfl (by kernel_rfl) (by kernel_rfl) (by kernel_rfl) (fun _ _ _ h => h) (by kernel_rfl) ?_ (by assumption) ?_
      rotate_left
      · intro wx hSw
        obtain ⟨hS1, hS2, hS3, hS4⟩ := hSw
        go_simp
        try (with_reducible rfl)
      try simp only [Act.put, List.setIfInBounds_toArray, List.set_cons_zero, List.set_cons_succ]
      refine takeD (i := 9) (some 52) (v := ?_) rfl rfl (by kernel_rfl) (by kernel_rfl) (by kernel_rfl) (fun _ _ _ h => h) (by kernel_rfl) ?_ (by assumption) ?_
      rotate_left
      · intro wx hSw
        obtain ⟨hS1, hS2, hS3, hS4⟩ := hSw
        go_simp
        try (with_reducible rfl)
      try simp only [Act.put, List.setIfInBounds_toArray, List.set_cons_zero, List.set_cons_succ]
      refine wpAnyH_ready (rs := [10]) (by kernel_rfl) (by simp) ?_
      refine AllReadyH.cons rfl (fun K hK => ?_) AllReadyH.nil
      go_simp
      refine (sameInts_any none none 0 0 0 (fun _ => 0) wr.drew (by omega) (RdRow.nil _ _ _) (RdRow.nil _ _ _)).mono ?_
      rintro e w1 ⟨rfl, hSm⟩
      have hb1 := hSm.below wr.drew.heap.size
      have hBn := next2 hB.drew hb1
      have cbn := boxed2 hBn
      have s1 := (hSm.cell ⟨g, o + k, none⟩).trans s1
      have s2 := (hSm.cell ⟨g2, o2 + k, none⟩).trans s2
      go_wp2_with fail
      refine hK.out _ _ ⟨cbn.1, cbn.2, s1, s2⟩ (fun hHeld => ?_)
      clear hK K
      try simp only [Act.put, List.setIfInBounds_toArray, List.set_cons_zero, List.set_cons_succ]
      refine takeD (i := 11) (some 54) (v := ?_) rfl rfl (by kernel_rfl) (by kernel_rfl) (by kernel_rfl) (fun _ _ _ h => h) (by kernel_rfl) ?_ (by assumption) ?_
      rotate_left
      · intro wx hSw
        obtain ⟨hS1, hS2, hS3, hS4⟩ := hSw
        go_simp
        try (with_reducible rfl)
      try simp only [Act.put, List.setIfInBounds_toArray, List.set_cons_zero, List.set_cons_succ]
      refine wpAnyH_done (by kernel_rfl) ?_ _
      have HB : Hid (Below (w.heap.size + 2) ((w.alloc (.cells #[.bool st, .slice none 0 0, .slice (some ⟨g, o, none⟩) 2 cU, .slice R1.aQ R1.nQ R1.cQ, .slice R1.aD R1.nD R1.cD, .int .i64 R1.turn, .bool R1.fresh, .slice R1.aS R1.nS R1.cS] 51)).alloc (.cells #[.bool st, .slice none 0 0, .slice (some ⟨g2, o2, none⟩) 2 cU2, .slice R2.aQ R2.nQ R2.cQ, .slice R2.aD R2.nD R2.cD, .int .i64 R2.turn, .bool R2.fresh, .slice R2.aS R2.nS R2.cS] 51)) w1) := hBn
      clear hBn cbn hb1 hSm s1 s2 hB cb cb0 hD hHeld
      go_wp2_with fail
      go_roundw
      case rel => exact ⟨k + 1, by omega, by go_num, HB.out⟩
      case measure => simp [intOf]; omega
    · have e2 : k = 2 := by omega
      subst e2
      have cb := cb0
      clear cb0
      go_wp2_with fail
      go_ret
      exact ⟨rfl, under2 hB⟩
theorem mkEqL {w : World} {A B : Sw} (hs : A.Small) (hA : RdSw w A) (hB : RdSw w B) (h : AlikeS A B) : ∀ i, i < A.nL → EqL w (A.L i) (B.L i) :=
  fun i hi => ⟨(h.l i hi).1, hA.u i hi, hB.u i (by rw [h.k]; exact hi), hs.r i hi, hA.r i hi, hB.r i (by rw [h.k]; exact hi), (h.l i hi).2⟩
set_option maxRecDepth 100000 in
set_option maxHeartbeats 8000000 in
theorem sameSwitch_any (A B : Sw) (w : World) (hs : A.Small) (hA : RdSw w A) (hB : RdSw w B) (h : AlikeS A B) :
    Calls Try.prog 9 #[.agg A.cells, .agg B.cells] w fun e w' => e = .returned (.bool true) ∧ Below w.heap.size w w' := by
  have HE : Hid (∀ i, i < A.nL → EqL w (A.L i) (B.L i)) := mkEqL hs hA hB h
  obtain ⟨C, nx, N, aL, nL, cL, L⟩ := A
  obtain ⟨C2, nx2, N2, aL2, nL2, cL2, L2⟩ := B
  obtain ⟨e1, e2, e3, e4, e5⟩ := h
  dsimp only at e1 e2 e3 e4 e5 HE
  replace e1 := e1.symm
  replace e2 := e2.symm
  replace e4 := e4.symm
  subst e1 e2 e4
  have HNs : Hid N.Small := hs.n
  have HN1 : Hid (RdCnt w N) := hA.n
  have HN2 : Hid (RdCnt w N2) := hB.n
  have HNA : Hid (AlikeC N N2) := e3
  have HL1 : Hid (RdLn w aL nL L) := hA.l
  have HL2 : Hid (RdLn w aL2 nL L2) := hB.l
  have hk4 : nL ≤ 4 := hs.k
  clear hs hA hB e3 e5
  have hB : Below (w.heap.size + 2) ((w.alloc (.cells #[.int .i64 C.p, .int .i64 C.c, .int .i64 C.xo, .int .i64 C.xn, .int .i64 C.hd, .int .i64 C.lo, .int .i64 C.dl, .int .i64 0, .int .i64 nx, .slice none 0 0, .slice N.aU N.nU N.cU, .int .i64 N.lo, .slice N.aP N.nP N.cP, .slice none 0 0, .slice aL nL cL, .int .i64 0, .int .i64 0] 35)).alloc (.cells #[.int .i64 C.p, .int .i64 C.c, .int .i64 C.xo, .int .i64 C.xn, .int .i64 C.hd, .int .i64 C.lo, .int .i64 C.dl, .int .i64 0, .int .i64 nx, .slice none 0 0, .slice N2.aU N2.nU N2.cU, .int .i64 N2.lo, .slice N2.aP N2.nP N2.cP, .slice none 0 0, .slice aL2 nL cL2, .int .i64 0, .int .i64 0] 35)) ((w.alloc (.cells #[.int .i64 C.p, .int .i64 C.c, .int .i64 C.xo, .int .i64 C.xn, .int .i64 C.hd, .int .i64 C.lo, .int .i64 C.dl, .int .i64 0, .int .i64 nx, .slice none 0 0, .slice N.aU N.nU N.cU, .int .i64 N.lo, .slice N.aP N.nP N.cP, .slice none 0 0, .slice aL nL cL, .int .i64 0, .int .i64 0] 35)).alloc (.cells #[.int .i64 C.p, .int .i64 C.c, .int .i64 C.xo, .int .i64 C.xn, .int .i64 C.hd, .int .i64 C.lo, .int .i64 C.dl, .int .i64 0, .int .i64 nx, .slice none 0 0, .slice N2.aU N2.nU N2.cU, .int .i64 N2.lo, .slice N2.aP N2.nP N2.cP, .slice none 0 0, .slice aL2 nL cL2, .int .i64 0, .int .i64 0] 35)) := Below.refl _ _
  have cb := boxed2 hB
  unfold Sw.cells
  dsimp only
  go_enter Try.func9, Try.ntmps9
  go_wp2_with fail
  refine (sameNoEntries_any _).mono ?_
  rintro e w2 ⟨rfl, rfl⟩
  go_wp2_with fail
  refine (sameCounts_any N N2 _ HNs.out (HN1.out.up (under2 hB)) (HN2.out.up (under2 hB)) HNA.out).mono ?_
  rintro e w3 ⟨rfl, hb⟩
  replace hB := next2 hB hb
  replace cb := boxed2 hB
  clear hb
  go_wp2_with fail
  go_loopw [5] (fun i wr => i = .int .i64 0 ∧ wr = w3) (fun i _ => 0)
  case atStart => exact ⟨rfl, rfl⟩
  case round =>
    obtain ⟨rfl, rfl⟩ := hrel
    go_wp2_with fail
    go_loopw [6] (fun i wr => ∃ k : Nat, k ≤ nL ∧ i = .int .i64 k ∧ Below (w.heap.size + 2) ((w.alloc (.cells #[.int .i64 C.p, .int .i64 C.c, .int .i64 C.xo, .int .i64 C.xn, .int .i64 C.hd, .int .i64 C.lo, .int .i64 C.dl, .int .i64 0, .int .i64 nx, .slice none 0 0, .slice N.aU N.nU N.cU, .int .i64 N.lo, .slice N.aP N.nP N.cP, .slice none 0 0, .slice aL nL cL, .int .i64 0, .int .i64 0] 35)).alloc (.cells #[.int .i64 C.p, .int .i64 C.c, .int .i64 C.xo, .int .i64 C.xn, .int .i64 C.hd, .int .i64 C.lo, .int .i64 C.dl, .int .i64 0, .int .i64 nx, .slice none 0 0, .slice N2.aU N2.nU N2.cU, .int .i64 N2.lo, .slice N2.aP N2.nP N2.cP, .slice none 0 0, .slice aL2 nL cL2, .int .i64 0, .int .i64 0] 35)) wr) (fun i _ => nL - (intOf i).toNat)
    case atStart => exact ⟨0, Nat.zero_le _, rfl, hB⟩
    case round =>
      clear hB cb
      obtain ⟨k, hk, rfl, hB⟩ := hrel
      have cb0 := boxed2 hB
      by_cases hlt : k < nL
      · have hlt' : (k : Int) < nL := by omega
        have hD := under2 hB.drew
        obtain ⟨g, o, rfl, Ca⟩ := (HL1.out.up hD) k hlt
        obtain ⟨g2, o2, rfl, Da⟩ := (HL2.out.up hD) k hlt
        have HE2 : Hid (EqL wr.drew (L k) (L2 k)) := (HE.out k hlt).up hD
        generalize L k = l1 at *
        generalize L2 k = l2 at *
        have c0 : wr.drew.cell? ⟨g, o + k * 8, none⟩ = some (.bool l1.st) := Ca 0 (by omega)
        have d0 : wr.drew.cell? ⟨g2, o2 + k * 8, none⟩ = some (.bool l2.st) := Da 0 (by omega)
        have c1 : wr.drew.cell? ⟨g, o + k * 8 + 1, none⟩ = some (.slice none 0 0) := Ca 1 (by omega)
        have d1 : wr.drew.cell? ⟨g2, o2 + k * 8 + 1, none⟩ = some (.slice none 0 0) := Da 1 (by omega)
        have c2 : wr.drew.cell? ⟨g, o + k * 8 + 2, none⟩ = some (.slice l1.aU 2 l1.cU) := Ca 2 (by omega)
        have d2 : wr.drew.cell? ⟨g2, o2 + k * 8 + 2, none⟩ = some (.slice l2.aU 2 l2.cU) := Da 2 (by omega)
        have c3 : wr.drew.cell? ⟨g, o + k * 8 + 3, none⟩ = some (.slice l1.R.aQ l1.R.nQ l1.R.cQ) := Ca 3 (by omega)
        have d3 : wr.drew.cell? ⟨g2, o2 + k * 8 + 3, none⟩ = some (.slice l2.R.aQ l2.R.nQ l2.R.cQ) := Da 3 (by omega)
        have c4 : wr.drew.cell? ⟨g, o + k * 8 + 4, none⟩ = some (.slice l1.R.aD l1.R.nD l1.R.cD) := Ca 4 (by omega)
        have d4 : wr.drew.cell? ⟨g2, o2 + k * 8 + 4, none⟩ = some (.slice l2.R.aD l2.R.nD l2.R.cD) := Da 4 (by omega)
        have c5 : wr.drew.cell? ⟨g, o + k * 8 + 5, none⟩ = some (.int .i64 l1.R.turn) := Ca 5 (by omega)
        have d5 : wr.drew.cell? ⟨g2, o2 + k * 8 + 5, none⟩ = some (.int .i64 l2.R.turn) := Da 5 (by omega)
        have c6 : wr.drew.cell? ⟨g, o + k * 8 + 6, none⟩ = some (.bool l1.R.fresh) := Ca 6 (by omega)
        have d6 : wr.drew.cell? ⟨g2, o2 + k * 8 + 6, none⟩ = some (.bool l2.R.fresh) := Da 6 (by omega)
        have c7 : wr.drew.cell? ⟨g, o + k * 8 + 7, none⟩ = some (.slice l1.R.aS l1.R.nS l1.R.cS) := Ca 7 (by omega)
        have d7 : wr.drew.cell? ⟨g2, o2 + k * 8 + 7, none⟩ = some (.slice l2.R.aS l2.R.nS l2.R.cS) := Da 7 (by omega)
        clear Ca Da
        have cb := boxed2 hB.drew
        go_wp2_with fail
        refine wp_region_held_drew (S := fun w' => (∀ oo, w'.cell? ⟨w.heap.size, oo, none⟩ = (#[.int .i64 C.p, .int .i64 C.c, .int .i64 C.xo, .int .i64 C.xn, .int .i64 C.hd, .int .i64 C.lo, .int .i64 C.dl, .int .i64 0, .int .i64 nx, .slice none 0 0, .slice N.aU N.nU N.cU, .int .i64 N.lo, .slice N.aP N.nP N.cP, .slice none 0 0, .slice (some ⟨g, o, none⟩) nL cL, .int .i64 0, .int .i64 0] : Array Value)[oo]?) ∧ (∀ oo, w'.cell? ⟨w.heap.size + 1, oo, none⟩ = (#[.int .i64 C.p, .int .i64 C.c, .int .i64 C.xo, .int .i64 C.xn, .int .i64 C.hd, .int .i64 C.lo, .int .i64 C.dl, .int .i64 0, .int .i64 nx, .slice none 0 0, .slice N2.aU N2.nU N2.cU, .int .i64 N2.lo, .slice N2.aP N2.nP N2.cP, .slice none 0 0, .slice (some ⟨g2, o2, none⟩) nL cL2, .int .i64 0, .int .i64 0] : Array Value)[oo]?) ∧ w'.cell? ⟨g, o + k * 8, none⟩ = some (.bool l1.st) ∧ w'.cell? ⟨g, o + k * 8 + 1, none⟩ = some (.slice none 0 0) ∧ w'.cell? ⟨g, o + k * 8 + 2, none⟩ = some (.slice l1.aU 2 l1.cU) ∧ w'.cell? ⟨g, o + k * 8 + 3, none⟩ = some (.slice l1.R.aQ l1.R.nQ l1.R.cQ) ∧ w'.cell? ⟨g, o + k * 8 + 4, none⟩ = some (.slice l1.R.aD l1.R.nD l1.R.cD) ∧ w'.cell? ⟨g, o + k * 8 + 5, none⟩ = some (.int .i64 l1.R.turn) ∧ w'.cell? ⟨g, o + k * 8 + 6, none⟩ = some (.bool l1.R.fresh) ∧ w'.cell? ⟨g, o + k * 8 + 7, none⟩ = some (.slice l1.R.aS l1.R.nS l1.R.cS) ∧ w'.cell? ⟨g2, o2 + k * 8, none⟩ = some (.bool l2.st) ∧ w'.cell? ⟨g2, o2 + k * 8 + 1, none⟩ = some (.slice none 0 0) ∧ w'.cell? ⟨g2, o2 + k * 8 + 2, none⟩ = some (.slice l2.aU 2 l2.cU) ∧ w'.cell? ⟨g2, o2 + k * 8 + 3, none⟩ = some (.slice l2.R.aQ l2.R.nQ l2.R.cQ) ∧ w'.cell? ⟨g2, o2 + k * 8 + 4, none⟩ = some (.slice l2.R.aD l2.R.nD l2.R.cD) ∧ w'.cell? ⟨g2, o2 + k * 8 + 5, none⟩ = some (.int .i64 l2.R.turn) ∧ w'.cell? ⟨g2, o2 + k * 8 + 6, none⟩ = some (.bool l2.R.fresh) ∧ w'.cell? ⟨g2, o2 + k * 8 + 7, none⟩ = some (.slice l2.R.aS l2.R.nS l2.R.cS)) (by kernel_rfl) ⟨cb.1, cb.2, c0, c1, c2, c3, c4, c5, c6, c7, d0, d1, d2, d3, d4, d5, d6, d7⟩ (fun hHeld => ?_)
        refine takeD (i := 0) (some 99) (v := ?_) rfl rfl (by kernel_rfl) (by kernel_rfl) (by kernel_rfl) (fun _ _ _ h => h) (by kernel_rfl) ?_ (by assumption) ?_
        rotate_left
        · intro wx hSw
          obtain ⟨hS1, hS2, hS3, hS4, hS5, hS6, hS7, hS8, hS9, hS10, hS11, hS12, hS13, hS14, hS15, hS16, hS17, hS18⟩ := hSw
          go_simp
          try (with_reducible rfl)
        try simp only [Act.put, List.setIfInBounds_toArray, List.set_cons_zero, List.set_cons_succ]
        refine takeD (i := 1) (some 100) (v := ?_) rfl rfl (by kernel_rfl) (by kernel_rfl) (by kernel_rfl) (fun _ _ _ h => h) (by kernel_rfl) ?_ (by assumption) ?_
        rotate_left
        · intro wx hSw
          obtain ⟨hS1, hS2, hS3, hS4, hS5, hS6, hS7, hS8, hS9, hS10, hS11, hS12, hS13, hS14, hS15, hS16, hS17, hS18⟩ := hSw
          go_simp
          try (with_reducible rfl)
        try simp only [Act.put, List.setIfInBounds_toArray, List.set_cons_zero, List.set_cons_succ]
        refine takeD (i := 2) (some 101) (v := ?_) rfl rfl (by kernel_rfl) (by kernel_rfl) (by kernel_rfl) (fun _ _ _ h => h) (by kernel_rfl) ?_ (by assumption) ?_
        rotate_left
        · intro wx hSw
          obtain ⟨hS1, hS2, hS3, hS4, hS5, hS6, hS7, hS8, hS9, hS10, hS11, hS12, hS13, hS14, hS15, hS16, hS17, hS18⟩ := hSw
          go_simp
          try (with_reducible rfl)
        try simp only [Act.put, List.setIfInBounds_toArray, List.set_cons_zero, List.set_cons_succ]
        refine takeD (i := 3) (some 102) (v := ?_) rfl rfl (by kernel_rfl) (by kernel_rfl) (by kernel_rfl) (fun _ _ _ h => h) (by kernel_rfl) ?_ (by assumption) ?_
        rotate_left
        · intro wx hSw
          obtain ⟨hS1, hS2, hS3, hS4, hS5, hS6, hS7, hS8, hS9, hS10, hS11, hS12, hS13, hS14, hS15, hS16, hS17, hS18⟩ := hSw
          go_simp
          try (with_reducible rfl)
        try simp only [Act.put, List.setIfInBounds_toArray, List.set_cons_zero, List.set_cons_succ]
        refine takeD (i := 4) (some 103) (v := ?_) rfl rfl (by kernel_rfl) (by kernel_rfl) (by kernel_rfl) (fun _ _ _ h => h) (by kernel_rfl) ?_ (by assumption) ?_
        rotate_left
        · intro wx hSw
          obtain ⟨hS1, hS2, hS3, hS4, hS5, hS6, hS7, hS8, hS9, hS10, hS11, hS12, hS13, hS14, hS15, hS16, hS17, hS18⟩ := hSw
          go_simp
          try (with_reducible rfl)
        try simp only [Act.put, List.setIfInBounds_toArray, List.set_cons_zero, List.set_cons_succ]
        refine takeD (i := 5) (some 104) (v := ?_) rfl rfl (by kernel_rfl) (by kernel_rfl) (by kernel_rfl) (fun _ _ _ h => h) (by kernel_rfl) ?_ (by assumption) ?_
        rotate_left
        · intro wx hSw
          obtain ⟨hS1, hS2, hS3, hS4, hS5, hS6, hS7, hS8, hS9, hS10, hS11, hS12, hS13, hS14, hS15, hS16, hS17, hS18⟩ := hSw
          go_simp
          try (with_reducible rfl)
        try simp only [Act.put, List.setIfInBounds_toArray, List.set_cons_zero, List.set_cons_succ]
        refine takeD (i := 6) (some 105) (v := ?_) rfl rfl (by kernel_rfl) (by kernel_rfl) (by kernel_rfl) (fun _ _ _ h => h) (by kernel_rfl) ?_ (by assumption) ?_
        rotate_left
        · intro wx hSw
          obtain ⟨hS1, hS2, hS3, hS4, hS5, hS6, hS7, hS8, hS9, hS10, hS11, hS12, hS13, hS14, hS15, hS16, hS17, hS18⟩ := hSw
          go_simp
          try (with_reducible rfl)
        try simp only [Act.put, List.setIfInBounds_toArray, List.set_cons_zero, List.set_cons_succ]
        refine takeD (i := 7) (some 106) (v := ?_) rfl rfl (by kernel_rfl) (by kernel_rfl) (by kernel_rfl) (fun _ _ _ h => h) (by kernel_rfl) ?_ (by assumption) ?_
        rotate_left
        · intro wx hSw
          obtain ⟨hS1, hS2, hS3, hS4, hS5, hS6, hS7, hS8, hS9, hS10, hS11, hS12, hS13, hS14, hS15, hS16, hS17, hS18⟩ := hSw
          go_simp
          try (with_reducible rfl)
        try simp only [Act.put, List.setIfInBounds_toArray, List.set_cons_zero, List.set_cons_succ]
        refine takeD (i := 8) (some 107) (v := ?_) rfl rfl (by kernel_rfl) (by kernel_rfl) (by kernel_rfl) (fun _ _ _ h => h) (by kernel_rfl) ?_ (by assumption) ?_
        rotate_left
        · intro wx hSw
          obtain ⟨hS1, hS2, hS3, hS4, hS5, hS6, hS7, hS8, hS9, hS10, hS11, hS12, hS13, hS14, hS15, hS16, hS17, hS18⟩ := hSw
          go_simp
          try (with_reducible rfl)
        try simp only [Act.put, List.setIfInBounds_toArray, List.set_cons_zero, List.set_cons_succ]
        refine takeD (i := 9) (some 108) (v := ?_) rfl rfl (by kernel_rfl) (by kernel_rfl) (by kernel_rfl) (fun _ _ _ h => h) (by kernel_rfl) ?_ (by assumption) ?_
        rotate_left
        · intro wx hSw
          obtain ⟨hS1, hS2, hS3, hS4, hS5, hS6, hS7, hS8, hS9, hS10, hS11, hS12, hS13, hS14, hS15, hS16, hS17, hS18⟩ := hSw
          go_simp
          try (with_reducible rfl)
        try simp only [Act.put, List.setIfInBounds_toArray, List.set_cons_zero, List.set_cons_succ]
        refine wpAnyH_ready (rs := [10]) (by kernel_rfl) (by simp) ?_
        refine AllReadyH.cons rfl (fun K hK => ?_) AllReadyH.nil
        go_simp
        refine (sameLane_any l1 l2 wr.drew HE2.out).mono ?_
        rintro e w1 ⟨rfl, hb1⟩
        have hBn := next2 hB.drew hb1
        have cbn := boxed2 hBn
        have c0 := (hb1.cell (p := ⟨g, o + k * 8, none⟩) (cellLt c0)).trans c0
        have d0 := (hb1.cell (p := ⟨g2, o2 + k * 8, none⟩) (cellLt d0)).trans d0
        have c1 := (hb1.cell (p := ⟨g, o + k * 8 + 1, none⟩) (cellLt c1)).trans c1
        have d1 := (hb1.cell (p := ⟨g2, o2 + k * 8 + 1, none⟩) (cellLt d1)).trans d1
        have c2 := (hb1.cell (p := ⟨g, o + k * 8 + 2, none⟩) (cellLt c2)).trans c2
        have d2 := (hb1.cell (p := ⟨g2, o2 + k * 8 + 2, none⟩) (cellLt d2)).trans d2
        have c3 := (hb1.cell (p := ⟨g, o + k * 8 + 3, none⟩) (cellLt c3)).trans c3
        have d3 := (hb1.cell (p := ⟨g2, o2 + k * 8 + 3, none⟩) (cellLt d3)).trans d3
        have c4 := (hb1.cell (p := ⟨g, o + k * 8 + 4, none⟩) (cellLt c4)).trans c4
        have d4 := (hb1.cell (p := ⟨g2, o2 + k * 8 + 4, none⟩) (cellLt d4)).trans d4
        have c5 := (hb1.cell (p := ⟨g, o + k * 8 + 5, none⟩) (cellLt c5)).trans c5
        have d5 := (hb1.cell (p := ⟨g2, o2 + k * 8 + 5, none⟩) (cellLt d5)).trans d5
        have c6 := (hb1.cell (p := ⟨g, o + k * 8 + 6, none⟩) (cellLt c6)).trans c6
        have d6 := (hb1.cell (p := ⟨g2, o2 + k * 8 + 6, none⟩) (cellLt d6)).trans d6
        have c7 := (hb1.cell (p := ⟨g, o + k * 8 + 7, none⟩) (cellLt c7)).trans c7
        have d7 := (hb1.cell (p := ⟨g2, o2 + k * 8 + 7, none⟩) (cellLt d7)).trans d7
        go_wp2_with fail
        refine hK.out _ _ ⟨cbn.1, cbn.2, c0, c1, c2, c3, c4, c5, c6, c7, d0, d1, d2, d3, d4, d5, d6, d7⟩ (fun hHeld => ?_)
        clear hK K
        try simp only [Act.put, List.setIfInBounds_toArray, List.set_cons_zero, List.set_cons_succ]
        refine takeD (i := 11) (some 110) (v := ?_) rfl rfl (by kernel_rfl) (by kernel_rfl) (by kernel_rfl) (fun _ _ _ h => h) (by kernel_rfl) ?_ (by assumption) ?_
        rotate_left
        · intro wx hSw
          obtain ⟨hS1, hS2, hS3, hS4, hS5, hS6, hS7, hS8, hS9, hS10, hS11, hS12, hS13, hS14, hS15, hS16, hS17, hS18⟩ := hSw
          go_simp
          try (with_reducible rfl)
        try simp only [Act.put, List.setIfInBounds_toArray, List.set_cons_zero, List.set_cons_succ]
        refine wpAnyH_done (by kernel_rfl) ?_ _
        have HB : Hid (Below (w.heap.size + 2) ((w.alloc (.cells #[.int .i64 C.p, .int .i64 C.c, .int .i64 C.xo, .int .i64 C.xn, .int .i64 C.hd, .int .i64 C.lo, .int .i64 C.dl, .int .i64 0, .int .i64 nx, .slice none 0 0, .slice N.aU N.nU N.cU, .int .i64 N.lo, .slice N.aP N.nP N.cP, .slice none 0 0, .slice (some ⟨g, o, none⟩) nL cL, .int .i64 0, .int .i64 0] 35)).alloc (.cells #[.int .i64 C.p, .int .i64 C.c, .int .i64 C.xo, .int .i64 C.xn, .int .i64 C.hd, .int .i64 C.lo, .int .i64 C.dl, .int .i64 0, .int .i64 nx, .slice none 0 0, .slice N2.aU N2.nU N2.cU, .int .i64 N2.lo, .slice N2.aP N2.nP N2.cP, .slice none 0 0, .slice (some ⟨g2, o2, none⟩) nL cL2, .int .i64 0, .int .i64 0] 35)) w1) := hBn
        clear hBn cbn hb1 hB cb cb0 hD hHeld c0 c1 c2 c3 c4 c5 c6 c7 d0 d1 d2 d3 d4 d5 d6 d7
        go_wp2_with fail
        go_roundw
        case rel => exact ⟨k + 1, by omega, by go_num, HB.out⟩
        case measure => simp [intOf]; omega
      · obtain rfl : k = nL := by omega
        have hkk : ¬ ((k : Nat) : Int) < ((k : Nat) : Int) := by omega
        have cb := cb0
        clear cb0
        go_wp2_with fail
        go_ret
        exact ⟨rfl, under2 hB⟩
end Go.Proofs.Ytaiodombphpcgaa
