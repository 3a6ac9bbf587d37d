/- What the exact laws on rounds do first: measure a round, copy it, hold two against each other. -/
import Derived.Test.YtapmhpdcgghihaaRn
import Derived.Test.YtapmhpdcgghihaaIntS
namespace Go.Proofs.Ytapmhpdcgghihaa
open Go.RowKit
set_option linter.unusedVariables false
set_option linter.unusedSimpArgs false

theorem szIntss_any (a : Option Addr) (n cap : Nat) (A : Nat → Option Addr) (L C : Nat → Nat) (left : Int) (w : World) (hn : n ≤ maxLen) (h0 : 0 ≤ left) (h1 : left ≤ 1048576) (h : RdRow w a n fun i => .slice (A i) (L i) (C i)) (hl : ∀ i, i < n → L i ≤ maxLen) :
    Calls Try.prog 28 #[.slice a n cap, .int .i64 left] w fun e w' => (∃ r : Int, e = .returned (.int .i64 r) ∧ (r = -1 ∨ 0 ≤ r ∧ r ≤ left ∧ n ≤ 1048576 ∧ ∀ i, i < n → L i ≤ 1048576)) ∧ w = w' := by
  have hm : (n : Int) ≤ 9223372036854775807 := by unfold maxLen at hn; omega
  have HR : Hid (RdRow w a n fun i => .slice (A i) (L i) (C i)) := h
  have HL : Hid (∀ i, i < n → L i ≤ maxLen) := hl
  clear h hl
  by_cases h2 : left - n < 0
  · go_enter Try.func28, Try.ntmps28
    go_wp2_with fail
    go_ret
    exact ⟨⟨_, rfl, .inl rfl⟩, rfl⟩
  · go_enter Try.func28, Try.ntmps28
    go_wp2_with fail
    go_loop [1, 5] (fun x i => ∃ (k : Nat) (r : Int), k ≤ n ∧ i = .int .i64 k ∧ x = .int .i64 r ∧ 0 ≤ r ∧ r ≤ left ∧ ∀ j, j < k → L j ≤ 1048576) (fun _ i => n - (intOf i).toNat)
    case atStart => exact ⟨0, left - n, Nat.zero_le _, rfl, rfl, by omega, by omega, fun j hj => by omega⟩
    case round =>
      obtain ⟨k, r, hk, rfl, rfl, r0, r1, hall⟩ := hrel
      have HA : Hid (∀ j, j < k → L j ≤ 1048576) := hall
      clear hall
      by_cases hlt : k < n
      · have hlt' : (k : Int) < n := by omega
        obtain ⟨g, o, rfl, hc⟩ := HR.out k hlt
        dsimp only at hc
        go_wp2_with fail
        refine (szInts_any (A k) (L k) (C k) r _ (HL.out k hlt) r0 (by omega)).mono ?_
        rintro e w1 ⟨⟨r', rfl, hr⟩, rfl⟩
        rcases hr with rfl | ⟨r0', r1', hn'⟩
        · go_wp2_with fail
          go_ret
          exact ⟨⟨_, rfl, .inl rfl⟩, rfl⟩
        · have HN : Hid (L k ≤ 1048576) := hn'
          have hr0 : ¬ r' < 0 := by omega
          clear hn'
          go_wp2_with fail
          go_round
          case rel => exact ⟨k + 1, r', by omega, by go_num, rfl, r0', by omega, fun j hj => by
            by_cases e : j = k
            · subst e; exact HN.out
            · exact HA.out j (by omega)⟩
          case measure => simp [intOf]; omega
      · obtain rfl : k = n := by omega
        go_wp2_with fail
        go_ret
        exact ⟨⟨_, rfl, .inr ⟨r0, r1, by omega, HA.out⟩⟩, rfl⟩

structure Rnd.Small (R : Rnd) : Prop where
  q : R.nQ ≤ 1048576
  d : R.nD ≤ 1048576
  s : R.nS ≤ 1048576
  l : ∀ i, i < R.nS → R.L i ≤ 1048576
theorem szRound_any (R : Rnd) (w : World) (hf : R.Fit) (h : RdRnd w R) :
    Calls Try.prog 8 #[.agg R.cells, .int .i64 1048576] w fun e w' => (∃ r : Int, e = .returned (.int .i64 r) ∧ (r = -1 ∨ 0 ≤ r ∧ R.Small)) ∧ Below w.heap.size w w' := by
  have HA : Hid (∀ o, Below w.heap.size w (w.alloc o)) := fun o => (Below.refl _ _).alloc (Nat.le_refl _) _
  have HR : Hid (RdRnd w R) := h
  have HF : Hid R.Fit := hf
  clear h hf
  unfold Rnd.cells
  go_enter Try.func8, Try.ntmps8
  go_wp2_with fail
  refine (szInts_any R.aQ R.nQ R.cQ 1048576 _ HF.out.q (by omega) (by omega)).mono ?_
  rintro e w1 ⟨⟨r, rfl, hr⟩, rfl⟩
  rcases hr with rfl | ⟨r0, r1, hn1⟩
  · go_wp2_with fail
    go_ret
    exact ⟨⟨_, rfl, .inl rfl⟩, HA.out _⟩
  have hr0 : ¬ r < 0 := by omega
  go_wp2_with fail
  refine (szInts_any R.aD R.nD R.cD r _ HF.out.d r0 r1).mono ?_
  rintro e w2 ⟨⟨r2, rfl, hr2⟩, rfl⟩
  rcases hr2 with rfl | ⟨r20, r21, hn2⟩
  · go_wp2_with fail
    go_ret
    exact ⟨⟨_, rfl, .inl rfl⟩, HA.out _⟩
  have hr20 : ¬ r2 < 0 := by omega
  go_wp2_with fail
  refine (szIntss_any R.aS R.nS R.cS R.A R.L R.C r2 _ HF.out.s r20 (by omega) (HR.out.s.up (HA.out _)) HF.out.l).mono ?_
  rintro e w3 ⟨⟨r3, rfl, hr3⟩, rfl⟩
  rcases hr3 with rfl | ⟨r30, r31, hn3, hl3⟩
  · go_wp2_with fail
    go_ret
    exact ⟨⟨_, rfl, .inl rfl⟩, HA.out _⟩
  have hr30 : ¬ r3 < 0 := by omega
  have HS : Hid R.Small := ⟨hn1, hn2, hn3, hl3⟩
  clear hl3
  go_wp2_with fail
  go_ret
  exact ⟨⟨_, rfl, .inr ⟨r30, HS.out⟩⟩, HA.out _⟩

theorem info22 : (Try.prog.info? 22).map (fun i => (i.zero, i.size, i.bytes)) = some (some (.slice none 0 0), 1, 24) := by kernel_rfl
def zSls (n : Nat) : Array Value := madeCells #[.slice none 0 0] n
theorem make_sls (n : Nat) (hn : n ≤ 1048576) (w : World) : (Instr.makeSlice 23 (.int .i64 (n : Int)) (.int .i64 (n : Int))).run Try.prog w = .ok (.slice (some ⟨w.heap.size, 0, none⟩) n n) (w.alloc (.cells (zSls n) 22)) := by
  obtain ⟨i0, hi, hz0, hz1, hz2⟩ := info_parts info22
  have := run_make (P := Try.prog) w 23 22 i0 (.slice none 0 0) Try.underlying23 hi hz0 .i64 .i64 (n : Int) (n : Int) (by omega) (by omega) (by rw [hz2]; omega) (by omega)
  rw [this, hz1]
  simp [zSls, Value.cells]
theorem zSls_row {w : World} {g n : Nat} (h : w.heap[g]? = some (.cells (zSls n) 22 (0, 0))) : RowTo g 22 n (fun _ => .slice none 0 0) n w :=
  ⟨_, h, by simp [zSls, size_madeCells], fun i hi => made_at _ n i hi⟩
theorem RowTo.ext {g n k : Nat} {t : TypeId} {f f' : Nat → Value} {w : World} (h : RowTo g t n f k w) (e : ∀ i, i < k → f i = f' i) : RowTo g t n f' k w := by
  obtain ⟨arr, h1, h2, h3⟩ := h
  exact ⟨arr, h1, h2, fun i hi => by rw [← e i hi]; exact h3 i hi⟩
/-- rows of numbers in new blocks, the slices that lead to them in block g -/
structure Rows2 (w : World) (lo g n k : Nat) (G : Nat → Nat) (L : Nat → Nat) (z : Nat → Nat → Int) : Prop where
  top : RowTo g 22 n (fun i => .slice (some ⟨G i, 0, none⟩) (L i) (L i)) k w
  low : ∀ i, i < k → lo < G i
  row : ∀ i, i < k → RowTo (G i) 2 (L i) (fun j => .int .i64 (z i j)) (L i) w
  inc : ∀ i j, i < j → j < k → G i < G j
theorem Rows2.keep {w w' : World} {lo g n k : Nat} {G : Nat → Nat} {L : Nat → Nat} {z : Nat → Nat → Int} (h : Rows2 w lo g n k G L z) (hb : Below w.heap.size w w') : Rows2 w' lo g n k G L z :=
  ⟨h.top.keep (hb.block _ h.top.lt), h.low, fun i hi => (h.row i hi).keep (hb.block _ (h.row i hi).lt), h.inc⟩
theorem Rows2.step {w w1 : World} {lo g n k : Nat} {G : Nat → Nat} {L : Nat → Nat} {z : Nat → Nat → Int} (h : Rows2 w lo g n k G L z) (hk : k < n) (hlo : lo < w.heap.size) (hg : g ≤ lo) (hb : Below w.heap.size w w1) (hr : RowTo w.heap.size 2 (L k) (fun j => .int .i64 (z k j)) (L k) w1) :
    Rows2 (w1.setCell ⟨g, k, none⟩ (.slice (some ⟨w.heap.size, 0, none⟩) (L k) (L k))) lo g n (k + 1) (fun i => if i = k then w.heap.size else G i) L z := by
  have h1 := h.keep hb
  have hgl : ∀ i, i < k → G i < w.heap.size := fun i hi => (h.row i hi).lt
  refine ⟨?_, fun i hi => ?_, fun i hi => ?_, fun i j hij hj => ?_⟩
  · have e : RowTo g 22 n (fun i => .slice (some ⟨if i = k then w.heap.size else G i, 0, none⟩) (L i) (L i)) k w1 := h1.top.ext (fun i hi => by rw [if_neg (by omega)])
    have s := e.step hk
    simp only [if_true] at s
    exact s
  · by_cases e : i = k
    · simp only [e, if_true]; exact hlo
    · simp only [if_neg e]; exact h.low i (by omega)
  · by_cases e : i = k
    · subst e
      simp only [if_true]
      exact hr.keep (blk_set_ne (by omega) _)
    · simp only [if_neg e]
      have := h.low i (by omega)
      exact (h1.row i (by omega)).keep (blk_set_ne (by omega) _)
  · by_cases e : j = k
    · have e2 : ¬ i = k := by omega
      simp only [e, if_true, if_neg e2]
      exact hgl i (by omega)
    · have e2 : ¬ i = k := by omega
      simp only [if_neg e, if_neg e2]
      exact h.inc i j hij (by omega)

theorem toIntss_any (a : Option Addr) (n cap : Nat) (A : Nat → Option Addr) (L C : Nat → Nat) (z : Nat → Nat → Int) (w : World) (hn : n ≤ 1048576) (h : RdRow w a n fun i => .slice (A i) (L i) (C i)) (hz : ∀ i, i < n → RdRow w (A i) (L i) fun j => .int .i64 (z i j)) (hl : ∀ i, i < n → L i ≤ 1048576) :
    Calls Try.prog 31 #[.slice a n cap] w fun e w' => ∃ G, e = .returned (.slice (some ⟨w.heap.size, 0, none⟩) n n) ∧ Rows2 w' w.heap.size w.heap.size n n G L z ∧ Below w.heap.size w w' := by
  have HR : Hid (RdRow w a n fun i => .slice (A i) (L i) (C i)) := h
  have HZ : Hid (∀ i, i < n → RdRow w (A i) (L i) fun j => .int .i64 (z i j)) := hz
  have HL : Hid (∀ i, i < n → L i ≤ 1048576) := hl
  have mk := make_sls n hn
  clear h hz hl
  go_enter Try.func31, Try.ntmps31
  go_wp2_with fail
  clear mk
  go_loopw [4] (fun i wr => ∃ (k : Nat) (G : Nat → Nat), k ≤ n ∧ i = .int .i64 k ∧ Rows2 wr w.heap.size w.heap.size n k G L z ∧ w.heap.size < wr.heap.size ∧ Below w.heap.size w wr) (fun i _ => n - (intOf i).toNat)
  case atStart => exact ⟨0, fun _ => 0, Nat.zero_le _, rfl, ⟨(zSls_row (blk_new w _)).anew, fun i hi => by omega, fun i hi => by omega, fun i j _ hj => by omega⟩, by simp, (Below.refl _ _).alloc (Nat.le_refl _) _⟩
  case round =>
    obtain ⟨k, G, hk, rfl, hR, hlt0, hB⟩ := hrel
    by_cases hlt : k < n
    · have hlt' : (k : Int) < n := by omega
      obtain ⟨g, o, rfl, hc⟩ := (HR.out.up hB) k hlt
      dsimp only at hc
      go_wp2_with fail
      refine (toInts_any (A k) (L k) (C k) (z k) _ (HL.out k hlt) ((HZ.out k hlt).up hB)).mono ?_
      rintro e w1 ⟨rfl, hr1, hb1⟩
      have HS : Hid (Rows2 (w1.setCell ⟨w.heap.size, k, none⟩ (.slice (some ⟨wr.heap.size, 0, none⟩) (L k) (L k))) w.heap.size w.heap.size n (k + 1) (fun i => if i = k then wr.heap.size else G i) L z) := hR.step hlt hlt0 (Nat.le_refl _) hb1 hr1
      have t1 := (hR.keep hb1).top
      obtain ⟨v0, q0⟩ := t1.there k hlt
      have f0 := t1.free k
      have HB1 : Hid (Below w.heap.size w w1) := hB.trans (hb1.mono hB.size)
      have hsz := hb1.size
      clear hr1 hb1 hR hc t1 hB
      go_wp2_with fail
      go_roundw
      case rel => exact ⟨k + 1, _, by omega, by go_num, HS.out, by simp [World.setCell]; omega, HB1.out.setCell (Nat.le_refl _) _⟩
      case measure => simp [intOf]; omega
    · obtain rfl : k = n := by omega
      go_wp2_with fail
      go_ret
      exact ⟨G, rfl, hR, hB⟩

set_option maxHeartbeats 1000000 in
theorem eqIntss_any (a1 a2 : Option Addr) (n c1 c2 : Nat) (A1 A2 : Nat → Option Addr) (L C1 C2 : Nat → Nat) (z : Nat → Nat → Int) (w : World) (hn : n ≤ 1048576) (hl : ∀ i, i < n → L i ≤ 1048576)
    (h1 : RdRow w a1 n fun i => .slice (A1 i) (L i) (C1 i)) (h2 : RdRow w a2 n fun i => .slice (A2 i) (L i) (C2 i)) (z1 : ∀ i, i < n → RdRow w (A1 i) (L i) fun j => .int .i64 (z i j)) (z2 : ∀ i, i < n → RdRow w (A2 i) (L i) fun j => .int .i64 (z i j)) :
    Calls Try.prog 35 #[.slice a1 n c1, .slice a2 n c2] w fun e w' => e = .returned (.bool true) ∧ Same w w' := by
  have H1 : Hid (RdRow w a1 n fun i => .slice (A1 i) (L i) (C1 i)) := h1
  have H2 : Hid (RdRow w a2 n fun i => .slice (A2 i) (L i) (C2 i)) := h2
  have HZ1 : Hid (∀ i, i < n → RdRow w (A1 i) (L i) fun j => .int .i64 (z i j)) := z1
  have HZ2 : Hid (∀ i, i < n → RdRow w (A2 i) (L i) fun j => .int .i64 (z i j)) := z2
  have HL : Hid (∀ i, i < n → L i ≤ 1048576) := hl
  clear h1 h2 z1 z2 hl
  go_enter Try.func35, Try.ntmps35
  go_wp2_with fail
  go_loopw [5] (fun i wr => ∃ k : Nat, k ≤ n ∧ i = .int .i64 k ∧ Same w wr) (fun i _ => n - (intOf i).toNat)
  case atStart => exact ⟨0, Nat.zero_le _, rfl, Same.refl _⟩
  case round =>
    obtain ⟨k, hk, rfl, hS⟩ := hrel
    by_cases hlt : k < n
    · have hlt' : (k : Int) < n := by omega
      have bd : Below w.heap.size w wr.drew := (hS.below _).drew
      obtain ⟨g, o, rfl, c1⟩ := (H1.out.up (hS.below _)) k hlt
      obtain ⟨g2, o2, rfl, c2⟩ := (H2.out.up (hS.below _)) k hlt
      dsimp only at c1 c2
      go_wp2_with fail
      refine wp_region_held_drew (S := fun w' => w'.cell? ⟨g, o + k, none⟩ = some (.slice (A1 k) (L k) (C1 k)) ∧ w'.cell? ⟨g2, o2 + k, none⟩ = some (.slice (A2 k) (L k) (C2 k))) (by kernel_rfl) ⟨c1, c2⟩ (fun hHeld => ?_)
      refine takeD (i := 0) (some 17) (v := ?_) rfl rfl (by kernel_rfl) (by kernel_rfl) (by kernel_rfl) (fun _ _ _ h => h) (by kernel_rfl) ?_ (by assumption) ?_
      rotate_left
      · intro wx hSw
        obtain ⟨hS1, hS2⟩ := hSw
        go_simp
        try (with_reducible rfl)
      try simp only [Act.put, List.setIfInBounds_toArray, List.set_cons_zero, List.set_cons_succ]
      refine takeD (i := 1) (some 18) (v := ?_) rfl rfl (by kernel_rfl) (by kernel_rfl) (by kernel_rfl) (fun _ _ _ h => h) (by kernel_rfl) ?_ (by assumption) ?_
      rotate_left
      · intro wx hSw
        obtain ⟨hS1, hS2⟩ := hSw
        go_simp
        try (with_reducible rfl)
      try simp only [Act.put, List.setIfInBounds_toArray, List.set_cons_zero, List.set_cons_succ]
      refine takeD (i := 2) (some 19) (v := ?_) rfl rfl (by kernel_rfl) (by kernel_rfl) (by kernel_rfl) (fun _ _ _ h => h) (by kernel_rfl) ?_ (by assumption) ?_
      rotate_left
      · intro wx hSw
        obtain ⟨hS1, hS2⟩ := hSw
        go_simp
        try (with_reducible rfl)
      try simp only [Act.put, List.setIfInBounds_toArray, List.set_cons_zero, List.set_cons_succ]
      refine takeD (i := 3) (some 20) (v := ?_) rfl rfl (by kernel_rfl) (by kernel_rfl) (by kernel_rfl) (fun _ _ _ h => h) (by kernel_rfl) ?_ (by assumption) ?_
      rotate_left
      · intro wx hSw
        obtain ⟨hS1, hS2⟩ := hSw
        go_simp
        try (with_reducible rfl)
      try simp only [Act.put, List.setIfInBounds_toArray, List.set_cons_zero, List.set_cons_succ]
      refine takeD (i := 4) (some 21) (v := ?_) rfl rfl (by kernel_rfl) (by kernel_rfl) (by kernel_rfl) (fun _ _ _ h => h) (by kernel_rfl) ?_ (by assumption) ?_
      rotate_left
      · intro wx hSw
        obtain ⟨hS1, hS2⟩ := hSw
        go_simp
        try (with_reducible rfl)
      try simp only [Act.put, List.setIfInBounds_toArray, List.set_cons_zero, List.set_cons_succ]
      refine takeD (i := 5) (some 22) (v := ?_) rfl rfl (by kernel_rfl) (by kernel_rfl) (by kernel_rfl) (fun _ _ _ h => h) (by kernel_rfl) ?_ (by assumption) ?_
      rotate_left
      · intro wx hSw
        obtain ⟨hS1, hS2⟩ := hSw
        go_simp
        try (with_reducible rfl)
      try simp only [Act.put, List.setIfInBounds_toArray, List.set_cons_zero, List.set_cons_succ]
      refine takeD (i := 6) (some 23) (v := ?_) rfl rfl (by kernel_rfl) (by kernel_rfl) (by kernel_rfl) (fun _ _ _ h => h) (by kernel_rfl) ?_ (by assumption) ?_
      rotate_left
      · intro wx hSw
        obtain ⟨hS1, hS2⟩ := hSw
        go_simp
        try (with_reducible rfl)
      try simp only [Act.put, List.setIfInBounds_toArray, List.set_cons_zero, List.set_cons_succ]
      refine takeD (i := 7) (some 24) (v := ?_) rfl rfl (by kernel_rfl) (by kernel_rfl) (by kernel_rfl) (fun _ _ _ h => h) (by kernel_rfl) ?_ (by assumption) ?_
      rotate_left
      · intro wx hSw
        obtain ⟨hS1, hS2⟩ := hSw
        go_simp
        try (with_reducible rfl)
      try simp only [Act.put, List.setIfInBounds_toArray, List.set_cons_zero, List.set_cons_succ]
      refine wpAnyH_ready (rs := [8]) (by kernel_rfl) (by simp) ?_
      refine AllReadyH.cons rfl (fun K hK => ?_) AllReadyH.nil
      go_simp
      refine (eqInts_any _ _ _ _ _ (z k) _ (HL.out k hlt) ((HZ1.out k hlt).up bd) ((HZ2.out k hlt).up bd)).mono ?_
      rintro e w1 ⟨rfl, hS1⟩
      have c1 := (hS1.cell ⟨g, o + k, none⟩).trans c1
      have c2 := (hS1.cell ⟨g2, o2 + k, none⟩).trans c2
      go_wp2_with fail
      refine hK.out _ _ ⟨c1, c2⟩ (fun hHeld => ?_)
      clear hK K
      try simp only [Act.put, List.setIfInBounds_toArray, List.set_cons_zero, List.set_cons_succ]
      refine takeD (i := 9) (some 26) (v := ?_) rfl rfl (by kernel_rfl) (by kernel_rfl) (by kernel_rfl) (fun _ _ _ h => h) (by kernel_rfl) ?_ (by assumption) ?_
      rotate_left
      · intro wx hSw
        obtain ⟨hS1, hS2⟩ := hSw
        go_simp
        try (with_reducible rfl)
      try simp only [Act.put, List.setIfInBounds_toArray, List.set_cons_zero, List.set_cons_succ]
      refine wpAnyH_done (by kernel_rfl) ?_ _
      have HSm : Hid (Same w w1) := ⟨hS1.os.trans hS.os, hS1.tape.trans hS.tape, hS1.output.trans hS.output, hS1.heap.trans hS.heap⟩
      clear hS1 hS c1 c2 hHeld bd
      go_wp2_with fail
      go_roundw
      case rel => exact ⟨k + 1, by omega, by go_num, HSm.out⟩
      case measure => simp [intOf]; omega
    · obtain rfl : k = n := by omega
      go_wp2_with fail
      go_ret
      exact ⟨rfl, hS⟩
end Go.Proofs.Ytapmhpdcgghihaa
