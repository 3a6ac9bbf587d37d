/- What the exact laws on rounds do first: measure a round, copy it, hold two against each other. -/
import Derived.Test.YtclibohnmjkliaaRn
import Derived.Test.YtclibohnmjkliaaIntS
namespace Go.Proofs.Ytclibohnmjkliaa
open Go.RowKit
set_option linter.unusedVariables false
set_option linter.unusedSimpArgs false

structure Rnd.Small (R : Rnd) : Prop where
  q : R.nQ ≤ 1048576
  d : R.nD ≤ 1048576
  s : R.nS ≤ 1048576
  l : ∀ i, i < R.nS → R.L i ≤ 1048576
theorem info22 : (Try.prog.info? 26).map (fun i => (i.zero, i.size, i.bytes)) = some (some (.slice none 0 0), 1, 24) := by kernel_rfl
def zSls (n : Nat) : Array Value := madeCells #[.slice none 0 0] n
theorem make_sls (n : Nat) (hn : n ≤ 1048576) (w : World) : (Instr.makeSlice 42 (.int .i64 (n : Int)) (.int .i64 (n : Int))).run Try.prog w = .ok (.slice (some ⟨w.heap.size, 0, none⟩) n n) (w.alloc (.cells (zSls n) 26)) := by
  obtain ⟨i0, hi, hz0, hz1, hz2⟩ := info_parts info22
  have := run_make (P := Try.prog) w 42 26 i0 (.slice none 0 0) Try.underlying42 hi hz0 .i64 .i64 (n : Int) (n : Int) (by omega) (by omega) (by rw [hz2]; omega) (by omega)
  rw [this, hz1]
  simp [zSls, Value.cells]
theorem zSls_row {w : World} {g n : Nat} (h : w.heap[g]? = some (.cells (zSls n) 26 (0, 0))) : RowTo g 26 n (fun _ => .slice none 0 0) n w :=
  ⟨_, h, by simp [zSls, size_madeCells], fun i hi => made_at _ n i hi⟩
theorem RowTo.ext {g n k : Nat} {t : TypeId} {f f' : Nat → Value} {w : World} (h : RowTo g t n f k w) (e : ∀ i, i < k → f i = f' i) : RowTo g t n f' k w := by
  obtain ⟨arr, h1, h2, h3⟩ := h
  exact ⟨arr, h1, h2, fun i hi => by rw [← e i hi]; exact h3 i hi⟩
/-- rows of numbers in new blocks, the slices that lead to them in block g -/
structure Rows2 (w : World) (lo g n k : Nat) (G : Nat → Nat) (L : Nat → Nat) (z : Nat → Nat → Int) : Prop where
  top : RowTo g 26 n (fun i => .slice (some ⟨G i, 0, none⟩) (L i) (L i)) k w
  low : ∀ i, i < k → lo < G i
  row : ∀ i, i < k → RowTo (G i) 2 (L i) (fun j => .int .i64 (z i j)) (L i) w
  inc : ∀ i j, i < j → j < k → G i < G j
theorem Rows2.keep {w w' : World} {lo g n k : Nat} {G : Nat → Nat} {L : Nat → Nat} {z : Nat → Nat → Int} (h : Rows2 w lo g n k G L z) (hb : Below w.heap.size w w') : Rows2 w' lo g n k G L z :=
  ⟨h.top.keep (hb.block _ h.top.lt), h.low, fun i hi => (h.row i hi).keep (hb.block _ (h.row i hi).lt), h.inc⟩
theorem Rows2.step {w w1 : World} {lo g n k : Nat} {G : Nat → Nat} {L : Nat → Nat} {z : Nat → Nat → Int} (h : Rows2 w lo g n k G L z) (hk : k < n) (hlo : lo < w.heap.size) (hg : g ≤ lo) (hb : Below w.heap.size w w1) (hr : RowTo w.heap.size 2 (L k) (fun j => .int .i64 (z k j)) (L k) w1) :
    Rows2 (w1.setCell ⟨g, k, none⟩ (.slice (some ⟨w.heap.size, 0, none⟩) (L k) (L k))) lo g n (k + 1) (fun i => if i = k then w.heap.size else G i) L z := by
  have h1 := h.keep hb
  have hgl : ∀ i, i < k → G i < w.heap.size := fun i hi => (h.row i hi).lt
  refine ⟨?_, fun i hi => ?_, fun i hi => ?_, fun i j hij hj => ?_⟩
  · have e : RowTo g 26 n (fun i => .slice (some ⟨if i = k then w.heap.size else G i, 0, none⟩) (L i) (L i)) k w1 := h1.top.ext (fun i hi => by rw [if_neg (by omega)])
    have s := e.step hk
    simp only [if_true] at s
    exact s
  · by_cases e : i = k
    · simp only [e, if_true]; exact hlo
    · simp only [if_neg e]; exact h.low i (by omega)
  · by_cases e : i = k
    · subst e
      simp only [if_true]
      exact hr.keep (blk_set_ne (by omega) _)
    · simp only [if_neg e]
      have := h.low i (by omega)
      exact (h1.row i (by omega)).keep (blk_set_ne (by omega) _)
  · by_cases e : j = k
    · have e2 : ¬ i = k := by omega
      simp only [e, if_true, if_neg e2]
      exact hgl i (by omega)
    · have e2 : ¬ i = k := by omega
      simp only [if_neg e, if_neg e2]
      exact h.inc i j hij (by omega)

set_option maxHeartbeats 1000000 in
theorem eqIntss_any (a1 a2 : Option Addr) (n c1 c2 : Nat) (A1 A2 : Nat → Option Addr) (L C1 C2 : Nat → Nat) (z : Nat → Nat → Int) (w : World) (hn : n ≤ 1048576) (hl : ∀ i, i < n → L i ≤ 1048576)
    (h1 : RdRow w a1 n fun i => .slice (A1 i) (L i) (C1 i)) (h2 : RdRow w a2 n fun i => .slice (A2 i) (L i) (C2 i)) (z1 : ∀ i, i < n → RdRow w (A1 i) (L i) fun j => .int .i64 (z i j)) (z2 : ∀ i, i < n → RdRow w (A2 i) (L i) fun j => .int .i64 (z i j)) :
    Calls Try.prog 52 #[.slice a1 n c1, .slice a2 n c2] w fun e w' => e = .returned (.bool true) ∧ Same w w' := by
  have H1 : Hid (RdRow w a1 n fun i => .slice (A1 i) (L i) (C1 i)) := h1
  have H2 : Hid (RdRow w a2 n fun i => .slice (A2 i) (L i) (C2 i)) := h2
  have HZ1 : Hid (∀ i, i < n → RdRow w (A1 i) (L i) fun j => .int .i64 (z i j)) := z1
  have HZ2 : Hid (∀ i, i < n → RdRow w (A2 i) (L i) fun j => .int .i64 (z i j)) := z2
  have HL : Hid (∀ i, i < n → L i ≤ 1048576) := hl
  clear h1 h2 z1 z2 hl
  go_enter Try.func52, Try.ntmps52
  go_wp2_with fail
  go_loopw [5] (fun i wr => ∃ k : Nat, k ≤ n ∧ i = .int .i64 k ∧ Same w wr) (fun i _ => n - (intOf i).toNat)
  case atStart => exact ⟨0, Nat.zero_le _, rfl, Same.refl _⟩
  case round =>
    obtain ⟨k, hk, rfl, hS⟩ := hrel
    by_cases hlt : k < n
    · have hlt' : (k : Int) < n := by omega
      have bd : Below w.heap.size w wr.drew := (hS.below _).drew
      obtain ⟨g, o, rfl, c1⟩ := (H1.out.up (hS.below _)) k hlt
      obtain ⟨g2, o2, rfl, c2⟩ := (H2.out.up (hS.below _)) k hlt
      dsimp only at c1 c2
      go_wp2_with fail
      refine wp_region_held_drew (S := fun w' => w'.cell? ⟨g, o + k, none⟩ = some (.slice (A1 k) (L k) (C1 k)) ∧ w'.cell? ⟨g2, o2 + k, none⟩ = some (.slice (A2 k) (L k) (C2 k))) (by kernel_rfl) ⟨c1, c2⟩ (fun hHeld => ?_)
      refine takeD (i := 0) (some 17) (v := ?_) rfl rfl (by kernel_rfl) (by kernel_rfl) (by kernel_rfl) (fun _ _ _ h => h) (by kernel_rfl) ?_ (by assumption) ?_
      rotate_left
      · intro wx hSw
        obtain ⟨hS1, hS2⟩ := hSw
        go_simp
        try (with_reducible rfl)
      try simp only [Act.put, List.setIfInBounds_toArray, List.set_cons_zero, List.set_cons_succ]
      refine takeD (i := 1) (some 18) (v := ?_) rfl rfl (by kernel_rfl) (by kernel_rfl) (by kernel_rfl) (fun _ _ _ h => h) (by kernel_rfl) ?_ (by assumption) ?_
      rotate_left
      · intro wx hSw
        obtain ⟨hS1, hS2⟩ := hSw
        go_simp
        try (with_reducible rfl)
      try simp only [Act.put, List.setIfInBounds_toArray, List.set_cons_zero, List.set_cons_succ]
      refine takeD (i := 2) (some 19) (v := ?_) rfl rfl (by kernel_rfl) (by kernel_rfl) (by kernel_rfl) (fun _ _ _ h => h) (by kernel_rfl) ?_ (by assumption) ?_
      rotate_left
      · intro wx hSw
        obtain ⟨hS1, hS2⟩ := hSw
        go_simp
        try (with_reducible rfl)
      try simp only [Act.put, List.setIfInBounds_toArray, List.set_cons_zero, List.set_cons_succ]
      refine takeD (i := 3) (some 20) (v := ?_) rfl rfl (by kernel_rfl) (by kernel_rfl) (by kernel_rfl) (fun _ _ _ h => h) (by kernel_rfl) ?_ (by assumption) ?_
      rotate_left
      · intro wx hSw
        obtain ⟨hS1, hS2⟩ := hSw
        go_simp
        try (with_reducible rfl)
      try simp only [Act.put, List.setIfInBounds_toArray, List.set_cons_zero, List.set_cons_succ]
      refine takeD (i := 4) (some 21) (v := ?_) rfl rfl (by kernel_rfl) (by kernel_rfl) (by kernel_rfl) (fun _ _ _ h => h) (by kernel_rfl) ?_ (by assumption) ?_
      rotate_left
      · intro wx hSw
        obtain ⟨hS1, hS2⟩ := hSw
        go_simp
        try (with_reducible rfl)
      try simp only [Act.put, List.setIfInBounds_toArray, List.set_cons_zero, List.set_cons_succ]
      refine takeD (i := 5) (some 22) (v := ?_) rfl rfl (by kernel_rfl) (by kernel_rfl) (by kernel_rfl) (fun _ _ _ h => h) (by kernel_rfl) ?_ (by assumption) ?_
      rotate_left
      · intro wx hSw
        obtain ⟨hS1, hS2⟩ := hSw
        go_simp
        try (with_reducible rfl)
      try simp only [Act.put, List.setIfInBounds_toArray, List.set_cons_zero, List.set_cons_succ]
      refine takeD (i := 6) (some 23) (v := ?_) rfl rfl (by kernel_rfl) (by kernel_rfl) (by kernel_rfl) (fun _ _ _ h => h) (by kernel_rfl) ?_ (by assumption) ?_
      rotate_left
      · intro wx hSw
        obtain ⟨hS1, hS2⟩ := hSw
        go_simp
        try (with_reducible rfl)
      try simp only [Act.put, List.setIfInBounds_toArray, List.set_cons_zero, List.set_cons_succ]
      refine takeD (i := 7) (some 24) (v := ?_) rfl rfl (by kernel_rfl) (by kernel_rfl) (by kernel_rfl) (fun _ _ _ h => h) (by kernel_rfl) ?_ (by assumption) ?_
      rotate_left
      · intro wx hSw
        obtain ⟨hS1, hS2⟩ := hSw
        go_simp
        try (with_reducible rfl)
      try simp only [Act.put, List.setIfInBounds_toArray, List.set_cons_zero, List.set_cons_succ]
      refine wpAnyH_ready (rs := [8]) (by kernel_rfl) (by simp) ?_
      refine AllReadyH.cons rfl (fun K hK => ?_) AllReadyH.nil
      go_simp
      refine (eqInts_any _ _ _ _ _ (z k) _ (HL.out k hlt) ((HZ1.out k hlt).up bd) ((HZ2.out k hlt).up bd)).mono ?_
      rintro e w1 ⟨rfl, hS1⟩
      have c1 := (hS1.cell ⟨g, o + k, none⟩).trans c1
      have c2 := (hS1.cell ⟨g2, o2 + k, none⟩).trans c2
      go_wp2_with fail
      refine hK.out _ _ ⟨c1, c2⟩ (fun hHeld => ?_)
      clear hK K
      try simp only [Act.put, List.setIfInBounds_toArray, List.set_cons_zero, List.set_cons_succ]
      refine takeD (i := 9) (some 26) (v := ?_) rfl rfl (by kernel_rfl) (by kernel_rfl) (by kernel_rfl) (fun _ _ _ h => h) (by kernel_rfl) ?_ (by assumption) ?_
      rotate_left
      · intro wx hSw
        obtain ⟨hS1, hS2⟩ := hSw
        go_simp
        try (with_reducible rfl)
      try simp only [Act.put, List.setIfInBounds_toArray, List.set_cons_zero, List.set_cons_succ]
      refine wpAnyH_done (by kernel_rfl) ?_ _
      have HSm : Hid (Same w w1) := ⟨hS1.os.trans hS.os, hS1.tape.trans hS.tape, hS1.output.trans hS.output, hS1.heap.trans hS.heap⟩
      clear hS1 hS c1 c2 hHeld bd
      go_wp2_with fail
      go_roundw
      case rel => exact ⟨k + 1, by omega, by go_num, HSm.out⟩
      case measure => simp [intOf]; omega
    · obtain rfl : k = n := by omega
      go_wp2_with fail
      go_ret
      exact ⟨rfl, hS⟩
end Go.Proofs.Ytclibohnmjkliaa
