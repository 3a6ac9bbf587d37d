/- Slices of bools: made, measured, copied, held against each other, marked. -/
import Derived.Test.YtalbkpofiobmiaaIntS
namespace Go.Proofs.Ytalbkpofiobmiaa
open Go.RowKit
set_option linter.unusedVariables false
set_option linter.unusedSimpArgs false

theorem info4 : (Try.prog.info? 4).map (fun i => (i.zero, i.size, i.bytes)) = some (some (.bool false), 1, 1) := by kernel_rfl
def zBools (n : Nat) : Array Value := madeCells #[.bool false] n
theorem make_bools (n : Nat) (hn : n ≤ 1048576) (w : World) : (Instr.makeSlice 29 (.int .i64 (n : Int)) (.int .i64 (n : Int))).run Try.prog w = .ok (.slice (some ⟨w.heap.size, 0, none⟩) n n) (w.alloc (.cells (zBools n) 4)) := by
  obtain ⟨i0, hi, hz0, hz1, hz2⟩ := info_parts info4
  have := run_make (P := Try.prog) w 29 4 i0 (.bool false) Try.underlying29 hi hz0 .i64 .i64 (n : Int) (n : Int) (by omega) (by omega) (by rw [hz2]; omega) (by omega)
  rw [this, hz1]
  simp [zBools, Value.cells]
theorem zBools_row {w : World} {g n : Nat} (h : w.heap[g]? = some (.cells (zBools n) 4 (0, 0))) : RowTo g 4 n (fun _ => .bool false) n w :=
  ⟨_, h, by simp [zBools, size_madeCells], fun i hi => made_at _ n i hi⟩
theorem szBools_any (a : Option Addr) (n cap : Nat) (left : Int) (w : World) (hn : n ≤ maxLen) (h0 : 0 ≤ left) (h1 : left ≤ 1048576) :
    Calls Try.prog 35 #[.slice a n cap, .int .i64 left] w fun e w' => (∃ r : Int, e = .returned (.int .i64 r) ∧ (r = -1 ∨ 0 ≤ r ∧ r ≤ left ∧ n ≤ 1048576)) ∧ w = w' := by
  have hm : (n : Int) ≤ 9223372036854775807 := by unfold maxLen at hn; omega
  by_cases h : left - n < 0
  · go_enter Try.func35, Try.ntmps35
    go_wp2_with fail
    go_ret
    exact ⟨⟨_, rfl, .inl rfl⟩, rfl⟩
  · go_enter Try.func35, Try.ntmps35
    go_wp2_with fail
    go_ret
    exact ⟨⟨_, rfl, .inr (by omega)⟩, rfl⟩

theorem toBools_any (a : Option Addr) (n cap : Nat) (f : Nat → Bool) (w : World) (hn : n ≤ 1048576) (h : RdRow w a n fun i => .bool (f i)) :
    Calls Try.prog 37 #[.slice a n cap] w fun e w' => e = .returned (.slice (some ⟨w.heap.size, 0, none⟩) n n) ∧ RowTo w.heap.size 4 n (fun i => .bool (f i)) n w' ∧ Below w.heap.size w w' := by
  have mk := make_bools n hn
  go_enter Try.func37, Try.ntmps37
  go_wp2_with fail
  clear mk
  go_loopw [4] (fun i wr => ∃ k : Nat, k ≤ n ∧ i = .int .i64 k ∧ RowTo w.heap.size 4 n (fun i => .bool (f i)) k wr ∧ Below w.heap.size w wr) (fun i _ => n - (intOf i).toNat)
  case atStart => exact ⟨0, Nat.zero_le _, rfl, (zBools_row (blk_new w _)).anew, (Below.refl _ _).alloc (Nat.le_refl _) _⟩
  case round =>
    obtain ⟨k, hk, rfl, hR, hB⟩ := hrel
    by_cases hlt : k < n
    · have hlt' : (k : Int) < n := by omega
      obtain ⟨g, o, rfl, hc⟩ := h k hlt
      have p1 := (hB.cell (p := ⟨g, o + k, none⟩) (cellLt hc)).trans hc
      dsimp only at p1
      obtain ⟨v0, hv0⟩ := hR.there k hlt
      have hf := hR.free k
      clear h hc
      go_wp2_with fail
      go_roundw
      case rel => exact ⟨k + 1, by omega, by go_num, hR.step hlt, hB.setCell (Nat.le_refl _) _⟩
      case measure => simp [intOf]; omega
    · obtain rfl : k = n := by omega
      clear h
      go_wp2_with fail
      go_ret
      exact ⟨rfl, hR, hB⟩
def mb (x : Nat) : Bool := decide (x % 3 = 0)
theorem mb_eq (x : Nat) : (((x : Int).tmod 3) == 0) = mb x := by
  rw [Bool.eq_iff_iff]
  have : ((x : Int).tmod 3) = ((x % 3 : Nat) : Int) := by rw [Int.tmod_eq_emod_of_nonneg (by omega)]; rfl
  simp only [this, mb, beq_iff_eq, decide_eq_true_eq]
  omega
theorem mb_eq2 (m k : Nat) : (((m : Int) + (k : Int)) % 3 == 0) = mb (m + k) := by
  rw [Bool.eq_iff_iff]
  simp only [mb, beq_iff_eq, decide_eq_true_eq]
  omega
theorem markBools_any (g n cap m : Nat) (f : Nat → Value) (w : World) (h : RowTo g 4 n f n w) (hn : n ≤ 1048576) (hm : m ≤ 100000000) :
    Calls Try.prog 41 #[.slice (some ⟨g, 0, none⟩) n cap, .int .i64 m] w fun e w' => e = .returned (.int .i64 (m + n : Nat)) ∧ RowTo g 4 n (fun i => .bool (mb (m + i))) n w' ∧ Touch [g] w w' := by
  go_enter Try.func41, Try.ntmps41
  go_wp2_with fail
  go_loopw [1, 5] (fun x i wr => ∃ k : Nat, k ≤ n ∧ i = .int .i64 k ∧ x = .int .i64 (m + k : Nat) ∧ RowTo g 4 n (fun i => .bool (mb (m + i))) k wr ∧ Touch [g] w wr) (fun _ i _ => n - (intOf i).toNat)
  case atStart => exact ⟨0, Nat.zero_le _, rfl, rfl, h.anew, Touch.refl _ _⟩
  case round =>
    obtain ⟨k, hk, rfl, rfl, hR, hT⟩ := hrel
    by_cases hlt : k < n
    · obtain ⟨v, hv⟩ := hR.there k hlt
      have hf := hR.free k
      have hlt' : (k : Int) < n := by omega
      have HS : Hid (RowTo g 4 n (fun i => .bool (mb (m + i))) (k + 1) (wr.setCell ⟨g, k, none⟩ (.bool (mb (m + k))))) := hR.step hlt
      go_wp2_with fail
      go_roundw
      case rel => exact ⟨k + 1, by omega, by go_num, by go_num, by rw [mb_eq2]; exact HS.out, hT.set (by simp) k _⟩
      case measure => simp [intOf]; omega
    · obtain rfl : k = n := by omega
      go_wp2_with fail
      go_ret
      exact ⟨rfl, hR, hT⟩

theorem heldBools_any (g n cap m : Nat) (w : World) (h : RowTo g 4 n (fun i => .bool (mb (m + i))) n w) (hn : n ≤ 1048576) (hm : m ≤ 100000000) :
    Calls Try.prog 42 #[.slice (some ⟨g, 0, none⟩) n cap, .int .i64 m] w fun e w' => e = .returned (.int .i64 (m + n : Nat)) ∧ w = w' := by
  go_enter Try.func42, Try.ntmps42
  go_wp2_with fail
  go_loop [1, 5] (fun x i => ∃ k : Nat, k ≤ n ∧ i = .int .i64 k ∧ x = .int .i64 (m + k : Nat)) (fun _ i => n - (intOf i).toNat)
  case atStart => exact ⟨0, Nat.zero_le _, rfl, rfl⟩
  case round =>
    obtain ⟨k, hk, rfl, rfl⟩ := hrel
    by_cases hlt : k < n
    · have hc := h.at k hlt
      have hlt' : (k : Int) < n := by omega
      rw [← mb_eq] at hc
      have hbb : ((((m + k : Nat) : Int).tmod 3 == 0) != (((m + k : Nat) : Int).tmod 3 == 0)) = false := by simp
      go_wp2_with fail
      go_round
      case rel => exact ⟨k + 1, by omega, by go_num, by go_num⟩
      case measure => simp [intOf]; omega
    · obtain rfl : k = n := by omega
      go_wp2_with fail
      go_ret
      exact ⟨rfl, rfl⟩

theorem eqBools_any (a1 a2 : Option Addr) (n c1 c2 : Nat) (f : Nat → Bool) (w : World) (hn : n ≤ 1048576) (h1 : RdRow w a1 n fun i => .bool (f i)) (h2 : RdRow w a2 n fun i => .bool (f i)) :
    Calls Try.prog 40 #[.slice a1 n c1, .slice a2 n c2] w fun e w' => e = .returned (.bool true) ∧ Same w w' := by
  go_enter Try.func40, Try.ntmps40
  go_wp2_with fail
  go_loopw [5] (fun i wr => ∃ k : Nat, k ≤ n ∧ i = .int .i64 k ∧ Same w wr) (fun i _ => n - (intOf i).toNat)
  case atStart => exact ⟨0, Nat.zero_le _, rfl, Same.refl _⟩
  case round =>
    obtain ⟨k, hk, rfl, hS⟩ := hrel
    by_cases hlt : k < n
    · obtain ⟨g1, o1, rfl, e1⟩ := h1 k hlt
      obtain ⟨g2, o2, rfl, e2⟩ := h2 k hlt
      rw [← hS.cell] at e1 e2
      dsimp only at e1 e2
      have hbb : (f k != f k) = false := by simp
      clear h1 h2
      have hlt' : (k : Int) < n := by omega
      go_wp2_with fail
      go_quiet (fail)
      go_wp2_with fail
      go_roundw
      case rel => exact ⟨k + 1, by omega, by go_num, hS.drewN _⟩
      case measure => simp [intOf]; omega
    · obtain rfl : k = n := by omega
      go_wp2_with fail
      go_ret
      exact ⟨rfl, hS⟩

end Go.Proofs.Ytalbkpofiobmiaa
