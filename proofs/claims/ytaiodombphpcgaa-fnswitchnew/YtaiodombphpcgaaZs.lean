/- Rows of zeros, and of flags that are down. -/
import Derived.Test.YtaiodombphpcgaaArRd
import Derived.Test.YtaiodombphpcgaaReg
import Derived.OwnWalk
namespace Go.Proofs.Ytaiodombphpcgaa
open Go.RowKit
set_option linter.unusedVariables false
set_option linter.unusedSimpArgs false

theorem info2 : (Try.prog.info? 2).map (fun i => (i.zero, i.size, i.bytes)) = some (some (.int .i64 0), 1, 8) := by kernel_rfl
def zInts (n : Nat) : Array Value := madeCells #[.int .i64 0] n
theorem made_at (v : Value) (n i : Nat) (h : i < n) : (madeCells #[v] n)[i]? = some v := by
  unfold madeCells
  simp [h]
  rw [Nat.mod_one]; rfl
theorem make_ints (n : Nat) (hn : n ≤ 1048576) (w : World) : (Instr.makeSlice 28 (.int .i64 (n : Int)) (.int .i64 (n : Int))).run Try.prog w = .ok (.slice (some ⟨w.heap.size, 0, none⟩) n n) (w.alloc (.cells (zInts n) 2)) := by
  obtain ⟨i0, hi, hz0, hz1, hz2⟩ := info_parts info2
  have := run_make (P := Try.prog) w 28 2 i0 (.int .i64 0) Try.underlying28 hi hz0 .i64 .i64 (n : Int) (n : Int) (by omega) (by omega) (by rw [hz2]; omega) (by omega)
  rw [this, hz1]
  simp [zInts, Value.cells]
theorem zInts_row {w : World} {g n : Nat} (h : w.heap[g]? = some (.cells (zInts n) 2 (0, 0))) : RowTo g 2 n (fun _ => .int .i64 0) n w :=
  ⟨_, h, by simp [zInts, size_madeCells], fun i hi => made_at _ n i hi⟩
theorem info4 : (Try.prog.info? 4).map (fun i => (i.zero, i.size, i.bytes)) = some (some (.bool false), 1, 1) := by kernel_rfl
def zBools (n : Nat) : Array Value := madeCells #[.bool false] n
theorem make_bools (n : Nat) (hn : n ≤ 1048576) (w : World) : (Instr.makeSlice 29 (.int .i64 (n : Int)) (.int .i64 (n : Int))).run Try.prog w = .ok (.slice (some ⟨w.heap.size, 0, none⟩) n n) (w.alloc (.cells (zBools n) 4)) := by
  obtain ⟨i0, hi, hz0, hz1, hz2⟩ := info_parts info4
  have := run_make (P := Try.prog) w 29 4 i0 (.bool false) Try.underlying29 hi hz0 .i64 .i64 (n : Int) (n : Int) (by omega) (by omega) (by rw [hz2]; omega) (by omega)
  rw [this, hz1]
  simp [zBools, Value.cells]
theorem zBools_row {w : World} {g n : Nat} (h : w.heap[g]? = some (.cells (zBools n) 4 (0, 0))) : RowTo g 4 n (fun _ => .bool false) n w :=
  ⟨_, h, by simp [zBools, size_madeCells], fun i hi => made_at _ n i hi⟩
end Go.Proofs.Ytaiodombphpcgaa
