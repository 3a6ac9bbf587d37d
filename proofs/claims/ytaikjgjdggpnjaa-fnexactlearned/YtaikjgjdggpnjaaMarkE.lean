/- Tables marked with numbers of their own, and looked at again. -/
import Derived.Test.YtaikjgjdggpnjaaOwnE
namespace Go.Proofs.Ytaikjgjdggpnjaa
open Go.RowKit
set_option linter.unusedVariables false
set_option linter.unusedSimpArgs false

def markF (m : Nat) (j : Nat) : Value := .int .i64 ((m + j : Nat) : Int)
theorem RowTo.any {g n k : Nat} {t : TypeId} {f : Nat → Value} {w : World} (h : RowTo g t n f k w) (f' : Nat → Value) : RowTo g t n f' 0 w := h.anew
set_option maxHeartbeats 1000000 in
theorem markEnts_any (g n cap m : Nat) (f : Nat → Value) (w : World) (h : RowTo g 39 (n * 3) f (n * 3) w) (hn : n ≤ 1048576) (hm : m ≤ 100000000) :
    Calls Try.prog 16 #[.slice (some ⟨g, 0, none⟩) n cap, .int .i64 m] w fun e w' => e = .returned (.int .i64 ((m + n * 3 : Nat) : Int)) ∧ RowTo g 39 (n * 3) (markF m) (n * 3) w' ∧ Touch [g] w w' := by
  have HM : Hid (RowTo g 39 (n * 3) (markF m) (0 * 3) w) := h.anew
  clear h
  go_enter Try.func16, Try.ntmps16
  go_wp2_with fail
  go_loopw [1, 5] (fun x i wr => ∃ (k : Nat) (q : Int), k ≤ n ∧ i = .int .i64 k ∧ x = .int .i64 q ∧ q = ((m + k * 3 : Nat) : Int) ∧ RowTo g 39 (n * 3) (markF m) (k * 3) wr ∧ Touch [g] w wr) (fun _ i _ => n - (intOf i).toNat)
  case atStart => exact ⟨0, m, Nat.zero_le _, rfl, rfl, by simp, HM.out, Touch.refl _ _⟩
  case round =>
    obtain ⟨k, q, hk, rfl, rfl, hq, hR, hT⟩ := hrel
    have HQ : Hid (q = ((m + k * 3 : Nat) : Int)) := hq
    by_cases hlt : k < n
    · have hlt' : (k : Int) < n := by omega
      have q0 : 0 ≤ q := by omega
      have q1 : q ≤ 1000000000 := by omega
      have HT : Hid (Touch [g] w wr) := hT
      have e0 : (markF m (k * 3)) = .int .i64 q := by unfold markF; rw [HQ.out]
      have e1 : (markF m (k * 3 + 1)) = .int .i64 (q + 1) := by unfold markF; rw [HQ.out]; congr 1
      have e2 : (markF m (k * 3 + 1 + 1)) = .int .i64 (q + 1 + 1) := by unfold markF; rw [HQ.out]; congr 1
      have R1 := hR.step (by omega)
      rw [e0] at R1
      have R2 := R1.step (by omega)
      rw [e1] at R2
      have R3 := R2.step (by omega)
      rw [e2] at R3
      obtain ⟨v0, c0⟩ := hR.there (k * 3) (by omega)
      obtain ⟨v1, c1⟩ := R1.there (k * 3 + 1) (by omega)
      obtain ⟨v2, c2⟩ := R2.there (k * 3 + 2) (by omega)
      have f0 := hR.free (k * 3)
      have f1 := R1.free (k * 3 + 1)
      have f2 := R2.free (k * 3 + 2)
      have HR3 : Hid (RowTo g 39 (n * 3) (markF m) (k * 3 + 1 + 1 + 1) _) := R3
      clear hq R1 R2 R3 e0 e1 e2 hR hT
      go_wp2_with fail
      go_roundw
      case rel => exact ⟨k + 1, q + 1 + 1 + 1, by omega, by go_num, by go_num, by rw [HQ.out]; omega, by rw [show (k + 1) * 3 = k * 3 + 1 + 1 + 1 by omega]; exact HR3.out, ((HT.out.set (by simp) _ _).set (by simp) _ _).set (by simp) _ _⟩
      case measure => simp [intOf]; omega
    · obtain rfl : k = n := by omega
      go_wp2_with fail
      go_ret
      exact ⟨ret_int HQ.out, hR, hT⟩

set_option maxHeartbeats 1000000 in
theorem heldEnts_any (g n cap m : Nat) (w : World) (h : RowTo g 39 (n * 3) (markF m) (n * 3) w) (hn : n ≤ 1048576) (hm : m ≤ 100000000) :
    Calls Try.prog 17 #[.slice (some ⟨g, 0, none⟩) n cap, .int .i64 m] w fun e w' => e = .returned (.int .i64 ((m + n * 3 : Nat) : Int)) ∧ Below w.heap.size w w' := by
  have HM : Hid (RowTo g 39 (n * 3) (markF m) (n * 3) w) := h
  clear h
  go_enter Try.func17, Try.ntmps17
  go_wp2_with fail
  go_loopw [1, 5] (fun x i wr => ∃ (k : Nat) (q : Int), k ≤ n ∧ i = .int .i64 k ∧ x = .int .i64 q ∧ q = ((m + k * 3 : Nat) : Int) ∧ Same w wr) (fun _ i _ => n - (intOf i).toNat)
  case atStart => exact ⟨0, m, Nat.zero_le _, rfl, rfl, by simp, Same.refl _⟩
  case round =>
    obtain ⟨k, q, hk, rfl, rfl, hq, hS⟩ := hrel
    have HQ : Hid (q = ((m + k * 3 : Nat) : Int)) := hq
    by_cases hlt : k < n
    · have hlt' : (k : Int) < n := by omega
      have q0 : 0 ≤ q := by omega
      have q1 : q ≤ 1000000000 := by omega
      have HS : Hid (Same w wr) := hS
      have c0 : wr.cell? ⟨g, k * 3, none⟩ = some (.int .i64 q) := by
        rw [hS.cell, HM.out.at _ (by omega)]; unfold markF; rw [HQ.out]
      have c1 : wr.cell? ⟨g, k * 3 + 1, none⟩ = some (.int .i64 (q + 1)) := by
        rw [hS.cell, HM.out.at _ (by omega)]; unfold markF; rw [HQ.out]; congr 2
      have c2 : wr.cell? ⟨g, k * 3 + 2, none⟩ = some (.int .i64 (q + 1 + 1)) := by
        rw [hS.cell, HM.out.at _ (by omega)]; unfold markF; rw [HQ.out]; congr 2
      clear hq hS
      go_wp2_with fail
      go_roundw
      case rel => exact ⟨k + 1, q + 1 + 1 + 1, by omega, by go_num, by go_num, by rw [HQ.out]; omega, HS.out⟩
      case measure => simp [intOf]; omega
    · obtain rfl : k = n := by omega
      go_wp2_with fail
      go_ret
      exact ⟨ret_int HQ.out, hS.below _⟩

/-- the blocks that a slice owns -/
def blocksOf (v : Value) : List Nat := v.ownBlock.toList
theorem OwnL.touch {w w' : World} {base : Nat} {v : Value} {L : List Ent} {S : List Nat} (h : OwnL w base v L) (ht : Touch S w w') (hS : ∀ g, v.ownBlock = some g → g ∉ S) : OwnL w' base v L := by
  obtain ⟨h1, h2⟩ := h
  refine ⟨h1, h2.imp id ?_⟩
  rintro ⟨g, cap, cur, rfl, hg, hb, hr⟩
  exact ⟨g, cap, cur, rfl, hg, (ht.block g (blk_lt hb) (hS g rfl)).trans hb, hr⟩
theorem OwnL.blk {w : World} {base : Nat} {v : Value} {L : List Ent} (h : OwnL w base v L) : ∀ g, v.ownBlock = some g → base ≤ g ∧ g < w.heap.size := World.ownsRow.lt h
/-- a slice of n entries that bears the marks from m on -/
def MarkedV (w : World) (v : Value) (n m : Nat) : Prop := (v = .slice none 0 0 ∧ n = 0) ∨ ∃ g cap, v = .slice (some ⟨g, 0, none⟩) n cap ∧ RowTo g 39 (n * 3) (markF m) (n * 3) w
theorem MarkedV.up {w w' : World} {v : Value} {n m : Nat} (h : MarkedV w v n m) (hb : Below w.heap.size w w') : MarkedV w' v n m :=
  h.imp id (by rintro ⟨g, cap, rfl, hr⟩; exact ⟨g, cap, rfl, hr.keep (hb.block _ hr.lt)⟩)
theorem markNil_any (m : Nat) (w : World) : Calls Try.prog 16 #[.slice none 0 0, .int .i64 m] w fun e w' => e = .returned (.int .i64 m) ∧ w = w' := by
  go_enter Try.func16, Try.ntmps16
  go_wp2_with fail
  go_loop [1, 5] (fun x i => x = .int .i64 m ∧ i = .int .i64 0) (fun _ _ => 0)
  case atStart => exact ⟨rfl, rfl⟩
  case round =>
    obtain ⟨rfl, rfl⟩ := hrel
    go_wp2_with fail
    go_ret
    exact ⟨rfl, rfl⟩
theorem heldNil_any (m : Nat) (w : World) : Calls Try.prog 17 #[.slice none 0 0, .int .i64 m] w fun e w' => e = .returned (.int .i64 m) ∧ w = w' := by
  go_enter Try.func17, Try.ntmps17
  go_wp2_with fail
  go_loop [1, 5] (fun x i => x = .int .i64 m ∧ i = .int .i64 0) (fun _ _ => 0)
  case atStart => exact ⟨rfl, rfl⟩
  case round =>
    obtain ⟨rfl, rfl⟩ := hrel
    go_wp2_with fail
    go_ret
    exact ⟨rfl, rfl⟩
theorem markOwn_any {base : Nat} {v : Value} {L : List Ent} (m : Nat) (w : World) (h : OwnL w base v L) (hn : L.length ≤ 1048576) (hm : m ≤ 100000000) :
    Calls Try.prog 16 #[v, .int .i64 m] w fun e w' => e = .returned (.int .i64 ((m + L.length * 3 : Nat) : Int)) ∧ MarkedV w' v L.length m ∧ Touch (blocksOf v) w w' := by
  rcases h.row with ⟨rfl, rfl⟩ | ⟨g, cap, rfl, _, hr⟩
  · refine (markNil_any m w).mono ?_
    rintro e w' ⟨rfl, rfl⟩
    exact ⟨by simp, .inl ⟨rfl, rfl⟩, Touch.refl _ _⟩
  · refine (markEnts_any g L.length cap m _ w hr hn hm).mono ?_
    rintro e w' ⟨rfl, h1, h2⟩
    exact ⟨rfl, .inr ⟨g, cap, rfl, h1⟩, h2⟩
theorem heldOwn_any {v : Value} {n : Nat} (m : Nat) (w : World) (h : MarkedV w v n m) (hn : n ≤ 1048576) (hm : m ≤ 100000000) :
    Calls Try.prog 17 #[v, .int .i64 m] w fun e w' => e = .returned (.int .i64 ((m + n * 3 : Nat) : Int)) ∧ Below w.heap.size w w' := by
  rcases h with ⟨rfl, rfl⟩ | ⟨g, cap, rfl, hr⟩
  · refine (heldNil_any m w).mono ?_
    rintro e w' ⟨rfl, rfl⟩
    exact ⟨by simp, Below.refl _ _⟩
  · exact heldEnts_any g n cap m w hr hn hm
end Go.Proofs.Ytaikjgjdggpnjaa
