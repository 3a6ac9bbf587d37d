/- The program's looks at an arena's cells: contracts. -/
import Derived.Test.YthkkogpegmmbdaaArRow
import Derived.Test.YthkkogpegmmbdaaArMath
namespace Go.Proofs.Ythkkogpegmmbdaa
open Go.RowKit
set_option linter.unusedVariables false

theorem ends_any (g n cap : Nat) (a : Int) (nx : Nat → Int) (dt : Nat → ByteArray) (w : World) (hn : n ≤ 1000) (hc : CellRow w g 0 n nx dt) (hr : inRange n nx) (h0 : -1 ≤ a) (h1 : a < n) :
    Calls Try.prog 48 #[.slice (some ⟨g, 0, none⟩) n cap, .int .i64 a] w fun e w' => e = .returned (.bool (decide (goN nx n a = -1))) ∧ w = w' := by
  go_enter Try.func48, Try.ntmps48
  go_wp2_with fail
  go_loop [1, 7] (fun x i => ∃ (k : Nat) (b : Int), k ≤ n ∧ i = .int .i64 k ∧ x = .int .i64 b ∧ -1 ≤ b ∧ b < n ∧ goN nx (n - k) b = goN nx n a) (fun _ i => n - (intOf i).toNat)
  case atStart => exact ⟨0, a, Nat.zero_le _, rfl, rfl, h0, h1, rfl⟩
  case round =>
    obtain ⟨k, b, hk, rfl, rfl, b0, b1, hg⟩ := hrel
    have HG : Hid (goN nx (n - k) b = goN nx n a) := hg
    clear hg
    by_cases hlt : k < n
    · have hlt' : (k : Int) < n := by omega
      by_cases hb : b = -1
      · have hq : (b == -1) = true := by simp [hb]
        have HD : Hid (decide (goN nx n a = -1) = true) := by
          show _ = _
          rw [← HG.out, hb, goN_end]; rfl
        clear hb
        go_wp2_with fail
        go_ret
        exact ⟨ret_bool HD.out.symm, rfl⟩
      · have hq : (b == -1) = false := by simp [hb]
        obtain ⟨m, rfl⟩ := Int.eq_ofNat_of_zero_le (show 0 ≤ b by omega)
        have hm : m < n := by omega
        have hm' : (m : Int) < n := by omega
        have q1 := (hc m hm).1
        rw [Nat.zero_add] at q1
        obtain ⟨r0, r1⟩ := hr m hm
        clear hc hr
        go_wp2_with fail
        go_round
        case rel =>
          refine ⟨k + 1, nx m, by omega, by go_num, rfl, r0, r1, ?_⟩
          rw [← HG.out, show n - k = (n - (k + 1)) + 1 by omega, goN_step _ _ _ hb, Int.toNat_natCast]
        case measure => simp [intOf]; omega
    · obtain rfl : k = n := by omega
      have HD : Hid (goN nx k a = b) := by
        have := HG.out
        rw [Nat.sub_self] at this
        exact this.symm
      go_wp2_with fail
      go_ret
      exact ⟨ret_bool (by rw [HD.out]; rfl), rfl⟩

theorem withoutRing_any (g n cap : Nat) (nx : Nat → Int) (dt : Nat → ByteArray) (w : World) (hn : n ≤ 1000) (hc : CellRow w g 0 n nx dt) (hr : inRange n nx) (b : Bool) (hb : b = true ↔ ringsP n nx) :
    Calls Try.prog 34 #[.slice (some ⟨g, 0, none⟩) n cap] w fun e w' => e = .returned (.bool b) ∧ w = w' := by
  go_enter Try.func34, Try.ntmps34
  go_wp2_with fail
  go_loop [6] (fun i => ∃ k : Nat, k ≤ n ∧ i = .int .i64 k ∧ ∀ j, j < k → goN nx n j = -1) (fun i => n - (intOf i).toNat)
  case atStart => exact ⟨0, Nat.zero_le _, rfl, fun j hj => by omega⟩
  case round =>
    obtain ⟨k, hk, rfl, hall⟩ := hrel
    have HA : Hid (∀ j, j < k → goN nx n j = -1) := hall
    have HB : Hid (b = true ↔ ringsP n nx) := hb
    clear hall hb
    by_cases hlt : k < n
    · have hlt' : (k : Int) < n := by omega
      go_wp2_with fail
      refine (ends_any _ _ _ _ nx dt _ hn hc hr (by omega) (by omega)).mono ?_
      rintro e w1 ⟨rfl, rfl⟩
      by_cases hg : goN nx n k = -1
      · rw [decide_eq_true hg]
        have HG : Hid (goN nx n k = -1) := hg
        clear hg
        go_wp2_with fail
        go_round
        case rel => exact ⟨k + 1, by omega, by go_num, fun j hj => by
          by_cases e : j = k
          · subst e; exact HG.out
          · exact HA.out j (by omega)⟩
        case measure => simp [intOf]; omega
      · rw [decide_eq_false hg]
        have HF : Hid (b = false) := by
          cases b
          · exact rfl
          · exact absurd (HB.out.1 rfl k hlt) hg
        clear hg
        go_wp2_with fail
        go_ret
        exact ⟨ret_bool HF.out.symm, rfl⟩
    · obtain rfl : k = n := by omega
      have HT : Hid (b = true) := HB.out.2 HA.out
      go_wp2_with fail
      go_ret
      exact ⟨ret_bool HT.out.symm, rfl⟩

def lenV : Value → Nat | .slice _ n _ => n | _ => 0
theorem from_next {w wr w' : World} {k : Nat} {xs ys : List Value} {v v' : Value} {o : Obj} (hB : Below w.heap.size w wr) (hown : wr.ownsRow w.heap.size 2 1 v k xs) (hown' : w'.ownsRow w.heap.size 2 1 v' (k + 1) ys) (hg : (wr.alloc o).grownBy w' v.ownBlock) :
    ∃ g2 cap2, v' = .slice (some ⟨g2, 0, none⟩) (k + 1) cap2 ∧ w'.ownsRow w.heap.size 2 1 v' (k + 1) ys ∧ Below w.heap.size w w' := by
  rcases own_forms hown' with ⟨_, h0⟩ | ⟨g2, cap2, rfl⟩
  · omega
  have hz := hB.size
  refine ⟨g2, cap2, rfl, hown', (hB.alloc hz o).grown hg (by simp; omega) (fun j hj => ?_)⟩
  rcases hown.2 with ⟨rfl, _⟩ | ⟨g, cap, cur, rfl, hge, _⟩
  · cases hj
  · simp only [Value.ownBlock, Option.some.injEq] at hj
    omega

set_option maxHeartbeats 1000000 in
theorem cellsFrom_any (g n cap : Nat) (a : Int) (nx : Nat → Int) (dt : Nat → ByteArray) (w : World) (hn : n ≤ 1000) (hgl : g < w.heap.size) (hc : CellRow w g 0 n nx dt) (hr : inRange n nx) (h0 : -1 ≤ a) (h1 : a < n) (he : goN nx n a = -1) :
    Calls Try.prog 36 #[.slice (some ⟨g, 0, none⟩) n cap, .int .i64 a] w fun e w' => ∃ v, e = .returned v ∧ w'.ownsRow w.heap.size 2 1 v (walkL nx n a).length ((walkL nx n a).map (.int .i64)) ∧ Below w.heap.size w w' := by
  obtain ⟨i0, hi, hz0, hz1, hz2⟩ := info_parts info2
  have HE : Hid (goN nx n a = -1) := he
  clear he
  go_enter Try.func36, Try.ntmps36
  go_wp2_with fail
  go_loopw [1, 5] (fun x v wr => ∃ (f : Nat) (b : Int) (v' : Value) (xs : List Int), x = .int .i64 b ∧ v = v' ∧ wr.ownsRow w.heap.size 2 1 v' xs.length (xs.map (.int .i64)) ∧ xs ++ walkL nx f b = walkL nx n a ∧ goN nx f b = -1 ∧ -1 ≤ b ∧ b < n ∧ Below w.heap.size w wr ∧ xs.length + f ≤ n) (fun _ v _ => n - lenV v)
  case atStart => exact ⟨n, a, _, [], rfl, rfl, ⟨by simp, .inl ⟨rfl, rfl⟩⟩, rfl, HE.out, h0, h1, Below.refl _ _, by simp⟩
  case round =>
    obtain ⟨f, b, v, xs, rfl, rfl, hown, hw, hg, b0, b1, hB, hlen⟩ := hrel
    have HW : Hid (xs ++ walkL nx f b = walkL nx n a) := hw
    have HG : Hid (goN nx f b = -1) := hg
    clear hw hg
    by_cases hb : b = -1
    · have hq : (b == -1) = true := by simp [hb]
      have HX : Hid (walkL nx n a = xs) := by
        have := HW.out
        rw [hb, walkL_end, List.append_nil] at this
        exact this.symm
      clear hb
      go_wp2_with fail
      go_ret
      refine ⟨_, rfl, ?_, hB⟩
      rw [HX.out]
      exact hown
    · have hq : (b == -1) = false := by simp [hb]
      obtain ⟨m, rfl⟩ := Int.eq_ofNat_of_zero_le (show 0 ≤ b by omega)
      obtain ⟨f', rfl⟩ : ∃ f', f = f' + 1 := by
        cases f with
        | zero => exact absurd HG.out hb
        | succ f => exact ⟨f, rfl⟩
      have hm : m < n := by omega
      have hm' : (m : Int) < n := by omega
      have q1 := (hc m hm).1
      rw [Nat.zero_add] at q1
      obtain ⟨r0, r1⟩ := hr m hm
      have zB := hB.size
      clear hc hr
      rcases own_forms hown with ⟨rfl, hk0⟩ | ⟨g', cap', rfl⟩
      · clear hk0
        go_wp2_with (at_builtin; refine wpList_append_own _ rfl (.tmp 8) (.tmp 10) 24 rfl w.heap.size 2 i0 (.int .i64 0) 1 8 Try.underlying24 hi hz0 hz1 hz2 rfl (by decide) _ xs.length _ rfl (hown.alloc _) ⟨wr.heap.size, 0, none⟩ 1 1 [.int .i64 (m : Int)] rfl rfl (cell_one_new _ _ _) (one_int _) (by unfold maxLen; omega) (by omega) (by simp; omega) ?_; intro v' w' hown' hgrow' hnil'; obtain ⟨g2, cap2, rfl, o2, B2⟩ := from_next hB hown hown' hgrow'; have q2 := (B2.cell (p := ⟨g, m * 2, none⟩) hgl).trans q1)
        go_roundw
        case rel =>
          refine ⟨f', nx m, _, xs ++ [(m : Int)], rfl, rfl, ?_, ?_, ?_, r0, r1, B2, by simp; omega⟩
          · simpa using o2
          · rw [List.append_assoc, ← HW.out, walkL_step _ _ _ hb, Int.toNat_natCast]; rfl
          · rw [← HG.out, goN_step _ _ _ hb, Int.toNat_natCast]
        case measure => simp [lenV]; omega
      · go_wp2_with (at_builtin; refine wpList_append_own _ rfl (.tmp 8) (.tmp 10) 24 rfl w.heap.size 2 i0 (.int .i64 0) 1 8 Try.underlying24 hi hz0 hz1 hz2 rfl (by decide) _ xs.length _ rfl (hown.alloc _) ⟨wr.heap.size, 0, none⟩ 1 1 [.int .i64 (m : Int)] rfl rfl (cell_one_new _ _ _) (one_int _) (by unfold maxLen; omega) (by omega) (by simp; omega) ?_; intro v' w' hown' hgrow' hnil'; obtain ⟨g2, cap2, rfl, o2, B2⟩ := from_next hB hown hown' hgrow'; have q2 := (B2.cell (p := ⟨g, m * 2, none⟩) hgl).trans q1)
        go_roundw
        case rel =>
          refine ⟨f', nx m, _, xs ++ [(m : Int)], rfl, rfl, ?_, ?_, ?_, r0, r1, B2, by simp; omega⟩
          · simpa using o2
          · rw [List.append_assoc, ← HW.out, walkL_step _ _ _ hb, Int.toNat_natCast]; rfl
          · rw [← HG.out, goN_step _ _ _ hb, Int.toNat_natCast]
        case measure => simp [lenV]; omega

theorem isCell_any (a : Int) (n : Nat) (w : World) (hn : n ≤ 1000) :
    Calls Try.prog 47 #[.int .i64 a, .int .i64 n] w fun e w' => e = .returned (.bool (decide (0 ≤ a ∧ a < n))) ∧ w = w' := by
  by_cases h1 : 0 ≤ a
  · go_enter Try.func47, Try.ntmps47
    go_wp2_with fail
    go_ret
    exact ⟨ret_bool (by simp [h1]), rfl⟩
  · go_enter Try.func47, Try.ntmps47
    go_wp2_with fail
    go_ret
    exact ⟨ret_bool (by simp; omega), rfl⟩

theorem info4 : (Try.prog.info? 4).map (fun i => (i.zero, i.size, i.bytes)) = some (some (.bool false), 1, 1) := by kernel_rfl
def zBools (n : Nat) : Array Value := madeCells #[.bool false] n
theorem make_bools (n : Nat) (hn : n ≤ 1048576) (w : World) : (Instr.makeSlice 77 (.int .i64 (n : Int)) (.int .i64 (n : Int))).run Try.prog w = .ok (.slice (some ⟨w.heap.size, 0, none⟩) n n) (w.alloc (.cells (zBools n) 4)) := by
  obtain ⟨i0, hi, hz0, hz1, hz2⟩ := info_parts info4
  have := run_make (P := Try.prog) w 77 4 i0 (.bool false) Try.underlying77 hi hz0 .i64 .i64 (n : Int) (n : Int) (by omega) (by omega) (by rw [hz2]; omega) (by omega)
  rw [this, hz1]
  simp [zBools, Value.cells]
theorem zBools_row {w : World} {g n : Nat} (h : w.heap[g]? = some (.cells (zBools n) 4 (0, 0))) : RowTo g 4 n (fun _ => .bool false) n w :=
  ⟨_, h, by simp [zBools, size_madeCells], fun i hi => made_at _ n i hi⟩

theorem one_at (w : World) (o : Obj) (x : Value) : ∀ j u, [x][j]? = some u → ((w.alloc o).alloc (.cells #[x] 2)).cell? ((⟨w.heap.size + 1, 0, none⟩ : Addr).add j) = some u := by
  have e : (w.alloc o).heap.size = w.heap.size + 1 := by simp
  have := cell_one_new (w.alloc o) x 2
  rw [e] at this
  exact this
theorem from_next2 {w wr w' : World} {k : Nat} {xs ys : List Value} {v v' : Value} {o o' : Obj} (hB : Below w.heap.size w wr) (hown : wr.ownsRow w.heap.size 2 1 v k xs) (hown' : w'.ownsRow w.heap.size 2 1 v' (k + 1) ys) (hg : ((wr.alloc o).alloc o').grownBy w' v.ownBlock) :
    ∃ g2 cap2, v' = .slice (some ⟨g2, 0, none⟩) (k + 1) cap2 ∧ w'.ownsRow w.heap.size 2 1 v' (k + 1) ys ∧ Below w.heap.size w w' :=
  from_next (hB.alloc hB.size o) (hown.alloc o) hown' hg
end Go.Proofs.Ythkkogpegmmbdaa
