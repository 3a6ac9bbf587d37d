/- The specification's looks at an arena: contracts. -/
import Derived.Test.YtjliapdfjjblnaaArOk
namespace Go.Proofs.Ytjliapdfjjblnaa
open Go.RowKit
set_option linter.unusedVariables false

/-- a slice that reads as a list of numbers -/
def RdInts (w : World) (a : Option Addr) (xs : List Int) : Prop := ∀ i (hi : i < xs.length), ∃ g o, a = some ⟨g, o, none⟩ ∧ w.cell? ⟨g, o + i, none⟩ = some (.int .i64 xs[i])

theorem l2Has_any (a : Option Addr) (cap : Nat) (xs : List Int) (x : Int) (w : World) (hn : xs.length ≤ 1048576) (h : RdInts w a xs) :
    Calls Try.prog 46 #[.slice a xs.length cap, .int .i64 x] w fun e w' => e = .returned (.bool (decide (x ∈ xs))) ∧ w = w' := by
  go_enter Try.func46, Try.ntmps46
  go_wp2_with fail
  go_loop [5] (fun i => ∃ k : Nat, k ≤ xs.length ∧ i = .int .i64 k ∧ ∀ j (h : j < xs.length), j < k → xs[j] ≠ x) (fun i => xs.length - (intOf i).toNat)
  case atStart => exact ⟨0, Nat.zero_le _, rfl, fun j _ hj => by omega⟩
  case round =>
    obtain ⟨k, hk, rfl, hno⟩ := hrel
    have HN : Hid (∀ j (h : j < xs.length), j < k → xs[j] ≠ x) := hno
    clear hno
    by_cases hlt : k < xs.length
    · obtain ⟨g, o, rfl, hc⟩ := h k hlt
      have hlt' : (k : Int) < xs.length := by omega
      have HX : Hid (xs[k] ∈ xs) := List.getElem_mem hlt
      have HQ : Hid (xs[k] ≠ x → ∀ j (h : j < xs.length), j < k + 1 → xs[j] ≠ x) := fun hne j h hj => by
        by_cases e : j = k
        · subst e; exact hne
        · exact HN.out j h (by omega)
      generalize xs[k] = y at *
      by_cases hy : y = x
      · have hq : (y == x) = true := by simp [hy]
        have HD : Hid (decide (x ∈ xs) = true) := decide_eq_true (hy ▸ HX.out)
        clear hy h
        go_wp2_with fail
        go_ret
        exact ⟨ret_bool HD.out.symm, rfl⟩
      · have hq : (y == x) = false := by simp [hy]
        have HY : Hid (y ≠ x) := hy
        clear hy h
        go_wp2_with fail
        go_round
        case rel => exact ⟨k + 1, by omega, by go_num, HQ.out HY.out⟩
        case measure => simp [intOf]; omega
    · obtain rfl : k = xs.length := by omega
      have HD : Hid (decide (x ∈ xs) = false) := decide_eq_false (fun hm => by
        obtain ⟨j, hj, e⟩ := List.getElem_of_mem hm
        exact HN.out j hj hj e)
      clear h
      go_wp2_with fail
      go_ret
      exact ⟨ret_bool HD.out.symm, rfl⟩

theorem own_base {w : World} {base base' n : Nat} {e : TypeId} {size : Nat} {v : Value} {xs : List Value} (h : w.ownsRow base e size v n xs) (hb : base' ≤ base) : w.ownsRow base' e size v n xs := by
  obtain ⟨hl, h | ⟨g', cap', cur, hv, hg, hr⟩⟩ := h
  · exact ⟨hl, .inl h⟩
  · exact ⟨hl, .inr ⟨g', cap', cur, hv, Nat.le_trans hb hg, hr⟩⟩
theorem from_nextB {B : Nat} {w wr w' : World} {k : Nat} {xs ys : List Value} {v v' : Value} {o : Obj} (hz : B ≤ wr.heap.size) (hB : Below B w wr) (hown : wr.ownsRow B 2 1 v k xs) (hown' : w'.ownsRow B 2 1 v' (k + 1) ys) (hg : (wr.alloc o).grownBy w' v.ownBlock) :
    ∃ g2 cap2, v' = .slice (some ⟨g2, 0, none⟩) (k + 1) cap2 ∧ w'.ownsRow B 2 1 v' (k + 1) ys ∧ Below B w w' := by
  rcases own_forms hown' with ⟨_, h0⟩ | ⟨g2, cap2, rfl⟩
  · omega
  refine ⟨g2, cap2, rfl, hown', (hB.alloc hz o).grown hg (by simp; omega) (fun j hj => ?_)⟩
  rcases hown.2 with ⟨rfl, _⟩ | ⟨g, cap, cur, rfl, hge, _⟩
  · cases hj
  · simp only [Value.ownBlock, Option.some.injEq] at hj
    omega
set_option maxHeartbeats 1000000 in
theorem l2Walk_any (a1 b1 : Option Addr) (n c1 d1 m : Nat) (fr a : Int) (nx : Nat → Int) (w : World) (hn : n ≤ 1000) (h1 : RdRow w a1 n fun i => .int .i64 (nx i)) (hr : inRange n nx) (h0 : -1 ≤ a) (ha : a < n) :
    Calls Try.prog 29 #[.agg #[.slice a1 n c1, .slice b1 m d1, .int .i64 fr], .int .i64 a] w fun e w' => (goN nx n a = -1 ∧ (∃ v, e = .returned (.tuple #[v, .bool true]) ∧ w'.ownsRow w.heap.size 2 1 v (walkL nx n a).length ((walkL nx n a).map (.int .i64))) ∨ goN nx n a ≠ -1 ∧ e = .returned (.tuple #[.slice none 0 0, .bool false])) ∧ Below w.heap.size w w' := by
  obtain ⟨i0, hi, hz0, hz1, hz2⟩ := info_parts info2
  have e1 : ∀ o, (w.alloc o).heap.size = w.heap.size + 1 := by intro o; simp
  go_enter Try.func29, Try.ntmps29
  go_wp2_with fail
  go_loopw [1, 6] (fun x v wr => ∃ (f : Nat) (b : Int) (g' cap' : Nat) (xs : List Int), x = .int .i64 b ∧ v = .slice (some ⟨g', 0, none⟩) xs.length cap' ∧ wr.ownsRow (w.heap.size + 1) 2 1 (.slice (some ⟨g', 0, none⟩) xs.length cap') xs.length (xs.map (.int .i64)) ∧ xs ++ walkL nx f b = walkL nx n a ∧ goN nx f b = goN nx n a ∧ -1 ≤ b ∧ b < n ∧ Below (w.heap.size + 1) (w.alloc (.cells #[.slice a1 n c1, .slice b1 m d1, .int .i64 fr] 28)) wr ∧ xs.length + f = n) (fun _ v _ => n - lenV v)
  case atStart =>
    refine ⟨n, a, _, 0, [], rfl, rfl, ⟨by simp, .inr ⟨_, _, #[], rfl, Nat.le_refl _, ?_, by simp, by unfold maxLen; omega, by simp, by simp⟩⟩, rfl, rfl, h0, ha, (Below.refl _ _).alloc (by rw [e1]; omega) _, by simp⟩
    have := blk_new (w.alloc (.cells #[.slice a1 n c1, .slice b1 m d1, .int .i64 fr] 28)) (.cells #[] 2)
    rw [e1] at this
    exact this
  case round =>
    obtain ⟨f, b, g', cap', xs, rfl, rfl, hown, hw, hg, b0, b1', hB, hlen⟩ := hrel
    have HW : Hid (xs ++ walkL nx f b = walkL nx n a) := hw
    have HG : Hid (goN nx f b = goN nx n a) := hg
    clear hw hg
    have hz := upper hB
    have hBw := under hB
    have cb := boxed hB
    by_cases hb : b < 0
    · obtain rfl : b = -1 := by omega
      have HX : Hid (walkL nx n a = xs) := by
        have := HW.out
        rw [walkL_end, List.append_nil] at this
        exact this.symm
      have HE : Hid (goN nx n a = -1) := by
        have := HG.out
        rw [goN_end] at this
        exact this.symm
      clear h1 hr
      go_wp2_with fail
      refine bodyPost_ret (v := .tuple #[.slice (some ⟨g', 0, none⟩) xs.length cap', .bool true]) (by simp [results, Try.results29, go_sem]) rfl ⟨.inl ⟨HE.out, _, rfl, ?_⟩, hBw⟩
      rw [HX.out]
      exact own_base hown (by omega)
    · have hb' : 0 ≤ b := by omega
      by_cases hf : xs.length = n
      · have hq : ((xs.length : Int) == (n : Int)) = true := by simp [hf]
        have HE : Hid (goN nx n a ≠ -1) := by
          obtain rfl : f = 0 := by omega
          have := HG.out
          rw [goN] at this
          show _ ≠ _
          rw [← this]
          omega
        clear h1 hr
        go_wp2_with fail
        exact bodyPost_ret (v := .tuple #[.slice none 0 0, .bool false]) (by simp [results, Try.results29, go_sem]) rfl ⟨.inr ⟨HE.out, rfl⟩, hBw⟩
      · have hq : ((xs.length : Int) == (n : Int)) = false := by simp; omega
        obtain ⟨q, rfl⟩ := Int.eq_ofNat_of_zero_le hb'
        obtain ⟨f', rfl⟩ : ∃ f', f = f' + 1 := ⟨f - 1, by omega⟩
        have hm : q < n := by omega
        have hm' : (q : Int) < n := by omega
        have hne : (q : Int) ≠ -1 := by omega
        obtain ⟨g1, o1, rfl, p1⟩ := h1 q hm
        obtain ⟨r0, r1⟩ := hr q hm
        clear h1 hr
        go_wp2_with (at_builtin; refine wpList_append_own _ rfl (.tmp 16) (.tmp 18) 22 rfl (w.heap.size + 1) 2 i0 (.int .i64 0) 1 8 Try.underlying22 hi hz0 hz1 hz2 rfl (by decide) _ xs.length _ rfl (hown.alloc _) ⟨wr.heap.size, 0, none⟩ 1 1 [.int .i64 (q : Int)] rfl rfl (cell_one_new _ _ _) (one_int _) (by unfold maxLen; omega) (by omega) (by simp; omega) ?_; intro v' w' hown' hgrow' hnil'; obtain ⟨g2, cap2, rfl, o2, B2⟩ := from_nextB hz hB hown hown' hgrow'; have q2 := ((under B2).cell (p := ⟨g1, o1 + q, none⟩) (cellLt p1)).trans p1; have cb2 := boxed B2)
        go_roundw
        case rel =>
          refine ⟨f', nx q, g2, cap2, xs ++ [(q : Int)], rfl, ?_, ?_, ?_, ?_, r0, r1, B2, by simp; omega⟩
          · simp
          · simpa using o2
          · rw [List.append_assoc, ← HW.out, walkL_step _ _ _ hne, Int.toNat_natCast]; rfl
          · rw [← HG.out, goN_step _ _ _ hne, Int.toNat_natCast]
        case measure => simp [lenV]; omega
end Go.Proofs.Ytjliapdfjjblnaa
