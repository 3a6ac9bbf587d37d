/- Where a chain begins: both sides' contracts. -/
import Derived.Test.YthkkogpegmmbdaaArFree
namespace Go.Proofs.Ythkkogpegmmbdaa
open Go.RowKit
set_option linter.unusedVariables false
set_option linter.unusedSimpArgs false

theorem index_any (a : Option Addr) (n cap : Nat) (f : Nat → Int) (x : Int) (w : World) (hn : n ≤ 1048576) (h : RdRow w a n fun i => .int .i64 (f i)) :
    Calls Try.prog 56 #[.slice a n cap, .int .i64 x] w fun e w' => (∃ r : Int, e = .returned (.int .i64 r) ∧ (r = -1 ∧ (∀ i, i < n → f i ≠ x) ∨ 0 ≤ r ∧ ∃ i, i < n ∧ f i = x)) ∧ w = w' := by
  go_enter Try.func56, Try.ntmps56
  go_wp2_with fail
  go_loop [8] (fun i => ∃ k : Nat, k ≤ n ∧ i = .int .i64 k ∧ ∀ j, j < k → f j ≠ x) (fun i => n - (intOf i).toNat)
  case atStart => exact ⟨0, Nat.zero_le _, rfl, fun j hj => by omega⟩
  case round =>
    obtain ⟨k, hk, rfl, hno⟩ := hrel
    have HN : Hid (∀ j, j < k → f j ≠ x) := hno
    clear hno
    by_cases hlt : k < n
    · obtain ⟨g, o, rfl, hc⟩ := h k hlt
      have hlt' : (k : Int) < n := by omega
      dsimp only at hc
      have HQ : Hid (f k ≠ x → ∀ j, j < k + 1 → f j ≠ x) := fun hne j hj => by
        by_cases e : j = k
        · subst e; exact hne
        · exact HN.out j (by omega)
      have HI : Hid (f k = x → ∃ i, i < n ∧ f i = x) := fun e => ⟨k, hlt, e⟩
      clear h
      generalize f k = y at *
      by_cases hy : y = x
      · have hq : (x == y) = true := by simp [hy]
        have HY : Hid (y = x) := hy
        clear hy
        go_wp2_with fail
        go_ret
        exact ⟨⟨_, rfl, .inr ⟨by omega, HI.out HY.out⟩⟩, rfl⟩
      · have hq : (x == y) = false := by simp; exact fun e => hy e.symm
        have HY : Hid (y ≠ x) := hy
        clear hy
        go_wp2_with fail
        go_round
        case rel => exact ⟨k + 1, by omega, by go_num, HQ.out HY.out⟩
        case measure => simp [intOf]; omega
    · obtain rfl : k = n := by omega
      clear h
      go_wp2_with fail
      go_ret
      exact ⟨⟨_, rfl, .inl ⟨rfl, HN.out⟩⟩, rfl⟩
theorem contains_any (a : Option Addr) (n cap : Nat) (f : Nat → Int) (x : Int) (w : World) (hn : n ≤ 1048576) (h : RdRow w a n fun i => .int .i64 (f i)) :
    Calls Try.prog 50 #[.slice a n cap, .int .i64 x] w fun e w' => (∃ r : Bool, e = .returned (.bool r) ∧ (r = true ↔ ∃ i, i < n ∧ f i = x)) ∧ w = w' := by
  go_enter Try.func50, Try.ntmps50
  go_wp2_with fail
  refine (index_any a n cap f x w hn h).mono ?_
  rintro e w1 ⟨⟨r, rfl, hr⟩, rfl⟩
  rcases hr with ⟨rfl, hno⟩ | ⟨r0, hyes⟩
  · have HN : Hid (∀ i, i < n → f i ≠ x) := hno
    clear hno
    go_wp2_with fail
    go_ret
    exact ⟨⟨false, rfl, ⟨fun h => absurd h (by decide), fun ⟨i, hi, e⟩ => absurd e (HN.out i hi)⟩⟩, rfl⟩
  · have HY : Hid (∃ i, i < n ∧ f i = x) := hyes
    clear hyes
    go_wp2_with fail
    go_ret
    exact ⟨⟨true, ret_bool (by simp [r0]), ⟨fun _ => HY.out, fun _ => rfl⟩⟩, rfl⟩
theorem rd_ints {w : World} {a : Option Addr} {n : Nat} {f : Nat → Int} (h : RdRow w a n fun i => .int .i64 (f i)) : RdInts w a ((List.range n).map f) := fun i hi => by
  have hi' : i < n := by simpa using hi
  obtain ⟨g, o, e, c⟩ := h i hi'
  exact ⟨g, o, e, by simpa using c⟩
def headP (n : Nat) (nx : Nat → Int) (dt : Nat → ByteArray) (h : Int) : Prop := 0 ≤ h ∧ h < n ∧ (dt h.toNat).size ≠ 0 ∧ ∀ i, i < n → nx i ≠ h

set_option maxHeartbeats 1000000 in
theorem begins_any (a1 b1 : Option Addr) (n c1 d1 : Nat) (fr h : Int) (nx : Nat → Int) (dt : Nat → ByteArray) (w : World) (hn : n ≤ 1000) (hd : ∀ i, i < n → (dt i).size ≤ maxLen) (h1 : RdRow w a1 n fun i => .int .i64 (nx i)) (h2 : RdRow w b1 n fun i => .string (dt i)) (b : Bool) (hb : b = true ↔ headP n nx dt h) :
    Calls Try.prog 39 #[.agg #[.slice a1 n c1, .slice b1 n d1, .int .i64 fr], .int .i64 h] w fun e w' => e = .returned (.bool b) ∧ Below w.heap.size w w' := by
  have HA : Hid (∀ o, Below w.heap.size w (w.alloc o)) := fun o => (Below.refl _ _).alloc (Nat.le_refl _) _
  have HB : Hid (b = true ↔ headP n nx dt h) := hb
  clear hb
  go_enter Try.func39, Try.ntmps39
  go_wp2_with fail
  refine (isCell_any _ _ _ hn).mono ?_
  rintro e w1 ⟨rfl, rfl⟩
  by_cases hin : 0 ≤ h ∧ h < (n : Int)
  · rw [decide_eq_true hin]
    obtain ⟨q, rfl⟩ := Int.eq_ofNat_of_zero_le hin.1
    have hq : q < n := by omega
    have hq' : (q : Int) < n := by omega
    obtain ⟨g2, o2, rfl, p2⟩ := h2 q hq
    have hsz := hd q hq
    have HP : Hid (headP n nx dt q ↔ (dt q).size ≠ 0 ∧ ∀ i, i < n → nx i ≠ q) := ⟨fun h => ⟨by simpa using h.2.2.1, h.2.2.2⟩, fun h => ⟨by omega, by omega, by simpa using h.1, h.2⟩⟩
    dsimp only at p2
    have lt2 := cellLt p2
    have p3 := fun o => ((HA.out o).cell (p := ⟨g2, o2 + q, none⟩) lt2).trans p2
    clear h2 hd p2 hin
    by_cases hs : (dt q).size = 0
    · have hs1 : dt q = ⟨#[]⟩ := ByteArray.size_eq_zero_iff.1 hs
      have HF : Hid (b = false) := by
        cases b
        · exact rfl
        · exact absurd hs (HP.out.1 (HB.out.1 rfl)).1
      rw [hs1] at p3
      clear hs hs1
      go_wp2_with fail
      go_ret
      exact ⟨ret_bool HF.out.symm, HA.out _⟩
    · have HS : Hid ((dt q).size ≠ 0) := hs
      have hs1 : ((dt q).toList == []) = false := toList_beq_nil (by omega)
      have hs2 : ((dt q).toList != []) = true := by rw [bne, hs1]; rfl
      clear hs
      generalize dt q = s at *
      go_wp2_with fail
      refine (contains_any a1 n c1 nx q _ (by omega) (h1.up (HA.out _))).mono ?_
      rintro e w2 ⟨⟨r, rfl, hr⟩, rfl⟩
      by_cases hm : ∀ i, i < n → nx i ≠ q
      · have HF : Hid (b = true) := HB.out.2 (HP.out.2 ⟨HS.out, hm⟩)
        obtain rfl : r = false := by
          cases r
          · rfl
          · obtain ⟨i, hi, e⟩ := hr.1 rfl
            exact absurd e (hm i hi)
        clear hm hr
        go_wp2_with fail
        go_ret
        exact ⟨ret_bool HF.out.symm, HA.out _⟩
      · have HF : Hid (b = false) := by
          cases b
          · exact rfl
          · exact absurd (HP.out.1 (HB.out.1 rfl)).2 hm
        obtain rfl : r = true := hr.2 (by
          apply Classical.byContradiction
          intro hno
          exact hm (fun i hi e => hno ⟨i, hi, e⟩))
        clear hm hr
        go_wp2_with fail
        go_ret
        exact ⟨ret_bool HF.out.symm, HA.out _⟩
  · have HF : Hid (b = false) := by
      cases b
      · exact rfl
      · have := HB.out.1 rfl
        exact absurd ⟨this.1, by have := this.2.1; omega⟩ hin
    rw [decide_eq_false hin]
    clear hin
    go_wp2_with fail
    go_ret
    exact ⟨ret_bool HF.out.symm, HA.out _⟩

set_option maxHeartbeats 1000000 in
theorem l2Head_any (a1 b1 : Option Addr) (n c1 d1 : Nat) (fr h : Int) (nx : Nat → Int) (dt : Nat → ByteArray) (w : World) (hn : n ≤ 1000) (hd : ∀ i, i < n → (dt i).size ≤ maxLen) (h1 : RdRow w a1 n fun i => .int .i64 (nx i)) (h2 : RdRow w b1 n fun i => .string (dt i)) (b : Bool) (hb : b = true ↔ headP n nx dt h) :
    Calls Try.prog 51 #[.agg #[.slice a1 n c1, .slice b1 n d1, .int .i64 fr], .int .i64 h] w fun e w' => e = .returned (.bool b) ∧ Below w.heap.size w w' := by
  have HA : Hid (∀ o, Below w.heap.size w (w.alloc o)) := fun o => (Below.refl _ _).alloc (Nat.le_refl _) _
  have HB : Hid (b = true ↔ headP n nx dt h) := hb
  clear hb
  go_enter Try.func51, Try.ntmps51
  go_wp2_with fail
  refine (l1In_any _ _ _ _).mono ?_
  rintro e w1 ⟨rfl, hw1⟩
  subst hw1
  by_cases hin : 0 ≤ h ∧ h ≤ (n : Int) - 1
  · rw [decide_eq_true hin]
    obtain ⟨q, rfl⟩ := Int.eq_ofNat_of_zero_le hin.1
    have hq : q < n := by omega
    have hq' : (q : Int) < n := by omega
    obtain ⟨g2, o2, rfl, p2⟩ := h2 q hq
    have hsz := hd q hq
    have HP : Hid (headP n nx dt q ↔ (dt q).size ≠ 0 ∧ ∀ i, i < n → nx i ≠ q) := ⟨fun h => ⟨by simpa using h.2.2.1, h.2.2.2⟩, fun h => ⟨by omega, by omega, by simpa using h.1, h.2⟩⟩
    dsimp only at p2
    have lt2 := cellLt p2
    have p3 := fun o => ((HA.out o).cell (p := ⟨g2, o2 + q, none⟩) lt2).trans p2
    clear h2 hd p2 hin
    by_cases hs : (dt q).size = 0
    · have hs1 : dt q = ⟨#[]⟩ := ByteArray.size_eq_zero_iff.1 hs
      have HF : Hid (b = false) := by
        cases b
        · exact rfl
        · exact absurd hs (HP.out.1 (HB.out.1 rfl)).1
      rw [hs1] at p3
      clear hs hs1
      go_wp2_with fail
      go_ret
      exact ⟨ret_bool HF.out.symm, HA.out _⟩
    · have HS : Hid ((dt q).size ≠ 0) := hs
      have hs1 : ((dt q).toList == []) = false := toList_beq_nil (by omega)
      have hs2 : ((dt q).toList != []) = true := by rw [bne, hs1]; rfl
      clear hs
      generalize dt q = s at *
      go_wp2_with fail
      have hcall := l2Has_any a1 c1 ((List.range n).map nx) q _ (by simp; omega) (rd_ints (h1.up (HA.out (.cells #[.slice a1 n c1, .slice (some ⟨g2, o2, none⟩) n d1, .int .i64 fr] 27))))
      rw [List.length_map, List.length_range] at hcall
      refine hcall.mono ?_
      clear hcall
      rintro e w2 ⟨rfl, rfl⟩
      by_cases hm : ∀ i, i < n → nx i ≠ q
      · have HF : Hid (b = true) := HB.out.2 (HP.out.2 ⟨HS.out, hm⟩)
        rw [decide_eq_false (show ¬ (q : Int) ∈ (List.range n).map nx by simp; exact hm)]
        clear hm
        go_wp2_with fail
        go_ret
        exact ⟨ret_bool HF.out.symm, HA.out _⟩
      · have HF : Hid (b = false) := by
          cases b
          · exact rfl
          · exact absurd (HP.out.1 (HB.out.1 rfl)).2 hm
        rw [decide_eq_true (show (q : Int) ∈ (List.range n).map nx by
          apply Classical.byContradiction
          intro hno
          simp at hno
          exact hm hno)]
        clear hm
        go_wp2_with fail
        go_ret
        exact ⟨ret_bool HF.out.symm, HA.out _⟩
  · have HF : Hid (b = false) := by
      cases b
      · exact rfl
      · have := HB.out.1 rfl
        exact absurd ⟨this.1, by have := this.2.1; omega⟩ hin
    rw [decide_eq_false hin]
    clear hin
    go_wp2_with fail
    go_ret
    exact ⟨ret_bool HF.out.symm, HA.out _⟩
end Go.Proofs.Ythkkogpegmmbdaa
