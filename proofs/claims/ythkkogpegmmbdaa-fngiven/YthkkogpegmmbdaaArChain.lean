/- Chains: both sides' contracts. -/
import Derived.Test.YthkkogpegmmbdaaArHead
namespace Go.Proofs.Ythkkogpegmmbdaa
open Go.RowKit
set_option linter.unusedVariables false
set_option linter.unusedSimpArgs false

def chainP (n m : Nat) (nx : Nat → Int) (dt : Nat → ByteArray) (fr h : Int) : Prop := okP n m nx dt fr ∧ headP n nx dt h

set_option maxHeartbeats 1000000 in
theorem iChain_any (a1 b1 : Option Addr) (n m c1 d1 : Nat) (fr h : Int) (nx : Nat → Int) (dt : Nat → ByteArray) (w : World) (hn : n ≤ 1048576) (hm : m ≤ 1048576) (hd : ∀ i, i < m → (dt i).size ≤ maxLen) (h1 : RdRow w a1 n fun i => .int .i64 (nx i)) (h2 : RdRow w b1 m fun i => .string (dt i)) (b : Bool) (hb : b = true ↔ chainP n m nx dt fr h) :
    Calls Try.prog 15 #[.agg #[.slice a1 n c1, .slice b1 m d1, .int .i64 fr], .int .i64 h] w fun e w' => (∃ v, e = .returned (.tuple #[v, .bool b]) ∧ VRow 2 w' w.heap.size v (freeL b n nx h).length (intsOf (freeL b n nx h))) ∧ Below w.heap.size w w' := by
  have HA : Hid (∀ o, Below w.heap.size w (w.alloc o)) := fun o => (Below.refl _ _).alloc (Nat.le_refl _) _
  have HB : Hid (b = true ↔ chainP n m nx dt fr h) := hb
  have HD : Hid (∀ i, i < m → (dt i).size ≤ maxLen) := hd
  have H1 : Hid (RdRow w a1 n fun i => .int .i64 (nx i)) := h1
  have H2 : Hid (RdRow w b1 m fun i => .string (dt i)) := h2
  clear hb hd h1 h2
  go_enter Try.func15, Try.ntmps15
  go_wp2_with fail
  by_cases hO : okP n m nx dt fr
  · refine (iOk_any a1 b1 n m c1 d1 fr nx dt _ hn hm HD.out (H1.out.up (HA.out _)) (H2.out.up (HA.out _)) true (by simp [hO])).mono ?_
    rintro e w1 ⟨rfl, hb1⟩
    have hB := first hb1
    have cb := boxed hB
    obtain ⟨l1, l2, rfl, hr, r0, r1, hG, hE⟩ := okP_parts hO
    have HO : Hid (okP m m nx dt fr) := hO
    have HG : Hid (ringsP m nx) := hG
    have HR : Hid (inRange m nx) := hr
    clear hb1 hE hG hr hO
    go_wp2_with fail
    by_cases hH : headP m nx dt h
    · refine (begins_any a1 b1 m c1 d1 fr h nx dt _ (by omega) HD.out (H1.out.up (under hB)) (H2.out.up (under hB)) true (by simp [hH])).mono ?_
      rintro e w2 ⟨rfl, hb2⟩
      replace hB := next hB hb2
      replace cb := boxed hB
      obtain rfl : b = true := HB.out.2 ⟨HO.out, hH⟩
      have hh0 : 0 ≤ h := hH.1
      have hh1 : h < m := hH.2.1
      clear hb2 hH
      go_wp2_with fail
      refine (cellsIn_any a1 b1 m c1 d1 fr nx dt _ (by omega) (H1.out.up (under hB)) (H2.out.up (under hB))).mono ?_
      rintro e w3 ⟨g, rfl, hg, hC, hb3⟩
      have z2 := upper hB
      replace hB := next hB hb3
      clear hb3 cb
      go_wp2_with fail
      refine (cellsFrom_any g m m h nx dt _ (by omega) hC.lt hC.cells HR.out (by omega) hh1 (rings_at HG.out (by omega) hh1)).mono ?_
      rintro e w4 ⟨v, rfl, hown, hb4⟩
      have z3 := upper hB
      have B4 := under (next hB hb4)
      have hv := (own_vrow hown).2.low (by omega : w.heap.size ≤ w3.heap.size)
      clear hb4 hown hC
      go_wp2_with fail
      exact bodyPost_ret (v := .tuple #[v, .bool true]) (by simp [results, Try.results15, go_sem]) rfl ⟨⟨_, rfl, hv⟩, B4⟩
    · refine (begins_any a1 b1 m c1 d1 fr h nx dt _ (by omega) HD.out (H1.out.up (under hB)) (H2.out.up (under hB)) false (by simp [hH])).mono ?_
      rintro e w2 ⟨rfl, hb2⟩
      replace hB := next hB hb2
      obtain rfl : b = false := by
        cases b
        · rfl
        · exact absurd (HB.out.1 rfl).2 hH
      have B2 := under hB
      clear hb2 hH cb
      go_wp2_with fail
      exact bodyPost_ret (v := .tuple #[.slice none 0 0, .bool false]) (by simp [results, Try.results15, go_sem]) rfl ⟨⟨_, rfl, VRow.nil _ _ _ _⟩, B2⟩
  · refine (iOk_any a1 b1 n m c1 d1 fr nx dt _ hn hm HD.out (H1.out.up (HA.out _)) (H2.out.up (HA.out _)) false (by simp [hO])).mono ?_
    rintro e w1 ⟨rfl, hb1⟩
    have B1 := under (first hb1)
    obtain rfl : b = false := by
      cases b
      · rfl
      · exact absurd (HB.out.1 rfl).1 hO
    clear hb1 hO
    go_wp2_with fail
    exact bodyPost_ret (v := .tuple #[.slice none 0 0, .bool false]) (by simp [results, Try.results15, go_sem]) rfl ⟨⟨_, rfl, VRow.nil _ _ _ _⟩, B1⟩

set_option maxHeartbeats 1000000 in
theorem sChain_any (a1 b1 : Option Addr) (n m c1 d1 : Nat) (fr h : Int) (nx : Nat → Int) (dt : Nat → ByteArray) (w : World) (hn : n ≤ 1048576) (hm : m ≤ 1048576) (hd : ∀ i, i < m → (dt i).size ≤ maxLen) (h1 : RdRow w a1 n fun i => .int .i64 (nx i)) (h2 : RdRow w b1 m fun i => .string (dt i)) (b : Bool) (hb : b = true ↔ chainP n m nx dt fr h) :
    Calls Try.prog 41 #[.agg #[.slice a1 n c1, .slice b1 m d1, .int .i64 fr], .int .i64 h] w fun e w' => (∃ v, e = .returned (.tuple #[v, .bool b]) ∧ VRow 2 w' w.heap.size v (freeL b n nx h).length (intsOf (freeL b n nx h))) ∧ Below w.heap.size w w' := by
  have HA : Hid (∀ o, Below w.heap.size w (w.alloc o)) := fun o => (Below.refl _ _).alloc (Nat.le_refl _) _
  have HB : Hid (b = true ↔ chainP n m nx dt fr h) := hb
  have HD : Hid (∀ i, i < m → (dt i).size ≤ maxLen) := hd
  have H1 : Hid (RdRow w a1 n fun i => .int .i64 (nx i)) := h1
  have H2 : Hid (RdRow w b1 m fun i => .string (dt i)) := h2
  clear hb hd h1 h2
  go_enter Try.func41, Try.ntmps41
  go_wp2_with fail
  by_cases hO : okP n m nx dt fr
  · refine (sOk_any a1 b1 n m c1 d1 fr nx dt _ hn hm HD.out (H1.out.up (HA.out _)) (H2.out.up (HA.out _)) true (by simp [hO])).mono ?_
    rintro e w1 ⟨rfl, hb1⟩
    have hB := first hb1
    have cb := boxed hB
    obtain ⟨l1, l2, rfl, hr, r0, r1, hG, hE⟩ := okP_parts hO
    have HO : Hid (okP m m nx dt fr) := hO
    have HG : Hid (ringsP m nx) := hG
    have HR : Hid (inRange m nx) := hr
    clear hb1 hE hG hr hO
    go_wp2_with fail
    by_cases hH : headP m nx dt h
    · refine (l2Head_any a1 b1 m c1 d1 fr h nx dt _ (by omega) HD.out (H1.out.up (under hB)) (H2.out.up (under hB)) true (by simp [hH])).mono ?_
      rintro e w2 ⟨rfl, hb2⟩
      replace hB := next hB hb2
      replace cb := boxed hB
      obtain rfl : b = true := HB.out.2 ⟨HO.out, hH⟩
      have hh0 : 0 ≤ h := hH.1
      have hh1 : h < m := hH.2.1
      clear hb2 hH
      go_wp2_with fail
      refine (l2Walk_any a1 b1 m c1 d1 m fr h nx _ (by omega) (H1.out.up (under hB)) HR.out (by omega) hh1).mono ?_
      rintro e w3 ⟨⟨_, v, rfl, hown2⟩ | ⟨hE', rfl⟩, hb3⟩
      · have z2 := upper hB
        have B3 := under (next hB hb3)
        have hv := (own_vrow hown2).2.low (by omega : w.heap.size ≤ w2.heap.size)
        clear hown2 hb3 cb
        go_wp2_with fail
        exact bodyPost_ret (v := .tuple #[v, .bool true]) (by simp [results, Try.results41, go_sem]) rfl ⟨⟨_, rfl, hv⟩, B3⟩
      · exact absurd (rings_at HG.out (by omega) hh1) hE'
    · refine (l2Head_any a1 b1 m c1 d1 fr h nx dt _ (by omega) HD.out (H1.out.up (under hB)) (H2.out.up (under hB)) false (by simp [hH])).mono ?_
      rintro e w2 ⟨rfl, hb2⟩
      replace hB := next hB hb2
      obtain rfl : b = false := by
        cases b
        · rfl
        · exact absurd (HB.out.1 rfl).2 hH
      have B2 := under hB
      clear hb2 hH cb
      go_wp2_with fail
      exact bodyPost_ret (v := .tuple #[.slice none 0 0, .bool false]) (by simp [results, Try.results41, go_sem]) rfl ⟨⟨_, rfl, VRow.nil _ _ _ _⟩, B2⟩
  · refine (sOk_any a1 b1 n m c1 d1 fr nx dt _ hn hm HD.out (H1.out.up (HA.out _)) (H2.out.up (HA.out _)) false (by simp [hO])).mono ?_
    rintro e w1 ⟨rfl, hb1⟩
    have B1 := under (first hb1)
    obtain rfl : b = false := by
      cases b
      · rfl
      · exact absurd (HB.out.1 rfl).1 hO
    clear hb1 hO
    go_wp2_with fail
    exact bodyPost_ret (v := .tuple #[.slice none 0 0, .bool false]) (by simp [results, Try.results41, go_sem]) rfl ⟨⟨_, rfl, VRow.nil _ _ _ _⟩, B1⟩
end Go.Proofs.Ythkkogpegmmbdaa
