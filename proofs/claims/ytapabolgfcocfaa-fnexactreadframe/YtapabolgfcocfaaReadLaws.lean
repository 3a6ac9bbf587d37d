/- The laws on a frame's bytes: each returns true, and nothing that was there has turned. -/
import Derived.Test.YtapabolgfcocfaaRead2
namespace Go.Proofs.Ytapabolgfcocfaa
open Go.RowKit
set_option linter.unusedVariables false
set_option linter.unusedSimpArgs false

theorem law4 (k d s p : Int) (b : ByteArray) (w : World) (hb : b.size ≤ maxLen) :
    Calls Try.prog 4 #[.agg #[.int .i64 k, .int .i64 d, .int .i64 s, .int .i64 p, .string b]] w fun e w' => e = .returned (.bool true) ∧ Below w.heap.size w w' := by
  by_cases hbig : (1048576 : Int) < b.size
  · go_enter Try.func4, Try.ntmps4
    go_wp2_with fail
    refine (szFrame_any _ _ _ _ _ _ _ hb (by omega) (by omega)).mono ?_
    rintro e w1 ⟨rfl, hb1⟩
    rw [if_pos hbig]
    have B1 := first hb1
    go_wp2_with fail
    go_ret
    exact ⟨rfl, under B1⟩
  · go_enter Try.func4, Try.ntmps4
    go_wp2_with fail
    refine (szFrame_any _ _ _ _ _ _ _ hb (by omega) (by omega)).mono ?_
    rintro e w1 ⟨rfl, hb1⟩
    rw [if_neg (by omega)]
    have B1 := first hb1
    have hc1 := boxed B1
    clear hb1
    go_wp2_with fail
    refine (toFrame_any _ _ _ _ _ _).mono ?_
    rintro e w2 ⟨rfl, hb2⟩
    have B2 := next B1 hb2
    clear hb2 hc1 B1
    go_wp2_with fail
    refine (sText_or _ _ _ _ _ _ hb).mono ?_
    rintro e w3 ⟨rfl, hb3⟩
    have B3 := next B2 hb3
    have hc3 := boxed B3
    clear hb3 B2
    go_wp2_with fail
    refine (toFrame_any _ _ _ _ _ _).mono ?_
    rintro e w4 ⟨rfl, hb4⟩
    have B4 := next B3 hb4
    clear hb4 hc3 B3
    go_wp2_with fail
    refine (iText_or _ _ _ _ _ _ hb).mono ?_
    rintro e w5 ⟨rfl, hb5⟩
    have B5 := next B4 hb5
    clear hb5 B4
    go_wp2_with fail
    go_ret
    exact ⟨rfl, under B5⟩

theorem eqFrame_same (k d s p : Int) (b : ByteArray) (w : World) :
    Calls Try.prog 17 #[.agg #[.int .i64 k, .int .i64 d, .int .i64 s, .int .i64 p, .string b], .agg #[.int .i64 k, .int .i64 d, .int .i64 s, .int .i64 p, .string b]] w fun e w' => e = .returned (.bool true) ∧ Below w.heap.size w w' := by
  go_enter Try.func17, Try.ntmps17
  go_wp2
  go_ret
  exact ⟨rfl, (((Below.refl _ _).alloc (Nat.le_refl _) _).alloc (by simp) _)⟩

theorem readV_form (s : ByteArray) : ∃ (k d sr p : Int) (b : ByteArray) (ok : Bool), readV s = .tuple #[.agg #[.int .i64 k, .int .i64 d, .int .i64 sr, .int .i64 p, .string b], .bool ok] := by
  unfold readV
  split
  · split
    · exact ⟨_, _, _, _, _, _, rfl⟩
    · exact ⟨_, _, _, _, _, _, rfl⟩
  · exact ⟨_, _, _, _, _, _, rfl⟩

theorem boxed_alloc {w wi : World} {C : Array Value} {t : TypeId} (h : Below (w.heap.size + 1) (w.alloc (.cells C t)) wi) : ∀ (o : Obj) (i : Nat), (wi.alloc o).cell? ⟨w.heap.size, i, none⟩ = C[i]? :=
  fun o => boxed (h.alloc (upper h) o)
theorem law5 (s : ByteArray) (w : World) (hs : s.size ≤ maxLen) :
    Calls Try.prog 5 #[.string s] w fun e w' => e = .returned (.bool true) ∧ Below w.heap.size w w' := by
  have hs2 := hs
  unfold maxLen at hs2
  by_cases hbig : (1048576 : Int) < s.size
  · go_enter Try.func5, Try.ntmps5
    go_wp2_with fail
    go_ret
    exact ⟨rfl, Below.refl _ _⟩
  · obtain ⟨k, d, sr, p, b, ok, hV⟩ := readV_form s
    have HV : Hid (readV s = .tuple #[.agg #[.int .i64 k, .int .i64 d, .int .i64 sr, .int .i64 p, .string b], .bool ok]) := hV
    clear hV
    go_enter Try.func5, Try.ntmps5
    go_wp2_with fail
    refine (sRead_any _ _ hs).mono ?_
    rintro e w1 ⟨rfl, hb1⟩
    rw [HV.out]
    go_wp2_with fail
    refine (iRead_any _ _ hs).mono ?_
    rintro e w2 ⟨rfl, hb2⟩
    rw [HV.out]
    have B2 := first hb2
    have U2 := upper B2
    have hc2 := boxed_alloc B2
    clear hb2
    go_wp2_with fail
    refine (eqFrame_same _ _ _ _ _ _).mono ?_
    rintro e w3 ⟨rfl, hb3⟩
    have B3 : Below w.heap.size w w3 := (((hb1.alloc hb1.size _).trans (B2.mono (by have := hb1.size; omega))).alloc (by have := hb1.size; omega) _).trans (hb3.mono (by have := hb1.size; simp; omega))
    clear hc2 hb3
    go_wp2_with fail
    go_ret
    exact ⟨rfl, B3⟩
end Go.Proofs.Ytapabolgfcocfaa
