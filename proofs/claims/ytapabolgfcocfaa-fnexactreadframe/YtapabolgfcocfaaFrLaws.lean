/- The laws on frames: each returns true, and nothing that was there has turned. -/
import Derived.Test.YtapabolgfcocfaaFr
namespace Go.Proofs.Ytapabolgfcocfaa
open Go.RowKit
set_option linter.unusedVariables false

theorem bcell {W w1 : World} (hb : Below W.heap.size W w1) : (∀ b o, b < W.heap.size → w1.cell? ⟨b, o, none⟩ = W.cell? ⟨b, o, none⟩) ∧ (∀ b o, b < W.heap.size → w1.frozen? ⟨b, o, none⟩ = W.frozen? ⟨b, o, none⟩) :=
  ⟨fun b o h => hb.cell (p := ⟨b, o, none⟩) h, fun b o h => hb.frozen (p := ⟨b, o, none⟩) h⟩

theorem boxed {w wi : World} {C : Array Value} {t : TypeId} (h : Below (w.heap.size + 1) (w.alloc (.cells C t)) wi) : ∀ o, wi.cell? ⟨w.heap.size, o, none⟩ = C[o]? := by
  intro o
  rw [h.cell (p := ⟨w.heap.size, o, none⟩) (by show w.heap.size < _; omega)]
  exact World.cell?_alloc_mark w C t (0, 0) o
theorem under {w wi : World} {o : Obj} (h : Below (w.heap.size + 1) (w.alloc o) wi) : Below w.heap.size w wi :=
  ((Below.refl _ _).alloc (Nat.le_refl _) _).trans (h.mono (by omega))
theorem upper {w wi : World} {o : Obj} (h : Below (w.heap.size + 1) (w.alloc o) wi) : w.heap.size + 1 ≤ wi.heap.size := by
  have := h.size
  simpa using this
theorem first {w wi : World} {o : Obj} (h : Below (w.alloc o).heap.size (w.alloc o) wi) : Below (w.heap.size + 1) (w.alloc o) wi :=
  h.mono (by simp)
theorem next {w wi wj : World} {o : Obj} (h : Below (w.heap.size + 1) (w.alloc o) wi) (k : Below wi.heap.size wi wj) : Below (w.heap.size + 1) (w.alloc o) wj :=
  h.trans (k.mono (upper h))

theorem law3 (k d s p : Int) (b : ByteArray) (w : World) (hb : b.size ≤ maxLen) :
    Calls Try.prog 3 #[.agg #[.int .i64 k, .int .i64 d, .int .i64 s, .int .i64 p, .string b]] w fun e w' => e = .returned (.bool true) ∧ Below w.heap.size w w' := by
  by_cases hbig : (1048576 : Int) < b.size
  · go_enter Try.func3, Try.ntmps3
    go_wp2_with fail
    refine (szFrame_any _ _ _ _ _ _ _ hb (by omega) (by omega)).mono ?_
    rintro e w1 ⟨rfl, hb1⟩
    rw [if_pos hbig]
    have B1 := first hb1
    go_wp2_with fail
    go_ret
    exact ⟨rfl, under B1⟩
  · go_enter Try.func3, Try.ntmps3
    go_wp2_with fail
    refine (szFrame_any _ _ _ _ _ _ _ hb (by omega) (by omega)).mono ?_
    rintro e w1 ⟨rfl, hb1⟩
    rw [if_neg (by omega)]
    have B1 := first hb1
    have hc1 := boxed B1
    clear hb1
    go_wp2_with fail
    refine (toFrame_any _ _ _ _ _ _).mono ?_
    rintro e w2 ⟨rfl, hb2⟩
    have B2 := next B1 hb2
    clear hb2 hc1 B1
    go_wp2_with fail
    refine (sFrameOk_any _ _ _ _ _ _ hb).mono ?_
    rintro e w3 ⟨rfl, hb3⟩
    have B3 := next B2 hb3
    have hc3 := boxed B3
    clear hb3 B2
    go_wp2_with fail
    refine (toFrame_any _ _ _ _ _ _).mono ?_
    rintro e w4 ⟨rfl, hb4⟩
    have B4 := next B3 hb4
    clear hb4 hc3 B3
    go_wp2_with fail
    refine (iFrameOk_any _ _ _ _ _ _ hb).mono ?_
    rintro e w5 ⟨rfl, hb5⟩
    have B5 := next B4 hb5
    clear hb5 B4
    go_wp2_with fail
    go_ret
    exact ⟨rfl, under B5⟩
end Go.Proofs.Ytapabolgfcocfaa
