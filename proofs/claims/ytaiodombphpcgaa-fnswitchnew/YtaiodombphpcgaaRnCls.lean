/- Whether a class is right; the function that tells the classes. -/
import Derived.Test.YtaiodombphpcgaaRn
namespace Go.Proofs.Ytaiodombphpcgaa
open Go.RowKit
set_option linter.unusedVariables false
set_option linter.unusedSimpArgs false

set_option maxHeartbeats 1000000 in
theorem classOk_any (q d : Int) (a : Option Addr) (n cap : Nat) (z : Nat → Int) (b : Bool) (w : World) (hn : n ≤ maxLen) (h : RdRow w a n fun j => .int .i64 (z j)) (ok : Bool) (hok : ok = true ↔ clsP q d n z b) :
    Calls Try.prog 66 #[.agg #[.int .i64 q, .int .i64 d, .slice a n cap], .bool b] w fun e w' => e = .returned (.bool ok) ∧ Below w.heap.size w w' := by
  have HO : Hid (ok = true ↔ clsP q d n z b) := hok
  have HR : Hid (RdRow w a n fun j => .int .i64 (z j)) := h
  have HA : Hid (∀ ob, Below w.heap.size w (w.alloc ob)) := fun ob => (Below.refl _ _).alloc (Nat.le_refl _) _
  have HF : Hid (¬ clsP q d n z b → ok = false) := fun hh => by
    rw [Bool.eq_false_iff]
    intro e
    exact hh (HO.out.1 e)
  clear h hok
  by_cases h1 : 1 ≤ q
  · by_cases h2 : q ≤ 10
    · obtain ⟨ok1, hok1⟩ := ok_decR (sizesP n z)
      obtain ⟨ok2, hok2⟩ := ok_decR (defP q d n b)
      have H1 : Hid (ok1 = true ↔ sizesP n z) := hok1
      have H2 : Hid (ok2 = true ↔ defP q d n b) := hok2
      clear hok1 hok2
      have kX := blk_new w (.cells #[.int .i64 q, .int .i64 d, .slice a n cap] 111)
      go_enter Try.func66, Try.ntmps66
      go_wp2_with fail
      refine (sizesOk_any a n cap z _ hn (HR.out.up (HA.out _)) ok1 H1.out).mono ?_
      rintro e w1 ⟨rfl, hS⟩
      have B1 := (HA.out _).trans (hS.below _)
      have cX := fun o => (hS.cell ⟨w.heap.size, o, none⟩).trans (blk_cell kX o)
      clear hS kX
      cases ok1
      · have HE : Hid (ok = false) := HF.out (fun hh => by have := H1.out.2 hh.2.1; simp at this)
        go_wp2_with fail
        go_ret
        exact ⟨ret_bool HE.out.symm, B1⟩
      · have HS1 : Hid (sizesP n z) := H1.out.1 rfl
        go_wp2_with fail
        refine (deficitOk_any q d a n cap b _ hn h1 h2 ok2 H2.out).mono ?_
        rintro e w2 ⟨rfl, hb2⟩
        have B2 := B1.trans (hb2.mono B1.size)
        have HE : Hid (ok2 = ok) := by
          rw [Hid, Bool.eq_iff_iff, HO.out, H2.out]
          exact ⟨fun hh => ⟨⟨h1, h2⟩, HS1.out, hh⟩, fun hh => hh.2.2⟩
        clear hb2 B1 cX
        go_wp2_with fail
        go_ret
        exact ⟨ret_bool HE.out, B2⟩
    · have HE : Hid (ok = false) := HF.out (fun hh => h2 hh.1.2)
      go_enter Try.func66, Try.ntmps66
      go_wp2_with fail
      go_ret
      exact ⟨ret_bool HE.out.symm, HA.out _⟩
  · have HE : Hid (ok = false) := HF.out (fun hh => h1 hh.1.1)
    go_enter Try.func66, Try.ntmps66
    go_wp2_with fail
    go_ret
    exact ⟨ret_bool HE.out.symm, HA.out _⟩

theorem isClass_any (R : Rnd) (c : Int) (w : World) (hf : R.Fit) :
    Calls Try.prog 64 #[.agg R.cells, .int .i64 c] w fun e w' => e = .returned (.bool (decide (0 ≤ c ∧ c < R.nQ))) ∧ Below w.heap.size w w' := by
  have hm : (R.nQ : Int) ≤ 9223372036854775807 := by have := hf.q; unfold maxLen at this; omega
  have HA : Hid (∀ ob, Below w.heap.size w (w.alloc ob)) := fun ob => (Below.refl _ _).alloc (Nat.le_refl _) _
  have hw : IntKind.i64.wrap (R.nQ : Int) = (R.nQ : Int) := wrapR _ (by omega) (by omega)
  unfold Rnd.cells
  by_cases h1 : 0 ≤ c
  · go_enter Try.func64, Try.ntmps64
    go_wp2_with fail
    go_ret
    exact ⟨ret_bool (by simp [h1]), HA.out _⟩
  · go_enter Try.func64, Try.ntmps64
    go_wp2_with fail
    go_ret
    exact ⟨ret_bool (by simp; omega), HA.out _⟩
theorem classes_any (R : Rnd) (w : World) :
    Calls Try.prog 65 #[.agg R.cells] w fun e w' => e = .returned (.func (.func 70) #[] #[.pointer (some ⟨w.heap.size, 0, none⟩)]) ∧ w' = w.alloc (.cells R.cells 49) := by
  unfold Rnd.cells
  go_enter Try.func65, Try.ntmps65
  go_wp2_with fail
  go_ret
  exact ⟨rfl, rfl⟩
end Go.Proofs.Ytaiodombphpcgaa
