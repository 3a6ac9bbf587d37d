/- What the laws on arenas draw. -/
import Derived.Test.YthkkogpegmmbdaaArDraw
namespace Go.Proofs.Ythkkogpegmmbdaa
open Go.RowKit
set_option linter.unusedVariables false
set_option linter.unusedSimpArgs false

/-- an arena that was drawn lies in w: its rows are its own -/
def DrawnIn (base : Nat) (v1 v2 : Value) (n : Nat) (F : Nat → Int) (U : Nat → ByteArray) (w : World) : Prop :=
  VRow 2 w base v1 n (fun i => .int .i64 (F i)) ∧ VRow 9 w base v2 n (fun i => .string (U i)) ∧ 1 ≤ n ∧ n ≤ 60 ∧ ∀ i, i < n → (U i).size ≤ 10

set_option maxHeartbeats 1000000 in
theorem drawOk_any (cv : Value) (len : Nat) (w : World) (h : Code w.heap.size cv len w) (hs : ∃ a n c, cv = .slice a n c) :
    Calls Try.prog 21 #[cv] w fun e w' => (∃ (v1 v2 : Value) (fr : Int) (n : Nat) (F : Nat → Int) (U : Nat → ByteArray), e = .returned (.agg #[v1, v2, .int .i64 fr]) ∧ DrawnIn w.heap.size v1 v2 n F U w') ∧ Below w.heap.size w w' := by
  obtain ⟨a, m, c, rfl⟩ := hs
  have e1 : ∀ o, (w.alloc o).heap.size = w.heap.size + 1 := by intro o; simp
  have HC : Hid (∀ o, Code (w.alloc o).heap.size (.slice a m c) len (w.alloc o)) := fun o => h.up ((Below.refl _ _).alloc (Nat.le_refl _) o)
  go_enter Try.func21, Try.ntmps21
  go_wp2_with fail
  refine (open_any _ _ _ (HC.out _) ⟨_, _, _, rfl⟩).mono ?_
  rintro e w1 ⟨rfl, hR, hb1⟩
  rw [e1] at hR
  have kR := (hb1.block w.heap.size (by rw [e1]; omega)).trans (blk_new w _)
  have B1 : Below w.heap.size w w1 := ((Below.refl _ _).alloc (Nat.le_refl _) _).trans (hb1.mono (by rw [e1]; omega))
  rw [e1]
  clear hb1 HC h
  go_wp2_with fail
  refine (arena_any _ _ _ hR).mono ?_
  rintro e w2 ⟨⟨v1, v2, vh, fr, n, F, U, H, rfl, r1, r2, rh, n1, n2, h60, hu⟩, hR2, hK⟩
  have z1 : w.heap.size + 1 < w1.heap.size := hR.lt
  replace kR := (hK.block _ (blk_lt kR) (by omega)).trans kR
  replace B1 : Below w.heap.size w w2 := B1.trans (hK.below B1.size (by omega))
  obtain ⟨q1, x1, rfl⟩ := vrow_form r1
  obtain ⟨q2, x2, rfl⟩ := vrow_form r2
  obtain ⟨qh, xh, rfl⟩ := vrow_form rh
  have HU : Hid (∀ i, i < n → (U i).size ≤ 10) := hu
  have hbX : Below w2.heap.size w2 (w2.alloc (.cells #[.slice q1 n x1, .slice q2 n x2, .int .i64 fr] 27)) := (Below.refl _ _).alloc (Nat.le_refl _) _
  have kX := blk_new w2 (.cells #[.slice q1 n x1, .slice q2 n x2, .int .i64 fr] 27)
  have zX : w.heap.size ≠ w2.heap.size := by have := blk_lt kR; omega
  replace kR := (hbX.block _ (blk_lt kR)).trans kR
  replace B1 := B1.trans (hbX.mono B1.size)
  replace r1 := r1.up hbX
  replace r2 := r2.up hbX
  have HK : Hid (∀ (W : World) b, b ≠ w.heap.size → ∀ u1 u2 u3, (((W.setCell ⟨w.heap.size, 0, none⟩ u1).setCell ⟨w.heap.size, 1, none⟩ u2).setCell ⟨w.heap.size, 2, none⟩ u3).heap[b]? = W.heap[b]?) := fun W b hb u1 u2 u3 => by
    rw [blk_set_ne hb, blk_set_ne hb, blk_set_ne hb]
  clear hR hR2 hK rh hu hbX
  have cR := blk_cell kR
  have fR := blk_free kR
  have cX := blk_cell kX
  go_wp2_with fail
  generalize w2.alloc (.cells #[.slice q1 n x1, .slice q2 n x2, .int .i64 fr] 27) = W3 at *
  exact bodyPost_ret (v := .agg #[.slice q1 n x1, .slice q2 n x2, .int .i64 fr]) (by simp [results, Try.results21, go_sem, cR]) rfl ⟨⟨_, _, _, n, F, U, rfl, (r1.keep (fun b hb => HK.out _ b (by have := (r1.lt b hb).2; omega) _ _ _)).low (by omega), (r2.keep (fun b hb => HK.out _ b (by have := (r2.lt b hb).2; omega) _ _ _)).low (by omega), n1, n2, HU.out⟩, ((B1.setCell (Nat.le_refl _) _).setCell (Nat.le_refl _) _).setCell (Nat.le_refl _) _⟩

end Go.Proofs.Ythkkogpegmmbdaa
