/- Arenas held against each other, marked, and held against their marks. -/
import Derived.Test.YtapabolgfcocfaaMark
namespace Go.Proofs.Ytapabolgfcocfaa
open Go.RowKit
set_option linter.unusedVariables false

/-- a slice of n elements whose cells read v -/
def RdRow (w : World) (a : Option Addr) (n : Nat) (v : Nat → Value) : Prop := ∀ i, i < n → ∃ g o, a = some ⟨g, o, none⟩ ∧ w.cell? ⟨g, o + i, none⟩ = some (v i)
theorem RdRow.up {w w2 : World} {a : Option Addr} {n : Nat} {v : Nat → Value} (h : RdRow w a n v) (hb : Below w.heap.size w w2) : RdRow w2 a n v := by
  intro i hi
  obtain ⟨g, o, ha, hc⟩ := h i hi
  exact ⟨g, o, ha, (hb.cell (p := ⟨g, o + i, none⟩) (cellLt hc)).trans hc⟩
theorem RdRow.touch {w w2 : World} {S : List Nat} {a : Option Addr} {n : Nat} {v : Nat → Value} (h : RdRow w a n v) (hb : Touch S w w2) (hS : ∀ b, a = some b → b.block ∉ S) : RdRow w2 a n v := by
  intro i hi
  obtain ⟨g, o, ha, hc⟩ := h i hi
  refine ⟨g, o, ha, ?_⟩
  rw [World.cell?_of_block (w := w) (a := ⟨g, o + i, none⟩) (hb.block g (cellLt hc) (hS _ ha))]
  exact hc
theorem RowTo.read {g n : Nat} {t : TypeId} {f : Nat → Value} {w : World} (h : RowTo g t n f n w) : RdRow w (some ⟨g, 0, none⟩) n f :=
  fun i hi => ⟨g, 0, rfl, by rw [Nat.zero_add]; exact h.at i hi⟩
theorem RdRow.nil (w : World) (a : Option Addr) (v : Nat → Value) : RdRow w a 0 v := fun i hi => by omega

theorem eqArena_any (a1 a2 b1 b2 : Option Addr) (n c1 c2 d1 d2 : Nat) (fr : Int) (f : Nat → Int) (u : Nat → ByteArray) (w : World) (hn : n ≤ 1048576)
    (h1 : RdRow w a1 n fun i => .int .i64 (f i)) (h2 : RdRow w a2 n fun i => .int .i64 (f i)) (k1 : RdRow w b1 n fun i => .string (u i)) (k2 : RdRow w b2 n fun i => .string (u i)) :
    Calls Try.prog 22 #[.agg #[.slice a1 n c1, .slice b1 n d1, .int .i64 fr], .agg #[.slice a2 n c2, .slice b2 n d2, .int .i64 fr]] w fun e w' => e = .returned (.bool true) ∧ Below w.heap.size w w' := by
  have hA : ∀ o1 o2, Below w.heap.size w ((w.alloc o1).alloc o2) := fun o1 o2 => (((Below.refl _ _).alloc (Nat.le_refl _) _).alloc (by simp) _)
  have HA : Hid (∀ o1 o2, Below w.heap.size w ((w.alloc o1).alloc o2)) := hA
  clear hA
  go_enter Try.func22, Try.ntmps22
  go_wp2_with fail
  refine (eqInts_any _ _ _ _ _ f _ hn (h1.up (HA.out _ _)) (h2.up (HA.out _ _))).mono ?_
  rintro e w1 ⟨rfl, hS1⟩
  have c1 := fun (b : Nat) (i : Nat) => hS1.cell ⟨b, i, none⟩
  go_wp2_with fail
  refine (eqStrs_any _ _ _ _ _ u _ hn ((k1.up (HA.out _ _)).up (hS1.below _)) ((k2.up (HA.out _ _)).up (hS1.below _))).mono ?_
  rintro e w2 ⟨rfl, hS2⟩
  have c2 := fun (b : Nat) (i : Nat) => hS2.cell ⟨b, i, none⟩
  have B2 : Below w.heap.size w w2 := ((HA.out _ _).trans (hS1.below _)).trans (hS2.below _)
  go_wp2_with fail
  go_ret
  exact ⟨rfl, B2⟩

theorem markArena_any (gN gD n cN cD m : Nat) (fr : Int) (f u : Nat → Value) (w : World) (hn : n ≤ 1048576) (hm : m ≤ 10000000) (hN : RowTo gN 2 n f n w) (hD : RowTo gD 9 n u n w) (hne : gN ≠ gD) :
    Calls Try.prog 23 #[.agg #[.slice (some ⟨gN, 0, none⟩) n cN, .slice (some ⟨gD, 0, none⟩) n cD, .int .i64 fr], .int .i64 m] w fun e w' => e = .returned (.int .i64 (m + n + n : Nat)) ∧ RowTo gN 2 n (fun i => .int .i64 (m + i : Nat)) n w' ∧ RowTo gD 9 n (fun i => .string (mt (m + n + i))) n w' ∧ Touch [gN, gD] w w' := by
  have lN := hN.lt
  have lD := hD.lt
  go_enter Try.func23, Try.ntmps23
  go_wp2_with fail
  refine (markInts_any gN n cN m f _ (hN.keep (blk_old _ lN)) hn (by omega)).mono ?_
  rintro e w1 ⟨rfl, hN1, hT1⟩
  have e1 : ∀ o, (w.alloc o).heap.size = w.heap.size + 1 := by intro o; simp
  have b1 := (hT1.block w.heap.size (by rw [e1]; omega) (by simp; omega)).trans (blk_new w _)
  have d1 := hD.keep ((hT1.block gD (by rw [e1]; omega) (by simp; omega)).trans (blk_old _ lD))
  have T1 : Touch [gN, gD] w w1 := (Touch.ofBelow ((Below.refl _ _).alloc (Nat.le_refl _) _)).trans (hT1.mono (by simp))
  have z1 := T1.size
  clear hT1 hN hD
  have cb := blk_cell b1
  go_wp2_with fail
  refine (markStrs_any gD n cD (m + n) u _ d1 hn (by omega)).mono ?_
  rintro e w2 ⟨rfl, hD2, hT2⟩
  have n2 := hN1.keep (hT2.block gN (by omega) (by simp; omega))
  have T2 : Touch [gN, gD] w w2 := T1.trans (hT2.mono (by simp))
  clear hT2 T1
  go_wp2_with fail
  go_ret
  exact ⟨rfl, n2, hD2, T2⟩

theorem heldArena_any (gN gD n cN cD m : Nat) (fr : Int) (w : World) (hn : n ≤ 1048576) (hm : m ≤ 10000000) (hN : RowTo gN 2 n (fun i => .int .i64 (m + i : Nat)) n w) (hD : RowTo gD 9 n (fun i => .string (mt (m + n + i))) n w) :
    Calls Try.prog 24 #[.agg #[.slice (some ⟨gN, 0, none⟩) n cN, .slice (some ⟨gD, 0, none⟩) n cD, .int .i64 fr], .int .i64 m] w fun e w' => e = .returned (.int .i64 (m + n + n : Nat)) ∧ Below w.heap.size w w' := by
  have lN := hN.lt
  have lD := hD.lt
  go_enter Try.func24, Try.ntmps24
  go_wp2_with fail
  refine (heldInts_any gN n cN m _ (hN.keep (blk_old _ lN)) hn (by omega)).mono ?_
  rintro e w1 ⟨rfl, rfl⟩
  have hnn : ¬ (((m + n : Nat) : Int) < 0) := by omega
  have hnn' : (0 : Int) ≤ (m : Int) + n := by omega
  go_wp2_with fail
  refine (heldStrs_any gD n cD (m + n) _ (hD.keep (blk_old _ lD)) hn (by omega)).mono ?_
  rintro e w2 ⟨rfl, hb2⟩
  have B2 : Below w.heap.size w w2 := ((Below.refl _ _).alloc (Nat.le_refl _) _).trans (hb2.mono (by simp))
  have hn2 : (0 : Int) ≤ (m : Int) + n + n := by omega
  go_wp2_with fail
  go_ret
  exact ⟨rfl, B2⟩
end Go.Proofs.Ytapabolgfcocfaa
