/- Entries: rows of them, and when a table is right. -/
import Derived.Test.YtfpomccgmligbaaMac
import Derived.Test.YtfpomccgmligbaaArRd
import Derived.Test.YtfpomccgmligbaaReg
namespace Go.Proofs.Ytfpomccgmligbaa
open Go.RowKit
set_option linter.unusedVariables false
set_option linter.unusedSimpArgs false

theorem wrapE (x : Int) (h0 : -9223372036854775808 ≤ x) (h1 : x ≤ 9223372036854775807) : IntKind.i64.wrap x = x := by
  rw [IntKind.wrap_i64]; omega
structure Ent where
  m : Int
  p : Int
  t : Int
deriving Inhabited, DecidableEq
def Ent.v (x : Ent) : Value := .agg #[.int .i64 x.m, .int .i64 x.p, .int .i64 x.t]
/-- the cells of n entries, one behind another -/
def flat (f : Nat → Ent) (j : Nat) : Value := .int .i64 (if j % 3 = 0 then (f (j / 3)).m else if j % 3 = 1 then (f (j / 3)).p else (f (j / 3)).t)
theorem flat0 (f : Nat → Ent) (i : Nat) : flat f (i * 3) = .int .i64 (f i).m := by
  unfold flat
  rw [show i * 3 % 3 = 0 by omega, show i * 3 / 3 = i by omega]; rfl
theorem flat1 (f : Nat → Ent) (i : Nat) : flat f (i * 3 + 1) = .int .i64 (f i).p := by
  unfold flat
  rw [show (i * 3 + 1) % 3 = 1 by omega, show (i * 3 + 1) / 3 = i by omega]; rfl
theorem flat2 (f : Nat → Ent) (i : Nat) : flat f (i * 3 + 2) = .int .i64 (f i).t := by
  unfold flat
  rw [show (i * 3 + 2) % 3 = 2 by omega, show (i * 3 + 2) / 3 = i by omega]; rfl
/-- a slice of n entries whose cells read f -/
def RdEnt (w : World) (a : Option Addr) (n : Nat) (f : Nat → Ent) : Prop :=
  ∀ i, i < n → ∃ g o, a = some ⟨g, o, none⟩ ∧ w.cell? ⟨g, o + i * 3, none⟩ = some (.int .i64 (f i).m) ∧ w.cell? ⟨g, o + i * 3 + 1, none⟩ = some (.int .i64 (f i).p) ∧ w.cell? ⟨g, o + i * 3 + 2, none⟩ = some (.int .i64 (f i).t)
theorem RdEnt.up {w w2 : World} {a : Option Addr} {n : Nat} {f : Nat → Ent} (h : RdEnt w a n f) (hb : Below w.heap.size w w2) : RdEnt w2 a n f := by
  intro i hi
  obtain ⟨g, o, ha, h1, h2, h3⟩ := h i hi
  exact ⟨g, o, ha, (hb.cell (p := ⟨g, o + i * 3, none⟩) (cellLt h1)).trans h1, (hb.cell (p := ⟨g, o + i * 3 + 1, none⟩) (cellLt h2)).trans h2, (hb.cell (p := ⟨g, o + i * 3 + 2, none⟩) (cellLt h3)).trans h3⟩
theorem RdEnt.nil (w : World) (a : Option Addr) (f : Nat → Ent) : RdEnt w a 0 f := fun i hi => by omega
theorem RdEnt.ext {w : World} {a : Option Addr} {n : Nat} {f f' : Nat → Ent} (h : RdEnt w a n f) (e : ∀ i, i < n → f i = f' i) : RdEnt w a n f' := by
  intro i hi
  rw [← e i hi]
  exact h i hi
theorem RdEnt.touch {w w2 : World} {S : List Nat} {a : Option Addr} {n : Nat} {f : Nat → Ent} (h : RdEnt w a n f) (hb : Touch S w w2) (hS : ∀ b, a = some b → b.block ∉ S) : RdEnt w2 a n f := by
  intro i hi
  obtain ⟨g, o, ha, h1, h2, h3⟩ := h i hi
  have e := hb.block g (cellLt h1) (hS _ ha)
  exact ⟨g, o, ha, (World.cell?_of_block (w := w) (a := ⟨g, o + i * 3, none⟩) e).trans h1, (World.cell?_of_block (w := w) (a := ⟨g, o + i * 3 + 1, none⟩) e).trans h2, (World.cell?_of_block (w := w) (a := ⟨g, o + i * 3 + 2, none⟩) e).trans h3⟩
theorem RowTo.ents {g n : Nat} {t : TypeId} {f : Nat → Ent} {w : World} (h : RowTo g t (n * 3) (flat f) (n * 3) w) : RdEnt w (some ⟨g, 0, none⟩) n f := by
  intro i hi
  refine ⟨g, 0, rfl, ?_, ?_, ?_⟩
  · rw [Nat.zero_add, h.at _ (by omega), flat0]
  · rw [Nat.zero_add, h.at _ (by omega), flat1]
  · rw [Nat.zero_add, h.at _ (by omega), flat2]
theorem RowTo.ent {g n k : Nat} {t : TypeId} {f : Nat → Ent} {w : World} (h : RowTo g t (n * 3) (flat f) (k * 3) w) (hk : k < n) : RowTo g t (n * 3) (flat f) ((k + 1) * 3) (((w.setCell ⟨g, k * 3, none⟩ (.int .i64 (f k).m)).setCell ⟨g, k * 3 + 1, none⟩ (.int .i64 (f k).p)).setCell ⟨g, k * 3 + 2, none⟩ (.int .i64 (f k).t)) := by
  have s1 := h.step (by omega)
  have s2 := s1.step (by omega)
  have s3 := s2.step (by omega)
  rw [flat0, flat1, flat2, show k * 3 + 2 + 1 = (k + 1) * 3 by omega] at s3
  exact s3

def entOk (x : Ent) : Prop := (1 ≤ x.m ∧ x.m ≤ 20) ∧ (0 ≤ x.p ∧ x.p ≤ 3) ∧ (0 ≤ x.t ∧ x.t ≤ 1000000000)
instance (x : Ent) : Decidable (entOk x) := by unfold entOk; exact inferInstance
def entsOk (n : Nat) (f : Nat → Ent) : Prop := ∀ i, i < n → entOk (f i) ∧ (0 < i → (f (i - 1)).m < (f i).m)
def tabOk (n : Nat) (f : Nat → Ent) : Prop := n ≤ 8 ∧ entsOk n f
theorem entsOk.step {k : Nat} {f : Nat → Ent} (h : entsOk k f) (h1 : entOk (f k)) (h2 : 0 < k → (f (k - 1)).m < (f k).m) : entsOk (k + 1) f := by
  intro i hi
  by_cases e : i = k
  · subst e; exact ⟨h1, h2⟩
  · exact h i (by omega)
theorem tab_dec (n : Nat) (f : Nat → Ent) : ∃ ok : Bool, ok = true ↔ tabOk n f := by
  by_cases h : tabOk n f
  · exact ⟨true, by simp [h]⟩
  · exact ⟨false, by simp [h]⟩
end Go.Proofs.Ytfpomccgmligbaa
