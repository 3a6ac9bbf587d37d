/- A table's entries laid into a map. -/
import Derived.Test.YtfpomccgmligbaaEMap
namespace Go.Proofs.Ytfpomccgmligbaa
open Go.RowKit
set_option linter.unusedVariables false
set_option linter.unusedSimpArgs false

theorem make_mapE (n : Int) (w : World) : (Instr.makeMap 44 (some (.int .i64 n))).run Try.prog w = .ok (.map (some w.heap.size)) (w.alloc (.map #[] 0)) := by
  simp [Instr.makeMap, run_underlying Try.underlying44, go_sem, Result.andThen]
theorem keyedI : Maps.Keyed Try.prog 2 := Maps.int_keyed Try.underlying2
theorem storeE {w : World} {b n : Nat} {L : List Ent} {m p t : Int} (h : OwnsE w b n L) (hn : n < maxLen) (h0 : -9223372036854775808 ≤ m) (h1 : m ≤ 9223372036854775807) :
    ∃ w', (Instr.mapUpdate 44 (.map (some b)) (.int .i64 m) (.agg #[.int .i64 m, .int .i64 p, .int .i64 t])).run Try.prog w = .ok () w' ∧ OwnsE w' b (n + 1) (insE ⟨m, p, t⟩ (notM m L)) ∧ w.mapTurned w' b := by
  obtain ⟨w', h1, h2, h3⟩ := h.store keyedI Try.underlying44 hn (keyI h0 h1) (entElem_mk ⟨m, p, t⟩)
  refine ⟨w', h1, ?_, h3⟩
  have e := mD_put ⟨m, p, t⟩ L
  dsimp only at e
  show w'.ownsMap Try.prog 2 entElem b (n + 1) (mD (insE ⟨m, p, t⟩ (notM m L)))
  rw [← e]
  exact h2
theorem turn_below {B b : Nat} {a w w' : World} (h : Below B a w) (ht : w.mapTurned w' b) (hB : B ≤ w.heap.size) (hb : B ≤ b) : Below B a w' :=
  h.grown ht.grown hB (fun k e => by cases e; exact hb)

theorem byMac_any (a : Option Addr) (n cap : Nat) (f : Nat → Ent) (w : World) (hok : tabOk n f) (h : RdEnt w a n f) :
    Calls Try.prog 22 #[.slice a n cap] w fun e w' => e = .returned (.map (some w.heap.size)) ∧ OwnsE w' w.heap.size n (entsL n f) ∧ Below w.heap.size w w' := by
  have HR : Hid (RdEnt w a n f) := h
  have HO : Hid (entsOk n f) := hok.2
  have h8 : n ≤ 8 := hok.1
  have mk := make_mapE n w
  clear h hok
  go_enter Try.func22, Try.ntmps22
  go_wp2_with fail
  clear mk
  go_loopw [11] (fun i wr => ∃ k : Nat, k ≤ n ∧ i = .int .i64 k ∧ OwnsE wr w.heap.size k (entsL k f) ∧ Below w.heap.size w wr) (fun i _ => n - (intOf i).toNat)
  case atStart => exact ⟨0, Nat.zero_le _, rfl, World.ownsMap_made w _ _ _, (Below.refl _ _).alloc (Nat.le_refl _) _⟩
  case round =>
    obtain ⟨k, hk, rfl, hown, hB⟩ := hrel
    by_cases hlt : k < n
    · have hlt' : (k : Int) < n := by omega
      obtain ⟨g, o, rfl, c1, c2, c3⟩ := (HR.out.up hB) k hlt
      have HL : Hid (insE (f k) (notM (f k).m (entsL k f)) = entsL (k + 1) f) := by
        have hb := HO.out.below hlt
        rw [Hid, notM_all (fun y hy => by have := hb y hy; omega), insE_last hb, entsL_succ]
      have hm := (HO.out k hlt).1.1
      generalize hx : f k = x at *
      obtain ⟨m, p, t⟩ := x
      dsimp only at c1 c2 c3 hm HL
      obtain ⟨w2, hrun, hown2, hturn⟩ := storeE (p := p) (t := t) (hown.alloc (.cells #[.int .i64 m, .int .i64 p, .int .i64 t] 31)) (show k < maxLen by unfold maxLen; omega) (show -9223372036854775808 ≤ m by omega) (show m ≤ 9223372036854775807 by omega)
      have HB2 : Hid (Below w.heap.size w w2) := turn_below (hB.alloc hB.size _) hturn (by have := hB.size; simp; omega) (Nat.le_refl _)
      have HO2 : Hid (OwnsE w2 w.heap.size (k + 1) (entsL (k + 1) f)) := by rw [Hid, ← HL.out]; exact hown2
      clear hown hown2 hturn hB
      go_wp2_with fail
      go_roundw
      case rel => exact ⟨k + 1, by omega, by go_num, HO2.out, HB2.out⟩
      case measure => simp [intOf]; omega
    · obtain rfl : k = n := by omega
      go_wp2_with fail
      go_ret
      exact ⟨rfl, hown, hB⟩
end Go.Proofs.Ytfpomccgmligbaa
