/- Answers that own their rows: read. -/
import Derived.Test.YthkkogpegmmbdaaArSOk
import Derived.Test.YthkkogpegmmbdaaBox
namespace Go.Proofs.Ythkkogpegmmbdaa
open Go.RowKit
set_option linter.unusedVariables false

/-- the block of a slice, if it has one -/
def bl : Value → List Nat
  | .slice (some a) _ _ => [a.block]
  | _ => []
/-- a slice that lies whole in a block of its own, from base on, or nil -/
def VRow (t : TypeId) (w : World) (base : Nat) (v : Value) (n : Nat) (f : Nat → Value) : Prop :=
  ∃ a cap, v = .slice a n cap ∧ (a = none ∧ n = 0 ∨ ∃ g, a = some ⟨g, 0, none⟩ ∧ base ≤ g ∧ RowTo g t n f n w)
theorem VRow.read {t : TypeId} {w : World} {base n : Nat} {v : Value} {f : Nat → Value} (h : VRow t w base v n f) : ∃ a cap, v = .slice a n cap ∧ RdRow w a n f := by
  obtain ⟨a, cap, rfl, ⟨rfl, rfl⟩ | ⟨g, rfl, hg, hR⟩⟩ := h
  · exact ⟨_, _, rfl, RdRow.nil _ _ _⟩
  · exact ⟨_, _, rfl, hR.read⟩
theorem VRow.keep {t : TypeId} {w w' : World} {base n : Nat} {v : Value} {f : Nat → Value} (h : VRow t w base v n f) (hk : ∀ g ∈ bl v, w'.heap[g]? = w.heap[g]?) : VRow t w' base v n f := by
  obtain ⟨a, cap, rfl, ⟨rfl, rfl⟩ | ⟨g, rfl, hg, hR⟩⟩ := h
  · exact ⟨_, _, rfl, .inl ⟨rfl, rfl⟩⟩
  · exact ⟨_, _, rfl, .inr ⟨g, rfl, hg, hR.keep (hk g (by simp [bl]))⟩⟩
theorem VRow.lt {t : TypeId} {w : World} {base n : Nat} {v : Value} {f : Nat → Value} (h : VRow t w base v n f) : ∀ g ∈ bl v, g < w.heap.size ∧ base ≤ g := by
  obtain ⟨a, cap, rfl, ⟨rfl, rfl⟩ | ⟨g, rfl, hg, hR⟩⟩ := h
  · simp [bl]
  · simp only [bl, List.mem_singleton]
    rintro x rfl
    exact ⟨hR.lt, hg⟩
theorem VRow.up {t : TypeId} {w w' : World} {base n : Nat} {v : Value} {f : Nat → Value} (h : VRow t w base v n f) (hb : Below w.heap.size w w') : VRow t w' base v n f :=
  h.keep (fun g hg => hb.block g (h.lt g hg).1)
theorem VRow.touch {t : TypeId} {w w' : World} {S : List Nat} {base n : Nat} {v : Value} {f : Nat → Value} (h : VRow t w base v n f) (hb : Touch S w w') (hS : ∀ g ∈ bl v, g ∉ S) : VRow t w' base v n f :=
  h.keep (fun g hg => hb.block g (h.lt g hg).1 (hS g hg))
theorem VRow.low {t : TypeId} {w : World} {base base' n : Nat} {v : Value} {f : Nat → Value} (h : VRow t w base v n f) (hb : base' ≤ base) : VRow t w base' v n f := by
  obtain ⟨a, cap, rfl, h | ⟨g, rfl, hg, hR⟩⟩ := h
  · exact ⟨_, _, rfl, .inl h⟩
  · exact ⟨_, _, rfl, .inr ⟨g, rfl, by omega, hR⟩⟩
theorem VRow.nil (t : TypeId) (w : World) (base : Nat) (f : Nat → Value) : VRow t w base (.slice none 0 0) 0 f := ⟨_, _, rfl, .inl ⟨rfl, rfl⟩⟩
theorem VRow.of {t : TypeId} {w : World} {base g n cap : Nat} {f : Nat → Value} (h : RowTo g t n f n w) (hg : base ≤ g) : VRow t w base (.slice (some ⟨g, 0, none⟩) n cap) n f := ⟨_, _, rfl, .inr ⟨g, rfl, hg, h⟩⟩
theorem VRow.apart {t t' : TypeId} {w : World} {base base' n n' : Nat} {v v' : Value} {f f' : Nat → Value} (h : VRow t w base v n f) (h' : VRow t' w base' v' n' f') (hn : t ≠ t') : ∀ g ∈ bl v, g ∉ bl v' := by
  obtain ⟨a, cap, rfl, ⟨rfl, rfl⟩ | ⟨g, rfl, hg, arr, hR, _⟩⟩ := h
  · simp [bl]
  · obtain ⟨a', cap', rfl, ⟨rfl, rfl⟩ | ⟨g', rfl, hg', arr', hR', _⟩⟩ := h'
    · simp [bl]
    · simp only [bl, List.mem_singleton]
      rintro x rfl rfl
      rw [hR] at hR'
      cases hR'
      exact hn rfl
/-- a list's numbers, at their places -/
def intsOf (L : List Int) (i : Nat) : Value := .int .i64 (L.getD i 0)
theorem own_vrow {w : World} {base n : Nat} {v : Value} {L : List Int} (h : w.ownsRow base 2 1 v n (L.map (.int .i64))) : n = L.length ∧ VRow 2 w base v L.length (intsOf L) := by
  obtain ⟨hl, h | ⟨g', cap', cur, hv, hg, hblk, hn, hc, hs, ht⟩⟩ := h
  · obtain ⟨rfl, rfl⟩ := h
    have : L.length = 0 := by simpa using hl
    rw [this]
    exact ⟨rfl, VRow.nil _ _ _ _⟩
  · have hlen : L.length = n := by simpa using hl
    subst hv
    refine ⟨hlen.symm, ?_⟩
    subst hlen
    refine VRow.of ⟨cur, hblk, by omega, fun i hi => ?_⟩ hg
    have e : (cur.toList.take (L.length * 1))[i]? = (L.map (Value.int .i64))[i]? := by rw [ht]
    rw [Nat.mul_one, List.getElem?_take_of_lt hi, List.getElem?_map, List.getElem?_eq_getElem hi, Array.getElem?_toList] at e
    rw [e]
    simp [intsOf, List.getD_eq_getElem?_getD, List.getElem?_eq_getElem hi]

end Go.Proofs.Ythkkogpegmmbdaa
