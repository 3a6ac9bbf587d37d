/- New arenas in paths; codes that are too long. -/
import Derived.Test.YthkkogpegmmbdaaArPath
import Derived.Test.YthkkogpegmmbdaaArSame
import Derived.Test.YthkkogpegmmbdaaArNew
import Derived.Test.YthkkogpegmmbdaaRd2
namespace Go.Proofs.Ythkkogpegmmbdaa
open Go.RowKit
set_option linter.unusedVariables false
set_option linter.unusedSimpArgs false

def upL : Nat → Nat → List Int
  | _, 0 => []
  | i, k + 1 => (i : Int) :: upL (i + 1) k
theorem upL_len : ∀ (k i : Nat), (upL i k).length = k
  | 0, _ => rfl
  | k + 1, i => by simp [upL, upL_len k]
theorem upL_mem (j : Nat) : ∀ (k i : Nat), i ≤ j → j < i + k → (j : Int) ∈ upL i k
  | 0, i, h1, h2 => by omega
  | k + 1, i, h1, h2 => by
    by_cases e : j = i
    · subst e; simp [upL]
    · exact List.mem_cons_of_mem _ (upL_mem j k (i + 1) (by omega) (by omega))
theorem new_path {n : Nat} : ∀ (k i : Nat), i + k = n → 1 ≤ k → Path (newNext n) (i : Int) (upL i k)
  | k + 1, i, h, _ => by
    refine ⟨rfl, by omega, ?_⟩
    rw [Int.toNat_natCast]
    unfold newNext
    by_cases e : i + 1 = n
    · obtain rfl : k = 0 := by omega
      rw [if_pos e]
      exact rfl
    · rw [if_neg e]
      exact new_path k (i + 1) (by omega) (by omega)
theorem new_right {n : Nat} (h1 : 1 ≤ n) (h2 : n ≤ 60) : Right n (newNext n) (fun _ => ⟨#[]⟩) 0 (upL 0 n) := by
  refine ⟨h1, h2, ⟨fun i hi => ?_, by omega, by omega, fun i hi e => ?_, fun i j hi hj e hne => ?_⟩, fun i hi => ⟨_, new_path (n - i) i (by omega) (by omega)⟩, new_path n 0 (by omega) h1, fun i hi => ⟨⟨fun _ => rfl, fun _ => upL_mem i n 0 (by omega) (by omega)⟩, Nat.zero_le _⟩⟩
  · unfold newNext
    split <;> omega
  · unfold newNext at e
    split at e <;> omega
  · unfold newNext at e hne
    split at e <;> split at e <;> simp_all
    omega

theorem Code.up {cv : Value} {len : Nat} {w w' : World} (h : Code w.heap.size cv len w) (hb : Below w.heap.size w w') : Code w'.heap.size cv len w' := by
  have hz := hb.size
  rcases h with h | ⟨b, off, cap, hv, hbg, hl, hc⟩
  · exact .inl h
  · refine .inr ⟨b, off, cap, hv, by omega, hl, fun i hi => ?_⟩
    obtain ⟨z, hz, he⟩ := hc i hi
    exact ⟨z, hz, (hb.cell (p := ⟨b, off + i, none⟩) hbg).trans he⟩
theorem big_any (a : Option Addr) (len cap : Nat) (w : World) (h : len ≤ maxLen) :
    Calls Try.prog 6 #[.slice a len cap] w fun e w' => e = .returned (.bool (decide (1048576 < (len : Int)))) ∧ w = w' := by
  unfold maxLen at h
  go_enter Try.func6, Try.ntmps6
  go_wp2_with fail
  go_ret
  exact ⟨rfl, rfl⟩
end Go.Proofs.Ythkkogpegmmbdaa
