/- The sum by a table of all bytes' sums: its contract. -/
import Derived.Test.YtapabolgfcocfaaSum
import Derived.Test.YtapabolgfcocfaaMem
namespace Go.Proofs.Ytapabolgfcocfaa
open Go.RowKit
set_option linter.unusedVariables false

def zeros256 : Array Value := Array.replicate 256 (.int .u32 0)
theorem zero73 (w : World) : Sem.run Try.prog (zeroValue 73) w = .ok (.agg zeros256) w := by kernel_rfl

/-- behind k rounds: block g holds the first k bytes' sums -/
def TabAt (g : Nat) (w wr : World) (k : Nat) : Prop :=
  Below g w wr ∧ ∃ cs : Array Value, wr.heap[g]? = some (.cells cs 73 (0, 0)) ∧ cs.size = 256 ∧ ∀ i, i < k → cs[i]? = some (.int .u32 (Crc.steps 8 i : Nat))
theorem tab_start (w : World) : TabAt w.heap.size w (w.alloc (.cells zeros256 73)) 0 :=
  ⟨(Below.refl _ _).alloc (Nat.le_refl _) _, zeros256, blk_new w _, by simp [zeros256], fun i h => by omega⟩
theorem tab_step {g : Nat} {w wr : World} {k : Nat} (h : TabAt g w wr k) (hk : k < 256) : TabAt g w (wr.setCell ⟨g, k, none⟩ (.int .u32 (Crc.steps 8 k : Nat))) (k + 1) := by
  obtain ⟨hb, cs, hg, hs, hc⟩ := h
  refine ⟨hb.setCell (Nat.le_refl _) _, _, blk_set hg _, by simpa using hs, fun i hi => ?_⟩
  by_cases e : i = k
  · subst e
    rw [Array.getElem?_setIfInBounds_self_of_lt (by omega)]
  · rw [Array.getElem?_setIfInBounds_ne (by omega)]
    exact hc i (by omega)
theorem tab_cell {g : Nat} {w wr : World} {k : Nat} (h : TabAt g w wr k) (i : Nat) (hi : i < 256) : ∃ v, wr.cell? ⟨g, i, none⟩ = some v := by
  obtain ⟨hb, cs, hg, hs, hc⟩ := h
  exact ⟨cs[i], by rw [blk_cell hg]; simp [hs, hi]⟩
theorem tab_free {g : Nat} {w wr : World} {k : Nat} (h : TabAt g w wr k) (i : Nat) : wr.frozen? ⟨g, i, none⟩ = false := by
  obtain ⟨hb, cs, hg, hs, hc⟩ := h
  exact blk_free hg i
theorem tab_at {g : Nat} {w wr : World} (h : TabAt g w wr 256) (i : Nat) (hi : i < 256) : wr.cell? ⟨g, i, none⟩ = some (.int .u32 (Crc.steps 8 i : Nat)) := by
  obtain ⟨hb, cs, hg, hs, hc⟩ := h
  rw [blk_cell hg]; exact hc i hi

theorem sumOf_any (b off cap : Nat) (l : List UInt8) (w : World) (hb : b < w.heap.size) (hl : l.length ≤ 100) (hcell : ∀ i (h : i < l.length), w.cell? ⟨b, off + i, none⟩ = some (.int .u8 (l[i].toNat))) :
    Calls Try.prog 34 #[.slice (some ⟨b, off, none⟩) l.length cap] w fun e w' => e = .returned (.int .u32 ((4294967295 - Crc.run l : Nat) : Int)) ∧ Below w.heap.size w w' := by
  have hz := zero73
  go_enter Try.func34, Try.ntmps34
  go_wp2
  clear hz
  go_loopw [8] (fun i wr => ∃ k : Nat, k ≤ 256 ∧ i = .int .i64 k ∧ TabAt w.heap.size w wr k) (fun i _ => 256 - (intOf i).toNat)
  case atStart => exact ⟨0, Nat.zero_le _, rfl, tab_start w⟩
  case round =>
    obtain ⟨k, hk, rfl, hT⟩ := hrel
    by_cases hlt : k < 256
    · obtain ⟨v, hv⟩ := tab_cell hT k hlt
      have hf := tab_free hT k
      have hlt' : (k : Int) < 256 := by omega
      go_wp2_with fail
      refine (sumOfByte_any k wr (by omega)).mono ?_
      rintro e w' ⟨rfl, rfl⟩
      go_wp2
      go_roundw
      case rel => exact ⟨k + 1, by omega, by go_num, tab_step hT hlt⟩
      case measure => simp [intOf]; omega
    · obtain rfl : k = 256 := by omega
      have hold : ∀ i (h : i < l.length), wr.cell? ⟨b, off + i, none⟩ = some (.int .u8 (l[i].toNat)) := by
        intro i h
        rw [hT.1.cell (p := ⟨b, off + i, none⟩) hb]
        exact hcell i h
      clear hcell
      go_wp2
      go_loop [5, 19] (fun c i => ∃ j : Nat, j ≤ l.length ∧ i = .int .i64 j ∧ c = .int .u32 (Crc.run (l.take j) : Nat)) (fun _ i => l.length - (intOf i).toNat)
      case atStart => exact ⟨0, Nat.zero_le _, rfl, rfl⟩
      case round =>
        obtain ⟨j, hj, rfl, rfl⟩ := hrel
        have hlr := Crc.run_lt (l.take j)
        by_cases hlt : j < l.length
        · have hc := hold j hlt
          clear hold
          have hby := Crc.byte_lt l[j]
          have hsn : Hid (Crc.run (l.take (j + 1)) = Crc.steps 8 (Crc.run (l.take j) ^^^ l[j].toNat)) := by
            rw [List.take_succ_eq_append_getElem hlt, Crc.run_snoc]; exact rfl
          generalize Crc.run (l.take j) = x at *
          generalize l[j].toNat = y at *
          have hx8 : bits .xor .u8 ((x : Int) % 256) (y : Int) = ((x % 256 ^^^ y : Nat) : Int) := by
            have := u8_xor_nat (x % 256) y (by omega) hby
            exact this
          have h8 := Crc.steps8 x y
          have ht : x % 256 ^^^ y < 256 := Nat.xor_lt_two_pow (n := 8) (by omega) (by omega)
          have hsn2 : Hid (Crc.run (l.take (j + 1)) = Crc.steps 8 (x % 256 ^^^ y) ^^^ (x / 256)) := by rw [hsn.out, h8]; exact rfl
          clear hsn h8
          generalize x % 256 ^^^ y = t at *
          have hct := tab_at hT t ht
          have hst := Crc.steps_lt 8 t (by omega)
          generalize Crc.steps 8 t = z at *
          have hx32 : bits .xor .u32 (z : Int) ((x : Int) / 256) = ((z ^^^ (x / 256) : Nat) : Int) := by
            have := u32_xor_nat z (x / 256) hst (by omega)
            exact this
          go_wp2
          go_round
          case rel => exact ⟨j + 1, by omega, by go_num, by rw [hsn2.out]⟩
          case measure => simp [intOf]; omega
        · obtain rfl : j = l.length := by omega
          rw [List.take_length] at *
          have hno := not_u32 _ hlr
          go_wp2
          go_ret
          exact ⟨rfl, hT.1⟩
end Go.Proofs.Ytapabolgfcocfaa
