/- The sums of both sides: contracts over the translation. -/
import Derived.Test.YtapabolgfcocfaaFrLaws
import Derived.Test.YtapabolgfcocfaaCrc
import Derived.Laws.BitsAllLaws
import Derived.Laws.BytesArg
namespace Go.Proofs.Ytapabolgfcocfaa
open Go.RowKit
set_option linter.unusedVariables false

theorem sumOfByte_any (c : Nat) (w : World) (hc : c < 4294967296) :
    Calls Try.prog 56 #[.int .u32 c] w fun e w' => e = .returned (.int .u32 (Crc.steps 8 c)) ∧ w' = w := by
  go_enter Try.func56, Try.ntmps56
  go_wp2
  go_loop [0, 3] (fun x i => ∃ j : Nat, j ≤ 8 ∧ i = .int .i64 j ∧ x = .int .u32 (Crc.steps j c)) (fun _ i => 8 - (intOf i).toNat)
  case atStart => exact ⟨0, Nat.zero_le _, rfl, rfl⟩
  case round =>
    obtain ⟨j, hj, rfl, rfl⟩ := hrel
    have hl := Crc.steps_lt j c hc
    have hs : Hid (Crc.steps (j + 1) c = Crc.step (Crc.steps j c)) := rfl
    obtain ⟨x, HX⟩ : ∃ x, Hid (Crc.steps j c = x) := ⟨_, rfl⟩
    rw [HX.out] at hl hs
    rw [HX.out]
    by_cases hlt : j < 8
    · have hlt' : (j : Int) < 8 := by omega
      have ha : bits .and .u32 (x : Int) 1 = ((x % 2 : Nat) : Int) := by
        have := u32_and_nat x 1 hl (by omega)
        rw [Nat.and_one_is_mod] at this
        exact this
      have hx : bits .xor .u32 ((x : Int) / 2) 3988292384 = (((x / 2) ^^^ 3988292384 : Nat) : Int) := by
        have := u32_xor_nat (x / 2) 3988292384 (by omega) (by omega)
        exact this
      go_wp2
      · go_round
        case rel =>
          have hm : ((x : Int) % 2 == 1) = true := by assumption
          refine ⟨j + 1, by omega, by go_num, ?_⟩
          rw [hs.out, Crc.step, if_pos (by simp at hm; omega)]
        case measure => simp [intOf]; omega
      · go_round
        case rel =>
          have hm : ((x : Int) % 2 == 1) = false := by assumption
          refine ⟨j + 1, by omega, by go_num, ?_⟩
          rw [hs.out, Crc.step, if_neg (by simp at hm; omega)]
          go_num
        case measure => simp [intOf]; omega
    · go_wp2
      go_ret
      obtain rfl : j = 8 := by omega
      exact ⟨by rw [HX.out]; rfl, rfl⟩

theorem take_snoc (s : ByteArray) (k : Nat) (h : k < s.size) : s.data.toList.take (k + 1) = s.data.toList.take k ++ [s[k]] := by
  rw [List.take_succ_eq_append_getElem (by simpa using h)]; rfl

theorem step_round (x : Nat) (hl : x < 4294967296) : bits .xor .u32 ((x : Int) / 2) 3988292384 = (((x / 2) ^^^ 3988292384 : Nat) : Int) := by
  have := u32_xor_nat (x / 2) 3988292384 (by omega) (by omega)
  exact this
theorem not_u32 (x : Nat) (hl : x < 4294967296) : bits .xor .u32 IntKind.u32.max (x : Int) = ((4294967295 - x : Nat) : Int) := by
  have e : IntKind.u32.max = ((4294967295 : Nat) : Int) := by decide
  have h := u32_xor_nat 4294967295 x (by omega) hl
  rw [e, h, Nat.xor_comm]
  have h2 : x ^^^ 4294967295 = 4294967295 - x := by
    have h3 := congrArg BitVec.toNat (BitVec.xor_allOnes (x := BitVec.ofNat 32 x))
    rw [BitVec.toNat_xor, BitVec.toNat_not, BitVec.toNat_ofNat, BitVec.toNat_allOnes, Nat.mod_eq_of_lt (by omega)] at h3
    omega
  rw [h2]
theorem conv4 (w : World) (a b c d : Int) : (convert 50 9 (.slice (some ⟨w.heap.size, 0, none⟩) 4 4)).run Try.prog (w.alloc (.cells #[.int .u8 a, .int .u8 b, .int .u8 c, .int .u8 d] 5)) = .ok (.string (strOfNums [a, b, c, d])) (w.alloc (.cells #[.int .u8 a, .int .u8 b, .int .u8 c, .int .u8 d] 5)) := by
  refine run_convert_bytes_arg _ 50 5 Try.underlying50 Try.underlying5 w.heap.size 0 4 4 [a, b, c, d] rfl ?_ 9 Try.underlying9
  intro i hi
  have := World.cell?_alloc_mark w #[.int .u8 a, .int .u8 b, .int .u8 c, .int .u8 d] 5 (0, 0) (0 + i)
  rw [this]
  rcases (by omega : i = 0 ∨ i = 1 ∨ i = 2 ∨ i = 3) with rfl | rfl | rfl | rfl <;> rfl

theorem ret_string {a b : ByteArray} (h : a = b) : Ending.returned (.string a) = .returned (.string b) := by rw [h]
theorem sum_bytes (l : List UInt8) : strOfNums [((4294967295 - Crc.run l : Nat) : Int) % 256, ((4294967295 - Crc.run l : Nat) : Int) / 256 % 256, ((4294967295 - Crc.run l : Nat) : Int) / 65536 % 256, ((4294967295 - Crc.run l : Nat) : Int) / 16777216 % 256] = ⟨(Crc.bytes l).toArray⟩ := by
  unfold strOfNums Crc.bytes
  generalize 4294967295 - Crc.run l = y
  have e0 : ((y : Int) % 256).toNat = y % 256 := by omega
  have e1 : ((y : Int) / 256 % 256).toNat = y / 256 % 256 := by omega
  have e2 : ((y : Int) / 65536 % 256).toNat = y / 65536 % 256 := by omega
  have e3 : ((y : Int) / 16777216 % 256).toNat = y / 16777216 % 256 := by omega
  simp only [List.map_cons, List.map_nil, e0, e1, e2, e3]

theorem l1Sum_any (s : ByteArray) (w : World) (hs : s.size ≤ maxLen) :
    Calls Try.prog 55 #[.string s] w fun e w' => e = .returned (.string ⟨(Crc.bytes s.data.toList).toArray⟩) ∧ Below w.heap.size w w' := by
  unfold maxLen at hs
  go_enter Try.func55, Try.ntmps55
  go_wp2
  go_loop [3, 4] (fun c i => ∃ k : Nat, k ≤ s.size ∧ i = .int .i64 k ∧ c = .int .u32 (Crc.run (s.data.toList.take k))) (fun _ i => s.size - (intOf i).toNat)
  case atStart => exact ⟨0, Nat.zero_le _, rfl, rfl⟩
  case round =>
    obtain ⟨k, hk, rfl, rfl⟩ := hrel
    have hl := Crc.run_lt (s.data.toList.take k)
    by_cases hlt : k < s.size
    · have hsn : Hid (Crc.run (s.data.toList.take (k + 1)) = Crc.steps 8 (Crc.run (s.data.toList.take k) ^^^ s[k].toNat)) := by
        rw [take_snoc s k hlt, Crc.run_snoc]; exact rfl
      generalize Crc.run (s.data.toList.take k) = x at *
      have hby := Crc.byte_lt s[k]
      have hxr : bits .xor .u32 (x : Int) (s[k].toNat : Int) = ((x ^^^ s[k].toNat : Nat) : Int) := u32_xor_nat x _ hl (by omega)
      have hl2 : x ^^^ s[k].toNat < 4294967296 := Nat.xor_lt_two_pow (n := 32) (by omega) (by omega)
      go_wp2
      generalize x ^^^ s[k].toNat = c at *
      clear hxr
      go_loop [3, 5] (fun x i => ∃ j : Nat, j ≤ 8 ∧ i = .int .i64 j ∧ x = .int .u32 (Crc.steps j c)) (fun _ i => 8 - (intOf i).toNat)
      case atStart => exact ⟨0, Nat.zero_le _, rfl, rfl⟩
      case round =>
        obtain ⟨j, hj, rfl, rfl⟩ := hrel
        have hl := Crc.steps_lt j c hl2
        have hs : Hid (Crc.steps (j + 1) c = Crc.step (Crc.steps j c)) := rfl
        obtain ⟨y, HX⟩ : ∃ y, Hid (Crc.steps j c = y) := ⟨_, rfl⟩
        rw [HX.out] at hl hs
        rw [HX.out]
        by_cases hlt8 : j < 8
        · have hlt' : (j : Int) < 8 := by omega
          have hx := step_round y hl
          go_wp2
          · go_round
            case rel =>
              have hm : ((y : Int) % 2 == 1) = true := by assumption
              refine ⟨j + 1, by omega, by go_num, ?_⟩
              rw [hs.out, Crc.step, if_pos (by simp at hm; omega)]
            case measure => simp [intOf]; omega
          · go_round
            case rel =>
              have hm : ((y : Int) % 2 == 1) = false := by assumption
              refine ⟨j + 1, by omega, by go_num, ?_⟩
              rw [hs.out, Crc.step, if_neg (by simp at hm; omega)]
              go_num
            case measure => simp [intOf]; omega
        · obtain rfl : j = 8 := by omega
          go_wp2
          go_round
          case rel => exact ⟨k + 1, by omega, by go_num, by rw [hsn.out, HX.out]⟩
          case measure => simp [intOf]; omega
    · obtain rfl : k = s.size := by omega
      rw [show s.data.toList.take s.size = s.data.toList from List.take_of_length_le (by simp)] at *
      have hno := not_u32 _ hl
      have hcv := conv4 w
      have hfin : Hid (strOfNums [((4294967295 - Crc.run s.data.toList : Nat) : Int) % 256, ((4294967295 - Crc.run s.data.toList : Nat) : Int) / 256 % 256, ((4294967295 - Crc.run s.data.toList : Nat) : Int) / 65536 % 256, ((4294967295 - Crc.run s.data.toList : Nat) : Int) / 16777216 % 256] = ⟨(Crc.bytes s.data.toList).toArray⟩) := by
        exact sum_bytes _
      generalize 4294967295 - Crc.run s.data.toList = y at *
      go_wp2
      go_ret
      exact ⟨ret_string hfin.out, (Below.refl _ _).alloc (Nat.le_refl _) _⟩
end Go.Proofs.Ytapabolgfcocfaa
