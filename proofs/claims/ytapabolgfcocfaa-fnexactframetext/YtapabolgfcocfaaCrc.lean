/- The sum CRC-32, plainly: bit by bit, and by bytes. -/
namespace Go.Proofs.Ytapabolgfcocfaa.Crc
def step (c : Nat) : Nat := if c % 2 = 1 then (c / 2) ^^^ 3988292384 else c / 2
def steps : Nat → Nat → Nat
  | 0, c => c
  | k + 1, c => step (steps k c)
theorem xor_div (a b : Nat) : (a ^^^ b) / 2 = (a / 2) ^^^ (b / 2) := by
  have := Nat.shiftRight_xor_distrib (a := a) (b := b) (i := 1)
  simpa [Nat.shiftRight_eq_div_pow] using this
theorem xor_mod (a b : Nat) : (a ^^^ b) % 2 = (a + b) % 2 := by
  have h := Nat.testBit_xor a b 0
  simp only [Nat.testBit_zero] at h
  rcases Nat.mod_two_eq_zero_or_one a with h1 | h1 <;> rcases Nat.mod_two_eq_zero_or_one b with h2 | h2 <;>
    rcases Nat.mod_two_eq_zero_or_one (a ^^^ b) with h3 | h3 <;> first | omega | (rw [h1, h2, h3] at h; exact absurd h (by decide))
theorem step_xor (a b : Nat) : step (a ^^^ b) = step a ^^^ step b := by
  unfold step
  rw [xor_div, xor_mod]
  rcases Nat.mod_two_eq_zero_or_one a with h1 | h1 <;> rcases Nat.mod_two_eq_zero_or_one b with h2 | h2
  · rw [if_neg (by omega), if_neg (by omega), if_neg (by omega)]
  · rw [if_pos (by omega), if_neg (by omega), if_pos (by omega), Nat.xor_assoc]
  · rw [if_pos (by omega), if_pos (by omega), if_neg (by omega), Nat.xor_assoc, Nat.xor_assoc, Nat.xor_comm (b / 2)]
  · rw [if_neg (by omega), if_pos (by omega), if_pos (by omega)]
    rw [Nat.xor_assoc, ← Nat.xor_assoc 3988292384, Nat.xor_comm 3988292384 (b / 2), Nat.xor_assoc (b / 2), Nat.xor_self, Nat.xor_zero]
theorem steps_xor (k a b : Nat) : steps k (a ^^^ b) = steps k a ^^^ steps k b := by
  induction k with
  | zero => rfl
  | succ k ih => simp only [steps, ih, step_xor]
theorem steps_hi (k h : Nat) : ∀ j, steps k (h * 2 ^ (k + j)) = h * 2 ^ j := by
  induction k with
  | zero => intro j; simp [steps]
  | succ k ih =>
    intro j
    have e : h * 2 ^ (k + 1 + j) = h * 2 ^ (k + (j + 1)) := by rw [show k + 1 + j = k + (j + 1) from by omega]
    simp only [steps, e, ih, step]
    rw [Nat.pow_succ, ← Nat.mul_assoc, if_neg (by omega)]
    omega
theorem steps8 (c b : Nat) : steps 8 (c ^^^ b) = steps 8 ((c % 256) ^^^ b) ^^^ (c / 256) := by
  have e : c = (c / 256 * 2 ^ 8) ^^^ (c % 256) := by
    have h := Nat.two_pow_add_eq_or_of_lt (i := 8) (b := c % 256) (by omega) (c / 256)
    have h2 : 2 ^ 8 * (c / 256) ||| c % 256 = 2 ^ 8 * (c / 256) ^^^ c % 256 := by
      apply Nat.eq_of_testBit_eq
      intro i
      simp only [Nat.testBit_or, Nat.testBit_xor]
      by_cases hi : i < 8
      · have : (2 ^ 8 * (c / 256)).testBit i = false := by
          rw [Nat.testBit_two_pow_mul]; simp; omega
        simp [this]
      · have : (c % 256).testBit i = false := Nat.testBit_lt_two_pow (Nat.lt_of_lt_of_le (by omega : c % 256 < 2 ^ 8) (Nat.pow_le_pow_right (by omega) (by omega)))
        simp [this]
    rw [Nat.mul_comm, ← h2, ← h]; omega
  have hh := steps_hi 8 (c / 256) 0
  have s : c ^^^ b = (c / 256 * 2 ^ 8) ^^^ ((c % 256) ^^^ b) := by rw [← Nat.xor_assoc, ← e]
  rw [s, steps_xor, show steps 8 (c / 256 * 2 ^ 8) = c / 256 from by simpa using hh, Nat.xor_comm]
theorem step_lt (c : Nat) (h : c < 4294967296) : step c < 4294967296 := by
  unfold step
  split
  · exact Nat.xor_lt_two_pow (n := 32) (by omega) (by omega)
  · omega
theorem steps_lt (k c : Nat) (h : c < 4294967296) : steps k c < 4294967296 := by
  induction k with
  | zero => exact h
  | succ k ih => exact step_lt _ ih
/-- the running sum behind the bytes l -/
def run (l : List UInt8) : Nat := l.foldl (fun c b => steps 8 (c ^^^ b.toNat)) 4294967295
theorem run_snoc (l : List UInt8) (b : UInt8) : run (l ++ [b]) = steps 8 (run l ^^^ b.toNat) := by
  simp [run]
theorem byte_lt (b : UInt8) : b.toNat < 256 := b.toNat_lt
theorem run_lt (l : List UInt8) : run l < 4294967296 := by
  unfold run
  suffices h : ∀ (l : List UInt8) (c : Nat), c < 4294967296 → l.foldl (fun c b => steps 8 (c ^^^ b.toNat)) c < 4294967296 from h l _ (by omega)
  intro l
  induction l with
  | nil => intro c h; exact h
  | cons b l ih =>
    intro c h
    refine ih _ (steps_lt 8 _ ?_)
    exact Nat.xor_lt_two_pow (n := 32) (by omega) (by have := byte_lt b; omega)
/-- the sum's four bytes, the lowest first -/
def bytes (l : List UInt8) : List UInt8 :=
  [UInt8.ofNat ((4294967295 - run l) % 256), UInt8.ofNat ((4294967295 - run l) / 256 % 256), UInt8.ofNat ((4294967295 - run l) / 65536 % 256), UInt8.ofNat ((4294967295 - run l) / 16777216 % 256)]
end Go.Proofs.Ytapabolgfcocfaa.Crc
