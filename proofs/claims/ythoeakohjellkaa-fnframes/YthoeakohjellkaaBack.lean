/- A right frame comes back from its bytes. -/
import Derived.Test.YthoeakohjellkaaRead2
namespace Go.Proofs.Ythoeakohjellkaa
open Go.RowKit
set_option linter.unusedVariables false

theorem textB_data (k d s p : Int) (b : ByteArray) : (textB k d s p b).data.toList = bodyB k d s p b ++ Crc.bytes (bodyB k d s p b) := by
  simp [textB]
theorem bodyB_len (k d s p : Int) (b : ByteArray) : (bodyB k d s p b).length = 5 + b.size := by
  rw [bodyB, List.length_append, ← size_data]; rfl
theorem textB_size (k d s p : Int) (b : ByteArray) : (textB k d s p b).size = b.size + 9 := by
  rw [size_data, textB_data, List.length_append, bytes_len, bodyB_len]; omega
theorem byte_data (a : ByteArray) (i : Nat) (h : i < a.size) (l : List UInt8) (hl : a.data.toList = l) : some a[i] = l[i]? := by
  subst hl
  have h' : i < a.data.size := h
  rw [Array.getElem?_toList, Array.getElem?_eq_getElem h']
  rfl
theorem textB_at (k d s p : Int) (b : ByteArray) (i : Nat) (hi : i < 5) (h : i < (textB k d s p b).size) : some (textB k d s p b)[i] = (hdB k d s p b.size)[i]? := by
  rw [byte_data _ i h _ (textB_data k d s p b), List.getElem?_append_left (by rw [bodyB_len]; omega), bodyB, List.getElem?_append_left hi]
theorem textB_body (k d s p : Int) (b : ByteArray) : (textB k d s p b).extract 5 ((textB k d s p b).size - 4) = b := by
  apply ByteArray.ext
  apply Array.ext'
  rw [ByteArray.data_extract, Array.toList_extract, textB_size]
  show (List.drop 5 (textB k d s p b).data.toList).take (b.size + 9 - 4 - 5) = _
  rw [textB_data]
  have e : (bodyB k d s p b ++ Crc.bytes (bodyB k d s p b)) = hdB k d s p b.size ++ (b.data.toList ++ Crc.bytes (bodyB k d s p b)) := by
    rw [bodyB, List.append_assoc]
  rw [e]
  show (List.drop (hdB k d s p b.size).length (hdB k d s p b.size ++ _)).take _ = _
  rw [List.drop_left, show b.size + 9 - 4 - 5 = b.data.toList.length by rw [← size_data]; omega, List.take_left]

theorem read_back (k d s p : Int) (b : ByteArray) (hok : frOkB k d s p b.size = true) :
    readV (textB k d s p b) = .tuple #[.agg #[.int .i64 k, .int .i64 d, .int .i64 s, .int .i64 p, .string b], .bool true] := by
  obtain ⟨k0, k1, d0, d1, s0, s1, p0, p1, hn⟩ := frOk_bounds hok
  have hz := textB_size k d s p b
  have a0 : ((textB k d s p b)[0]'(by omega)).toNat = k := by
    have := textB_at k d s p b 0 (by omega) (by omega)
    simp only [hdB, List.getElem?_cons_zero, Option.some.injEq] at this
    rw [this]; exact byte_of _ k0 k1
  have a1 : ((textB k d s p b)[1]'(by omega)).toNat = d := by
    have := textB_at k d s p b 1 (by omega) (by omega)
    simp only [hdB, List.getElem?_cons_succ, List.getElem?_cons_zero, Option.some.injEq] at this
    rw [this]; exact byte_of _ d0 d1
  have a2 : ((textB k d s p b)[2]'(by omega)).toNat = s := by
    have := textB_at k d s p b 2 (by omega) (by omega)
    simp only [hdB, List.getElem?_cons_succ, List.getElem?_cons_zero, Option.some.injEq] at this
    rw [this]; exact byte_of _ s0 s1
  have a3 : ((textB k d s p b)[3]'(by omega)).toNat = p := by
    have := textB_at k d s p b 3 (by omega) (by omega)
    simp only [hdB, List.getElem?_cons_succ, List.getElem?_cons_zero, Option.some.injEq] at this
    rw [this]; exact byte_of _ p0 p1
  have hY := (readV_yes (textB k d s p b) (by omega) (by omega)).out
  rw [a0, a1, a2, a3, textB_body] at hY
  exact (hY (by unfold textOr; rw [if_pos hok])).symm
theorem read_empty : readV ⟨#[]⟩ = .tuple #[.agg #[.int .i64 0, .int .i64 0, .int .i64 0, .int .i64 0, .string ⟨#[]⟩], .bool false] :=
  (readV_short ⟨#[]⟩ (.inl (by show (0 : Nat) < 9; omega))).symm
theorem read_or (k d s p : Int) (b : ByteArray) : ∃ (k' d' s' p' : Int) (b' : ByteArray),
    readV (textOr k d s p b) = .tuple #[.agg #[.int .i64 k', .int .i64 d', .int .i64 s', .int .i64 p', .string b'], .bool (frOkB k d s p b.size)] ∧
    (frOkB k d s p b.size = true → k' = k ∧ d' = d ∧ s' = s ∧ p' = p ∧ b' = b ∧ (textOr k d s p b).size = b.size + 9) := by
  unfold textOr
  cases hok : frOkB k d s p b.size
  · exact ⟨_, _, _, _, _, read_empty, fun h => by cases h⟩
  · exact ⟨_, _, _, _, _, read_back k d s p b hok, fun _ => ⟨rfl, rfl, rfl, rfl, rfl, textB_size k d s p b⟩⟩
theorem read_any (t : ByteArray) (ht : t.size ≤ 200) : ∃ (k d s p : Int) (b : ByteArray) (ok : Bool),
    readV t = .tuple #[.agg #[.int .i64 k, .int .i64 d, .int .i64 s, .int .i64 p, .string b], .bool ok] ∧ b.size ≤ maxLen ∧ (ok = true → textOr k d s p b = t) := by
  unfold readV
  split
  · rename_i h
    split
    · rename_i hT
      exact ⟨_, _, _, _, _, _, rfl, by rw [ByteArray.size_extract]; unfold maxLen; omega, fun _ => hT⟩
    · exact ⟨_, _, _, _, _, _, rfl, Nat.zero_le _, fun h => by cases h⟩
  · exact ⟨_, _, _, _, _, _, rfl, Nat.zero_le _, fun h => by cases h⟩
end Go.Proofs.Ythoeakohjellkaa
