/- Frames read from their bytes: both sides' contracts. -/
import Derived.Test.YtapabolgfcocfaaText2
import Derived.Test.YtapabolgfcocfaaClone
import Derived.Deep.RegionHeld3
import Derived.BigRegion
namespace Go.Proofs.Ytapabolgfcocfaa
open Go.RowKit
set_option linter.unusedVariables false

theorem clone35 (s : ByteArray) (w : World) (hlim : s.size ≤ 100) :
    Calls Try.prog 35 #[.string s] w fun e w' => e = .returned (.string s) ∧ Below w.heap.size w w' := by
  go_enter Try.func35, Try.ntmps35
  go_wp2_with fail
  refine (clone57 _ _ (by omega)).mono ?_
  rintro e w1 ⟨rfl, hb1⟩
  go_wp2_with fail
  go_ret
  exact ⟨rfl, hb1⟩

theorem cut_body (s : ByteArray) (h9 : 9 ≤ s.size) : ∀ wx : World, (Instr.slice 9 (.string s) (some (.int .i64 5)) (some (.int .i64 ((s.size : Int) - 4))) none).run Try.prog wx = .ok (.string (s.extract 5 (s.size - 4))) wx := by
  intro wx
  have := run_slice_string (P := Try.prog) wx 9 s .i64 .i64 5 ((s.size : Int) - 4) Try.underlying9 (by omega) (by omega) (by omega)
  rw [this]
  congr 3
  omega
def textOr (k d s p : Int) (b : ByteArray) : ByteArray := if frOkB k d s p b.size then textB k d s p b else ⟨#[]⟩
theorem sText_or (k d s p : Int) (b : ByteArray) (w : World) (hb : b.size ≤ maxLen) :
    Calls Try.prog 13 #[.agg #[.int .i64 k, .int .i64 d, .int .i64 s, .int .i64 p, .string b]] w fun e w' => e = .returned (.string (textOr k d s p b)) ∧ Below w.heap.size w w' := sFrameText_any k d s p b w hb
theorem iText_or (k d s p : Int) (b : ByteArray) (w : World) (hb : b.size ≤ maxLen) :
    Calls Try.prog 14 #[.agg #[.int .i64 k, .int .i64 d, .int .i64 s, .int .i64 p, .string b]] w fun e w' => e = .returned (.string (textOr k d s p b)) ∧ Below w.heap.size w w' := iFrameText_any k d s p b w hb
theorem bytes_beq (a b : ByteArray) : (a.toList == b.toList) = decide (a = b) := by
  rw [Bool.eq_iff_iff]
  simp only [beq_iff_eq, decide_eq_true_eq, ByteArray.toList_eq]
  exact ⟨fun h => ByteArray.ext (by simpa using h), fun h => by rw [h]⟩
theorem wrap_b (b : UInt8) : wrap64 (b.toNat : Int) = (b.toNat : Int) := by
  have h := Crc.byte_lt b
  unfold wrap64
  omega
theorem two_blocks {w w1 : World} {A B : Obj} (h : Below ((w.alloc A).alloc B).drew.heap.size ((w.alloc A).alloc B).drew w1) :
    w1.heap[w.heap.size]? = some A ∧ w1.heap[w.heap.size + 1]? = some B ∧ Below w.heap.size w w1 := by
  have hz : ((w.alloc A).alloc B).drew.heap.size = w.heap.size + 2 := by simp
  have e1 : (w.alloc A).heap.size = w.heap.size + 1 := by simp
  refine ⟨?_, ?_, ?_⟩
  · rw [h.block _ (by omega)]
    show ((w.alloc A).alloc B).heap[w.heap.size]? = _
    rw [blk_old B (by omega), blk_new]
  · rw [h.block _ (by omega)]
    show ((w.alloc A).alloc B).heap[w.heap.size + 1]? = _
    have := blk_new (w.alloc A) B
    rwa [e1] at this
  · exact (((Below.refl _ _).alloc (Nat.le_refl _) _).alloc (by simp) _).drew.trans (h.mono (by omega))

def readV (s : ByteArray) : Value :=
  if h : 9 ≤ s.size ∧ s.size ≤ 49 then
    (if textOr (s[0]'(by omega)).toNat (s[1]'(by omega)).toNat (s[2]'(by omega)).toNat (s[3]'(by omega)).toNat (s.extract 5 (s.size - 4)) = s then
      .tuple #[.agg #[.int .i64 (s[0]'(by omega)).toNat, .int .i64 (s[1]'(by omega)).toNat, .int .i64 (s[2]'(by omega)).toNat, .int .i64 (s[3]'(by omega)).toNat, .string (s.extract 5 (s.size - 4))], .bool true]
    else .tuple #[.agg #[.int .i64 0, .int .i64 0, .int .i64 0, .int .i64 0, .string ⟨#[]⟩], .bool false])
  else .tuple #[.agg #[.int .i64 0, .int .i64 0, .int .i64 0, .int .i64 0, .string ⟨#[]⟩], .bool false]
theorem readV_yes (s : ByteArray) (h9 : 9 ≤ s.size) (h49 : s.size ≤ 49) : Hid (textOr s[0].toNat s[1].toNat s[2].toNat s[3].toNat (s.extract 5 (s.size - 4)) = s → .tuple #[.agg #[.int .i64 s[0].toNat, .int .i64 s[1].toNat, .int .i64 s[2].toNat, .int .i64 s[3].toNat, .string (s.extract 5 (s.size - 4))], .bool true] = readV s) := by
  intro hT
  unfold readV
  rw [dif_pos ⟨h9, h49⟩, if_pos hT]
theorem readV_no (s : ByteArray) (h9 : 9 ≤ s.size) (h49 : s.size ≤ 49) : Hid (¬ textOr s[0].toNat s[1].toNat s[2].toNat s[3].toNat (s.extract 5 (s.size - 4)) = s → .tuple #[.agg #[.int .i64 0, .int .i64 0, .int .i64 0, .int .i64 0, .string ⟨#[]⟩], .bool false] = readV s) := by
  intro hT
  unfold readV
  rw [dif_pos ⟨h9, h49⟩, if_neg hT]
theorem readV_short (s : ByteArray) (h : s.size < 9 ∨ 49 < s.size) : .tuple #[.agg #[.int .i64 0, .int .i64 0, .int .i64 0, .int .i64 0, .string ⟨#[]⟩], .bool false] = readV s := by
  unfold readV
  rw [dif_neg (by omega)]
theorem ret_val {a b : Value} (h : a = b) : Ending.returned a = .returned b := by rw [h]

set_option maxHeartbeats 1000000 in
theorem sRead_mid (s : ByteArray) (w : World) (h9 : 9 ≤ s.size) (h49 : s.size ≤ 49) :
    Calls Try.prog 15 #[.string s] w fun e w' => e = .returned (readV s) ∧ Below w.heap.size w w' := by
  have HY := readV_yes s h9 h49
  have HN := readV_no s h9 h49
  have hsl := cut_body s h9
  have hBs : (s.extract 5 (s.size - 4)).size ≤ maxLen := by simp [maxLen]; omega
  generalize s.extract 5 (s.size - 4) = B at *
  have hwr : IntKind.i64.wrap ((s.size : Int) - 4) = (s.size : Int) - 4 := by
    exact wrap_small _ (by omega) (by omega)
  have b0 : 0 < s.size := by omega
  have b1 : (1 : Int) < (s.size : Int) := by omega
  have b2 : (2 : Int) < (s.size : Int) := by omega
  have b3 : (3 : Int) < (s.size : Int) := by omega
  have hbq := bytes_beq (textOr s[0].toNat s[1].toNat s[2].toNat s[3].toNat B) s
  by_cases hT : textOr s[0].toNat s[1].toNat s[2].toNat s[3].toNat B = s
  · have HV : Hid (_ = readV s) := HY.out hT
    clear HY HN
    have hq : ((textOr s[0].toNat s[1].toNat s[2].toNat s[3].toNat B).toList == s.toList) = true := by rw [hbq]; simp [hT]
    have HQ : Hid (((textOr s[0].toNat s[1].toNat s[2].toNat s[3].toNat B).toList == s.toList) = true) := hq
    clear hT hbq hq
    go_enter Try.func15, Try.ntmps15
    go_wp2_with fail
    go_region
    go_wp2_with fail
    simp only [wrap_b]
    refine (sText_or _ _ _ _ _ _ hBs).mono ?_
    rintro e w1 ⟨rfl, hb1⟩
    obtain ⟨k0, k1, B1⟩ := two_blocks hb1
    have c0 := blk_cell k0
    have f0 := blk_free k0
    have c1 := blk_cell k1
    have hq := HQ.out
    generalize textOr s[0].toNat s[1].toNat s[2].toNat s[3].toNat B = T at *
    clear hb1 HQ
    go_wp2_with fail
    exact bodyPost_ret (v := .tuple #[.agg #[.int .i64 s[0].toNat, .int .i64 s[1].toNat, .int .i64 s[2].toNat, .int .i64 s[3].toNat, .string B], .bool true]) (by simp [results, Try.results15, go_sem, c0]) rfl ⟨ret_val HV.out, ((((B1.setCell (Nat.le_refl _) _).setCell (Nat.le_refl _) _).setCell (Nat.le_refl _) _).setCell (Nat.le_refl _) _).setCell (Nat.le_refl _) _⟩
  · have HV : Hid (_ = readV s) := HN.out hT
    clear HY HN
    have hq : ((textOr s[0].toNat s[1].toNat s[2].toNat s[3].toNat B).toList == s.toList) = false := by rw [hbq]; simp [hT]
    have HQ : Hid (((textOr s[0].toNat s[1].toNat s[2].toNat s[3].toNat B).toList == s.toList) = false) := hq
    clear hT hbq hq
    go_enter Try.func15, Try.ntmps15
    go_wp2_with fail
    go_region
    go_wp2_with fail
    simp only [wrap_b]
    refine (sText_or _ _ _ _ _ _ hBs).mono ?_
    rintro e w1 ⟨rfl, hb1⟩
    obtain ⟨k0, k1, B1⟩ := two_blocks hb1
    have c0 := blk_cell k0
    have f0 := blk_free k0
    have hq := HQ.out
    generalize textOr s[0].toNat s[1].toNat s[2].toNat s[3].toNat B = T at *
    clear hb1 HQ
    go_wp2_with fail
    exact bodyPost_ret (v := .tuple #[.agg #[.int .i64 0, .int .i64 0, .int .i64 0, .int .i64 0, .string ⟨#[]⟩], .bool false]) (by simp [results, Try.results15, go_sem, c0]) rfl ⟨ret_val HV.out, ((((B1.setCell (Nat.le_refl _) _).setCell (Nat.le_refl _) _).setCell (Nat.le_refl _) _).setCell (Nat.le_refl _) _).setCell (Nat.le_refl _) _⟩
theorem sRead_short (s : ByteArray) (w : World) (hs : s.size ≤ maxLen) (h : s.size < 9 ∨ 49 < s.size) :
    Calls Try.prog 15 #[.string s] w fun e w' => e = .returned (readV s) ∧ Below w.heap.size w w' := by
  unfold maxLen at hs
  have HV : Hid (_ = readV s) := readV_short s h
  rcases h with h | h
  · go_enter Try.func15, Try.ntmps15
    go_wp2
    exact bodyPost_ret (v := .tuple #[.agg #[.int .i64 0, .int .i64 0, .int .i64 0, .int .i64 0, .string ⟨#[]⟩], .bool false]) (by simp [results, Try.results15, go_sem]) rfl ⟨ret_val HV.out, (Below.refl _ _).alloc (Nat.le_refl _) _⟩
  · have h' : ¬ (s.size < 9) := by omega
    go_enter Try.func15, Try.ntmps15
    go_wp2
    exact bodyPost_ret (v := .tuple #[.agg #[.int .i64 0, .int .i64 0, .int .i64 0, .int .i64 0, .string ⟨#[]⟩], .bool false]) (by simp [results, Try.results15, go_sem]) rfl ⟨ret_val HV.out, (Below.refl _ _).alloc (Nat.le_refl _) _⟩

theorem sRead_any (s : ByteArray) (w : World) (hs : s.size ≤ maxLen) :
    Calls Try.prog 15 #[.string s] w fun e w' => e = .returned (readV s) ∧ Below w.heap.size w w' := by
  by_cases h : s.size < 9 ∨ 49 < s.size
  · exact sRead_short s w hs h
  · exact sRead_mid s w (by omega) (by omega)

theorem iRead_short (s : ByteArray) (w : World) (hs : s.size ≤ maxLen) (h : s.size < 9 ∨ 49 < s.size) :
    Calls Try.prog 16 #[.string s] w fun e w' => e = .returned (readV s) ∧ Below w.heap.size w w' := by
  unfold maxLen at hs
  have HV : Hid (_ = readV s) := readV_short s h
  rcases h with h | h
  · go_enter Try.func16, Try.ntmps16
    go_wp2
    exact bodyPost_ret (v := .tuple #[.agg #[.int .i64 0, .int .i64 0, .int .i64 0, .int .i64 0, .string ⟨#[]⟩], .bool false]) (by simp [results, Try.results16, go_sem]) rfl ⟨ret_val HV.out, (Below.refl _ _).alloc (Nat.le_refl _) _⟩
  · have h' : ¬ (s.size < 9) := by omega
    go_enter Try.func16, Try.ntmps16
    go_wp2
    exact bodyPost_ret (v := .tuple #[.agg #[.int .i64 0, .int .i64 0, .int .i64 0, .int .i64 0, .string ⟨#[]⟩], .bool false]) (by simp [results, Try.results16, go_sem]) rfl ⟨ret_val HV.out, (Below.refl _ _).alloc (Nat.le_refl _) _⟩

end Go.Proofs.Ytapabolgfcocfaa
