/- The bytes of a frame: both sides' contracts. -/
import Derived.Test.YtapabolgfcocfaaTab
import Derived.Test.YtapabolgfcocfaaCells
import Derived.Room.AppendFits
import Derived.OwnWalk
namespace Go.Proofs.Ytapabolgfcocfaa
open Go.RowKit
set_option linter.unusedVariables false

theorem info5 : (Try.prog.info? 5).map (fun i => (i.zero, i.size, i.bytes)) = some (some (.int .u8 0), 1, 1) := by kernel_rfl

def hdB (k d s p : Int) (n : Nat) : List UInt8 := [UInt8.ofNat k.toNat, UInt8.ofNat d.toNat, UInt8.ofNat s.toNat, UInt8.ofNat p.toNat, UInt8.ofNat n]
def bodyB (k d s p : Int) (b : ByteArray) : List UInt8 := hdB k d s p b.size ++ b.data.toList
def textB (k d s p : Int) (b : ByteArray) : ByteArray := ⟨(bodyB k d s p b ++ Crc.bytes (bodyB k d s p b)).toArray⟩
def cellsB (l : List UInt8) : List Value := l.map fun b => Value.int .u8 b.toNat

theorem frOk_bounds {k d s p : Int} {n : Nat} (h : frOkB k d s p n = true) : 0 ≤ k ∧ k ≤ 255 ∧ 0 ≤ d ∧ d ≤ 255 ∧ 0 ≤ s ∧ s ≤ 255 ∧ 0 ≤ p ∧ p ≤ 255 ∧ n ≤ 40 := by
  unfold frOkB at h
  simp only [decide_eq_true_eq] at h
  omega
theorem byte_of (x : Int) (h0 : 0 ≤ x) (h1 : x ≤ 255) : ((UInt8.ofNat x.toNat).toNat : Int) = x := by
  rw [UInt8.toNat_ofNat']
  omega

theorem conv5 (w : World) (a b c d e : Int) : (convert 50 9 (.slice (some ⟨w.heap.size, 0, none⟩) 5 5)).run Try.prog (w.alloc (.cells #[.int .u8 a, .int .u8 b, .int .u8 c, .int .u8 d, .int .u8 e] 5)) = .ok (.string (strOfNums [a, b, c, d, e])) (w.alloc (.cells #[.int .u8 a, .int .u8 b, .int .u8 c, .int .u8 d, .int .u8 e] 5)) := by
  refine run_convert_bytes_arg _ 50 5 Try.underlying50 Try.underlying5 w.heap.size 0 5 5 [a, b, c, d, e] rfl ?_ 9 Try.underlying9
  intro i hi
  have := World.cell?_alloc_mark w #[.int .u8 a, .int .u8 b, .int .u8 c, .int .u8 d, .int .u8 e] 5 (0, 0) (0 + i)
  rw [this]
  rcases (by omega : i = 0 ∨ i = 1 ∨ i = 2 ∨ i = 3 ∨ i = 4) with rfl | rfl | rfl | rfl | rfl <;> rfl

theorem join_data (a b : ByteArray) : (a ++ b).data.toList = a.data.toList ++ b.data.toList := by
  simp [ByteArray.data_append]
theorem size_data (a : ByteArray) : a.size = a.data.toList.length := (Array.length_toList (xs := a.data)).symm
theorem of_data {a : ByteArray} {l : List UInt8} (h : a.data.toList = l) : a = ⟨l.toArray⟩ := by
  subst h
  apply ByteArray.ext
  simp
theorem bytes_len (l : List UInt8) : (Crc.bytes l).length = 4 := rfl
theorem hd_data (k d s p : Int) (n : Nat) : (strOfNums [k, d, s, p, n]).data.toList = hdB k d s p n := by
  rw [strOfNums_data]; simp [hdB]

theorem l1Text_any (k d s p : Int) (b : ByteArray) (w : World) (hok : frOkB k d s p b.size = true) :
    Calls Try.prog 32 #[.agg #[.int .i64 k, .int .i64 d, .int .i64 s, .int .i64 p, .string b]] w fun e w' => e = .returned (.string (textB k d s p b)) ∧ Below w.heap.size w w' := by
  obtain ⟨k0, k1, d0, d1, s0, s1, p0, p1, hn⟩ := frOk_bounds hok
  have hcv := conv5 (w.alloc (.cells #[.int .i64 k, .int .i64 d, .int .i64 s, .int .i64 p, .string b] 26)) k d s p b.size
  simp at hcv
  have hT0 := hd_data k d s p b.size
  generalize strOfNums [k, d, s, p, (b.size : Int)] = T at hcv hT0
  have hT : Hid (T.data.toList = hdB k d s p b.size) := hT0
  have hTs : T.size = 5 := by rw [size_data, hT0]; rfl
  have hU : Hid ((T ++ b).data.toList = bodyB k d s p b) := by
    show _ = _
    rw [join_data, hT0]; rfl
  have hUs : (T ++ b).size = 5 + b.size := by simp [hTs]
  have hfin : Hid (T ++ b ++ ⟨(Crc.bytes (bodyB k d s p b)).toArray⟩ = textB k d s p b) := by
    show _ = _
    refine (of_data (l := bodyB k d s p b ++ Crc.bytes (bodyB k d s p b)) ?_)
    rw [join_data, hU.out]
  clear hok hT0
  go_enter Try.func32, Try.ntmps32
  go_wp2_with fail
  refine (l1Sum_any _ _ (by unfold maxLen; omega)).mono ?_
  rintro e w1 ⟨rfl, hb1⟩
  rw [hU.out]
  have hVs : (⟨(Crc.bytes (bodyB k d s p b)).toArray⟩ : ByteArray).size = 4 := rfl
  have B1 : Below w.heap.size w w1 := ((((Below.refl _ _).alloc (Nat.le_refl _) _).alloc (by simp) _).trans (hb1.mono (by simp; omega)))
  generalize (⟨(Crc.bytes (bodyB k d s p b)).toArray⟩ : ByteArray) = V at *
  clear hb1 hcv
  generalize T ++ b = U at *
  go_wp2_with fail
  go_ret
  exact ⟨ret_string hfin.out, B1⟩

theorem sFrameText_any (k d s p : Int) (b : ByteArray) (w : World) (hb : b.size ≤ maxLen) :
    Calls Try.prog 13 #[.agg #[.int .i64 k, .int .i64 d, .int .i64 s, .int .i64 p, .string b]] w fun e w' => e = .returned (.string (if frOkB k d s p b.size then textB k d s p b else ⟨#[]⟩)) ∧ Below w.heap.size w w' := by
  cases hok : frOkB k d s p b.size
  · rw [if_neg (by simp)]
    go_enter Try.func13, Try.ntmps13
    go_wp2_with fail
    refine (sFrameOk_any _ _ _ _ _ _ hb).mono ?_
    rintro e w1 ⟨rfl, hb1⟩
    rw [hok]
    have B1 := first hb1
    go_wp2_with fail
    go_ret
    exact ⟨rfl, under B1⟩
  · rw [if_pos rfl]
    have HK : Hid (frOkB k d s p b.size = true) := hok
    go_enter Try.func13, Try.ntmps13
    go_wp2_with fail
    refine (sFrameOk_any _ _ _ _ _ _ hb).mono ?_
    rintro e w1 ⟨rfl, hb1⟩
    rw [hok]
    have B1 := first hb1
    have hc1 := boxed B1
    clear hb1 hok
    go_wp2_with fail
    refine (l1Text_any _ _ _ _ _ _ HK.out).mono ?_
    rintro e w2 ⟨rfl, hb2⟩
    have B2 := next B1 hb2
    go_wp2_with fail
    go_ret
    exact ⟨rfl, under B2⟩
end Go.Proofs.Ytapabolgfcocfaa
