/- The law on frames' bytes: it returns true, and nothing that was there has turned. -/
import Derived.Test.YthoeakohjellkaaDraw
import Derived.Test.YthoeakohjellkaaBack
namespace Go.Proofs.Ythoeakohjellkaa
open Go.RowKit
set_option linter.unusedVariables false

theorem bblk {k : Nat} {W w1 : World} {o : Obj} (hb : Below W.heap.size W w1) (h : W.heap[k]? = some o) : w1.heap[k]? = some o := by
  rw [hb.block k (blk_lt h)]; exact h
theorem ablk {k : Nat} {W : World} {o : Obj} (h : W.heap[k]? = some o) (p : Obj) : (W.alloc p).heap[k]? = some o := (blk_old p (blk_lt h)).trans h
theorem Code.up {cv : Value} {len : Nat} {w w' : World} (h : Code w.heap.size cv len w) (hb : Below w.heap.size w w') : Code w'.heap.size cv len w' := by
  have hz := hb.size
  rcases h with h | ⟨b, off, cap, hv, hbg, hl, hc⟩
  · exact .inl h
  · refine .inr ⟨b, off, cap, hv, by omega, hl, fun i hi => ?_⟩
    obtain ⟨z, hz, he⟩ := hc i hi
    exact ⟨z, hz, (hb.cell (p := ⟨b, off + i, none⟩) hbg).trans he⟩

theorem big_any (a : Option Addr) (len cap : Nat) (w : World) (h : len ≤ maxLen) :
    Calls Try.prog 8 #[.slice a len cap] w fun e w' => e = .returned (.bool (decide (1048576 < (len : Int)))) ∧ w = w' := by
  unfold maxLen at h
  go_enter Try.func8, Try.ntmps8
  go_wp2_with fail
  go_ret
  exact ⟨rfl, rfl⟩

theorem frames_big (a : Option Addr) (len cap : Nat) (w : World) (h : len ≤ maxLen) (hb : 1048576 < len) :
    Calls Try.prog 3 #[.slice a len cap] w fun e w' => e = .returned (.bool true) ∧ Below w.heap.size w w' := by
  go_enter Try.func3, Try.ntmps3
  go_wp2_with fail
  refine (big_any _ _ _ _ h).mono ?_
  rintro e w1 ⟨rfl, rfl⟩
  rw [decide_eq_true (by omega)]
  go_wp2_with fail
  go_ret
  exact ⟨rfl, Below.refl _ _⟩

set_option maxHeartbeats 2000000 in
theorem frames_small (a : Option Addr) (len cap : Nat) (w : World) (hC : Code w.heap.size (.slice a len cap) len w) (hl : len ≤ 1048576) :
    Calls Try.prog 3 #[.slice a len cap] w fun e w' => e = .returned (.bool true) ∧ Below w.heap.size w w' := by
  go_enter Try.func3, Try.ntmps3
  go_wp2_with fail
  refine (big_any _ _ _ _ (by unfold maxLen; omega)).mono ?_
  rintro e w1 ⟨rfl, rfl⟩
  rw [decide_eq_false (by omega)]
  go_wp2_with fail
  refine (drawText_any _ _ _ hC ⟨_, _, _, rfl⟩).mono ?_
  rintro e w1 ⟨k, d, s, p, b, hb, rfl, hb1⟩
  have hbm : b.size ≤ maxLen := by unfold maxLen; omega
  go_wp2_with fail
  refine (iText_or _ _ _ _ _ _ hbm).mono ?_
  rintro e w2 ⟨rfl, hb2⟩
  have kf2 := bblk hb2 (blk_new w1 _)
  have B2 : Below w.heap.size w w2 := (hb1.alloc hb1.size _).trans (hb2.mono (by have := hb1.size; simp; omega))
  have hTz := textOr_size k d s p b hb
  clear hb2 hb1
  obtain ⟨k', d', s', p', b', hV, hback⟩ := read_or k d s p b
  have HV : Hid (_ = _) := hV
  have HB : Hid (_ → _) := hback
  clear hV hback
  go_wp2_with fail
  refine (iRead_any _ _ (by unfold maxLen; omega)).mono ?_
  rintro e w3 ⟨rfl, hb3⟩
  rw [HV.out]
  have kf3 := bblk hb3 kf2
  have B3 : Below w.heap.size w w3 := B2.trans (hb3.mono B2.size)
  have kf3a := ablk kf3 (.cells #[.int .i64 k', .int .i64 d', .int .i64 s', .int .i64 p', .string b'] 25)
  have kg3 := blk_new w3 (.cells #[.int .i64 k', .int .i64 d', .int .i64 s', .int .i64 p', .string b'] 25)
  have B3a := B3.alloc B3.size (.cells #[.int .i64 k', .int .i64 d', .int .i64 s', .int .i64 p', .string b'] 25)
  have cf := blk_cell kf3a
  clear hb3 kf2 kf3 B2 HV
  obtain ⟨T, HT⟩ : ∃ T, Hid (textOr k d s p b = T) := ⟨_, rfl⟩
  rw [HT.out] at hTz HB ⊢
  go_wp2_with fail
  refine (iCellsOf_any _ _ _ _ _ _ hbm).mono ?_
  rintro e w4 ⟨rfl, hb4⟩
  have kf4 := bblk hb4 kf3a
  have kg4 := bblk hb4 kg3
  have B4 : Below w.heap.size w w4 := B3a.trans (hb4.mono B3a.size)
  clear hb4 kf3a kg3 B3a cf
  have cf := blk_cell kf4
  go_wp2_with fail
  refine (sText_or _ _ _ _ _ _ hbm).mono ?_
  rintro e w5 ⟨rfl, hb5⟩
  have kf5 := bblk hb5 kf4
  have kg5 := bblk hb5 kg4
  have B5 : Below w.heap.size w w5 := B4.trans (hb5.mono B4.size)
  rw [HT.out]
  clear hb5 kf4 kg4 B4 cf
  have cf := blk_cell kf5
  go_wp2_with fail
  refine (sCellsOf_any _ _ _ _ _ _ hbm).mono ?_
  rintro e w6 ⟨rfl, hb6⟩
  have kf6 := bblk hb6 kf5
  have kg6 := bblk hb6 kg5
  have B6 : Below w.heap.size w w6 := B5.trans (hb6.mono B5.size)
  clear hb6 kf5 kg5 B5 cf
  have cf := blk_cell kf6
  go_wp2_with fail
  refine (iFrameOk_any _ _ _ _ _ _ hbm).mono ?_
  rintro e w7 ⟨rfl, hb7⟩
  have kf7 := bblk hb7 kf6
  have kg7 := bblk hb7 kg6
  have B7 : Below w.heap.size w w7 := B6.trans (hb7.mono B6.size)
  clear hb7 kf6 kg6 B6 cf
  have cf := blk_cell kf7
  have cg := blk_cell kg7
  obtain ⟨t1, t2⟩ : True ∧ True := ⟨trivial, trivial⟩
  clear t1 t2
  have hC7 := hC.up B7
  have hcn : Hid (frOkB k d s p b.size = true → cellsN k d s p b.size = ((b.size : Int) + 18) / 10) := by
    intro h
    unfold cellsN
    rw [if_pos h]
    omega
  cases hok : frOkB k d s p b.size
  · clear HB hcn
    go_wp2_with fail
    refine (drawRead_any _ _ _ hC7 ⟨_, _, _, rfl⟩).mono ?_
    rintro e w8 ⟨t, ht, rfl, hb8⟩
    have B8 : Below w.heap.size w w8 := B7.trans (hb8.mono B7.size)
    clear hb8 kf7 kg7 cf cg hC7 B7
    obtain ⟨k2, d2, s2, p2, b2, ok2, hV2, hb2m, hb2k⟩ := read_any t ht
    have HV2 : Hid (_ = _) := hV2
    have HK2 : Hid (_ → _) := hb2k
    clear hV2 hb2k
    go_wp2_with fail
    refine (iRead_any _ _ (by unfold maxLen; omega)).mono ?_
    rintro e w9 ⟨rfl, hb9⟩
    rw [HV2.out]
    have B9 : Below w.heap.size w w9 := B8.trans (hb9.mono B8.size)
    clear hb9
    go_wp2_with fail
    refine (sRead_any _ _ (by unfold maxLen; omega)).mono ?_
    rintro e w10 ⟨rfl, hb10⟩
    rw [HV2.out]
    have kx := bblk hb10 (blk_new w9 _)
    have B10 : Below w.heap.size w w10 := (B9.alloc B9.size _).trans (hb10.mono (by have := B9.size; simp; omega))
    clear hb10 HV2
    have cx := blk_cell (ablk kx (.cells #[.int .i64 k2, .int .i64 d2, .int .i64 s2, .int .i64 p2, .string b2] 25))
    cases ok2
    · go_wp2_with fail
      go_ret
      exact ⟨rfl, B10.alloc B10.size _⟩
    · have hte := HK2.out rfl
      go_wp2_with fail
      refine (iText_or _ _ _ _ _ _ hb2m).mono ?_
      rintro e w11 ⟨rfl, hb11⟩
      rw [hte]
      have B11 : Below w.heap.size w w11 := (B10.alloc B10.size _).trans (hb11.mono (by have := B10.size; simp; omega))
      clear hb11 hte HK2
      go_wp2_with fail
      go_ret
      exact ⟨rfl, B11⟩
  · obtain ⟨rfl, rfl, rfl, rfl, rfl, hTs⟩ := HB.out hok
    have hn := hcn.out hok
    generalize cellsN k' d' s' p' b'.size = n at *
    clear HB hcn
    have hn2 : Hid (n = ((b'.size : Int) + 18) / 10) := hn
    have hT2 : Hid (T.size = b'.size + 9) := hTs
    go_wp2_with fail
    refine (drawRead_any _ _ _ hC7 ⟨_, _, _, rfl⟩).mono ?_
    rintro e w8 ⟨t, ht, rfl, hb8⟩
    have B8 : Below w.heap.size w w8 := B7.trans (hb8.mono B7.size)
    clear hb8 kf7 kg7 cf cg hC7 B7
    obtain ⟨k2, d2, s2, p2, b2, ok2, hV2, hb2m, hb2k⟩ := read_any t ht
    have HV2 : Hid (_ = _) := hV2
    have HK2 : Hid (_ → _) := hb2k
    clear hV2 hb2k
    go_wp2_with fail
    refine (iRead_any _ _ (by unfold maxLen; omega)).mono ?_
    rintro e w9 ⟨rfl, hb9⟩
    rw [HV2.out]
    have B9 : Below w.heap.size w w9 := B8.trans (hb9.mono B8.size)
    clear hb9
    go_wp2_with fail
    refine (sRead_any _ _ (by unfold maxLen; omega)).mono ?_
    rintro e w10 ⟨rfl, hb10⟩
    rw [HV2.out]
    have kx := bblk hb10 (blk_new w9 _)
    have B10 : Below w.heap.size w w10 := (B9.alloc B9.size _).trans (hb10.mono (by have := B9.size; simp; omega))
    clear hb10 HV2
    have cx := blk_cell (ablk kx (.cells #[.int .i64 k2, .int .i64 d2, .int .i64 s2, .int .i64 p2, .string b2] 25))
    cases ok2
    · go_wp2_with fail
      go_ret
      exact ⟨rfl, B10.alloc B10.size _⟩
    · have hte := HK2.out rfl
      go_wp2_with fail
      refine (iText_or _ _ _ _ _ _ hb2m).mono ?_
      rintro e w11 ⟨rfl, hb11⟩
      rw [hte]
      have B11 : Below w.heap.size w w11 := (B10.alloc B10.size _).trans (hb11.mono (by have := B10.size; simp; omega))
      clear hb11 hte HK2
      go_wp2_with fail
      go_ret
      exact ⟨rfl, B11⟩

theorem frames_any (a : Option Addr) (len cap : Nat) (w : World) (hm : len ≤ maxLen) (hC : len ≤ 1048576 → Code w.heap.size (.slice a len cap) len w) :
    Calls Try.prog 3 #[.slice a len cap] w fun e w' => e = .returned (.bool true) ∧ Below w.heap.size w w' := by
  by_cases h : len ≤ 1048576
  · exact frames_small a len cap w (hC h) h
  · exact frames_big a len cap w hm (by omega)
end Go.Proofs.Ythoeakohjellkaa
