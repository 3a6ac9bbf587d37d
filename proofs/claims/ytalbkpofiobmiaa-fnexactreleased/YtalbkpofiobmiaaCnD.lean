/- Counts held against each other, marked with numbers of their own, and looked at again. -/
import Derived.Test.YtalbkpofiobmiaaCnC
namespace Go.Proofs.Ytalbkpofiobmiaa
open Go.RowKit
set_option linter.unusedVariables false
set_option linter.unusedSimpArgs false

set_option maxHeartbeats 1000000 in
theorem eqCounts_any (A B : Cnt) (w : World) (hs : A.Small) (hA : RdCnt w A) (hB : RdCnt w B) (h : AlikeC A B) :
    Calls Try.prog 16 #[.agg A.cells, .agg B.cells] w fun e w' => e = .returned (.bool true) ∧ Below w.heap.size w w' := by
  obtain ⟨aU, nU, cU, u, lo, aP, nP, cP, p⟩ := A
  obtain ⟨bU, nU', dU, u', lo', bP, nP', dP, p'⟩ := B
  obtain ⟨h1, h2, h3, h4, h5⟩ := h
  dsimp only at h1 h2 h3 h4 h5
  subst h1 h2 h3 h4 h5
  have hs1 : nU' ≤ 1048576 := hs.u
  have hs2 : nP' ≤ 1048576 := hs.p
  obtain ⟨w2, hw2⟩ : ∃ w2, w2 = (w.alloc (.cells #[.slice aU nU' cU, .int .i64 lo', .slice aP nP' cP] 34)).alloc (.cells #[.slice bU nU' dU, .int .i64 lo', .slice bP nP' dP] 34) := ⟨_, rfl⟩
  have k1 : w2.heap[w.heap.size]? = some (.cells #[.slice aU nU' cU, .int .i64 lo', .slice aP nP' cP] 34 (0, 0)) := by rw [hw2]; exact (blk_old _ (by simp)).trans (blk_new _ _)
  have k2 : w2.heap[w.heap.size + 1]? = some (.cells #[.slice bU nU' dU, .int .i64 lo', .slice bP nP' dP] 34 (0, 0)) := by
    rw [hw2]
    have := blk_new (w.alloc (.cells #[.slice aU nU' cU, .int .i64 lo', .slice aP nP' cP] 34)) (.cells #[.slice bU nU' dU, .int .i64 lo', .slice bP nP' dP] 34)
    simpa using this
  have B2 : Below w.heap.size w w2 := by rw [hw2]; go_grown
  have HU1 : Hid (RdRow w2 aU nU' fun i => .int .i64 (u' i)) := hA.u.up B2
  have HU2 : Hid (RdRow w2 bU nU' fun i => .int .i64 (u' i)) := hB.u.up B2
  have HP1 : Hid (RdRow w2 aP nP' fun i => .bool (p' i)) := hA.p.up B2
  have HP2 : Hid (RdRow w2 bP nP' fun i => .bool (p' i)) := hB.p.up B2
  have c1 := blk_cell k1
  have c2 := blk_cell k2
  rw [hw2] at c1 c2
  clear hs hA hB
  unfold Cnt.cells
  dsimp only
  go_enter Try.func16, Try.ntmps16
  go_wp2_with fail
  rw [← hw2]
  clear hw2 c1 c2
  refine (eqInts_any aU bU nU' cU dU u' _ hs1 HU1.out HU2.out).mono ?_
  rintro e w3 ⟨rfl, hS⟩
  have c1 := blk_cell ((congrArg (·[w.heap.size]?) hS.heap).trans k1)
  have c2 := blk_cell ((congrArg (·[w.heap.size + 1]?) hS.heap).trans k2)
  have b3 := hS.below w2.heap.size
  have B3 := B2.trans (b3.mono B2.size)
  have HP13 : Hid (RdRow w3 aP nP' fun i => .bool (p' i)) := HP1.out.up b3
  have HP23 : Hid (RdRow w3 bP nP' fun i => .bool (p' i)) := HP2.out.up b3
  clear hS k1 k2 b3 B2 HU1 HU2 HP1 HP2
  go_wp2_with fail
  refine (eqBools_any aP bP nP' cP dP p' _ hs2 HP13.out HP23.out).mono ?_
  rintro e w4 ⟨rfl, hS⟩
  have B4 := B3.trans ((hS.below w3.heap.size).mono B3.size)
  clear hS B3 HP13 HP23 c1 c2
  go_wp2_with fail
  go_ret
  exact ⟨rfl, B4⟩
theorem markInts0 (a : Option Addr) (cap m : Nat) (w : World) : Calls Try.prog 28 #[.slice a 0 cap, .int .i64 m] w fun e w' => e = .returned (.int .i64 m) ∧ w = w' := by
  go_enter Try.func28, Try.ntmps28
  go_wp2_with fail
  go_loop [1, 5] (fun x i => x = .int .i64 m ∧ i = .int .i64 0) (fun _ _ => 0)
  case atStart => exact ⟨rfl, rfl⟩
  case round =>
    obtain ⟨rfl, rfl⟩ := hrel
    go_wp2_with fail
    go_ret
    exact ⟨rfl, rfl⟩
theorem heldInts0 (a : Option Addr) (cap m : Nat) (w : World) : Calls Try.prog 29 #[.slice a 0 cap, .int .i64 m] w fun e w' => e = .returned (.int .i64 m) ∧ w = w' := by
  go_enter Try.func29, Try.ntmps29
  go_wp2_with fail
  go_loop [1, 5] (fun x i => x = .int .i64 m ∧ i = .int .i64 0) (fun _ _ => 0)
  case atStart => exact ⟨rfl, rfl⟩
  case round =>
    obtain ⟨rfl, rfl⟩ := hrel
    go_wp2_with fail
    go_ret
    exact ⟨rfl, rfl⟩
theorem markVInts_any (a : Option Addr) (n cap m base : Nat) (F : Nat → Value) (w : World) (h : VT 2 w base a n F) (hn : n ≤ 1048576) (hm : m ≤ 100000000) :
    Calls Try.prog 28 #[.slice a n cap, .int .i64 m] w fun e w' => e = .returned (.int .i64 ((m + n : Nat) : Int)) ∧ VT 2 w' base a n (fun i => .int .i64 ((m + i : Nat) : Int)) ∧ Touch (blkV a n) w w' := by
  by_cases h0 : n = 0
  · subst h0
    refine (markInts0 a cap m w).mono ?_
    rintro e w' ⟨rfl, rfl⟩
    exact ⟨by simp, .inl rfl, Touch.refl _ _⟩
  rcases h with h | ⟨g, rfl, hg, hr⟩
  · exact absurd h h0
  · refine (markInts_any g n cap m _ w hr hn hm).mono ?_
    rintro e w' ⟨rfl, h1, h2⟩
    refine ⟨rfl, .inr ⟨g, rfl, hg, h1⟩, ?_⟩
    unfold blkV
    rw [if_neg h0]
    exact h2
theorem heldVInts_any (a : Option Addr) (n cap m base : Nat) (w : World) (h : VT 2 w base a n (fun i => .int .i64 ((m + i : Nat) : Int))) (hn : n ≤ 1048576) (hm : m ≤ 100000000) :
    Calls Try.prog 29 #[.slice a n cap, .int .i64 m] w fun e w' => e = .returned (.int .i64 ((m + n : Nat) : Int)) ∧ w = w' := by
  by_cases h0 : n = 0
  · subst h0
    refine (heldInts0 a cap m w).mono ?_
    rintro e w' ⟨rfl, rfl⟩
    exact ⟨by simp, rfl⟩
  rcases h with h | ⟨g, rfl, hg, hr⟩
  · exact absurd h h0
  · exact heldInts_any g n cap m w hr hn hm
theorem markBools0 (a : Option Addr) (cap m : Nat) (w : World) : Calls Try.prog 41 #[.slice a 0 cap, .int .i64 m] w fun e w' => e = .returned (.int .i64 m) ∧ w = w' := by
  go_enter Try.func41, Try.ntmps41
  go_wp2_with fail
  go_loop [1, 5] (fun x i => x = .int .i64 m ∧ i = .int .i64 0) (fun _ _ => 0)
  case atStart => exact ⟨rfl, rfl⟩
  case round =>
    obtain ⟨rfl, rfl⟩ := hrel
    go_wp2_with fail
    go_ret
    exact ⟨rfl, rfl⟩
theorem heldBools0 (a : Option Addr) (cap m : Nat) (w : World) : Calls Try.prog 42 #[.slice a 0 cap, .int .i64 m] w fun e w' => e = .returned (.int .i64 m) ∧ w = w' := by
  go_enter Try.func42, Try.ntmps42
  go_wp2_with fail
  go_loop [1, 5] (fun x i => x = .int .i64 m ∧ i = .int .i64 0) (fun _ _ => 0)
  case atStart => exact ⟨rfl, rfl⟩
  case round =>
    obtain ⟨rfl, rfl⟩ := hrel
    go_wp2_with fail
    go_ret
    exact ⟨rfl, rfl⟩
theorem markVBools_any (a : Option Addr) (n cap m base : Nat) (F : Nat → Value) (w : World) (h : VT 4 w base a n F) (hn : n ≤ 1048576) (hm : m ≤ 100000000) :
    Calls Try.prog 41 #[.slice a n cap, .int .i64 m] w fun e w' => e = .returned (.int .i64 ((m + n : Nat) : Int)) ∧ VT 4 w' base a n (fun i => .bool (mb (m + i))) ∧ Touch (blkV a n) w w' := by
  by_cases h0 : n = 0
  · subst h0
    refine (markBools0 a cap m w).mono ?_
    rintro e w' ⟨rfl, rfl⟩
    exact ⟨by simp, .inl rfl, Touch.refl _ _⟩
  rcases h with h | ⟨g, rfl, hg, hr⟩
  · exact absurd h h0
  · refine (markBools_any g n cap m _ w hr hn hm).mono ?_
    rintro e w' ⟨rfl, h1, h2⟩
    refine ⟨rfl, .inr ⟨g, rfl, hg, h1⟩, ?_⟩
    unfold blkV
    rw [if_neg h0]
    exact h2
theorem heldVBools_any (a : Option Addr) (n cap m base : Nat) (w : World) (h : VT 4 w base a n (fun i => .bool (mb (m + i)))) (hn : n ≤ 1048576) (hm : m ≤ 100000000) :
    Calls Try.prog 42 #[.slice a n cap, .int .i64 m] w fun e w' => e = .returned (.int .i64 ((m + n : Nat) : Int)) ∧ w = w' := by
  by_cases h0 : n = 0
  · subst h0
    refine (heldBools0 a cap m w).mono ?_
    rintro e w' ⟨rfl, rfl⟩
    exact ⟨by simp, rfl⟩
  rcases h with h | ⟨g, rfl, hg, hr⟩
  · exact absurd h h0
  · exact heldBools_any g n cap m w hr hn hm
def Cnt.marked (N : Cnt) (m : Nat) : Cnt := { N with u := fun i => ((m + i : Nat) : Int), p := fun i => mb (m + N.nU + i) }
def Cnt.total (N : Cnt) (m : Nat) : Nat := m + N.nU + N.nP
set_option maxHeartbeats 1000000 in
theorem markCounts_any (N : Cnt) (m base : Nat) (w : World) (h : OwnCn w base N) (hs : N.Small) (hm : m ≤ 1000) (hb : base ≤ w.heap.size) :
    Calls Try.prog 19 #[.agg N.cells, .int .i64 m] w fun e w' => ∃ T, e = .returned (.int .i64 (N.total m : Nat)) ∧ OwnCn w' base (N.marked m) ∧ Touch T w w' ∧ ∀ w0, OwnCn w0 base N → ∀ x ∈ T, base ≤ x ∧ x < w0.heap.size := by
  obtain ⟨aU, nU, cU, u, lo, aP, nP, cP, p⟩ := N
  obtain ⟨wb, hwb⟩ : ∃ wb, wb = w.alloc (.cells #[.slice aU nU cU, .int .i64 lo, .slice aP nP cP] 34) := ⟨_, rfl⟩
  have HB : Hid (Below w.heap.size w wb) := by rw [Hid, hwb]; exact (Below.refl _ _).alloc (Nat.le_refl _) _
  have H0 : Hid (OwnCn wb base ⟨aU, nU, cU, u, lo, aP, nP, cP, p⟩) := h.up HB.out
  have HX0 : Hid (wb.heap[w.heap.size]? = some (.cells #[.slice aU nU cU, .int .i64 lo, .slice aP nP cP] 34 (0, 0))) := by rw [Hid, hwb]; exact blk_new _ _
  have cX := blk_cell HX0.out
  have hs1 : nU ≤ 1048576 := hs.u
  have hs2 : nP ≤ 1048576 := hs.p
  clear h hs
  unfold Cnt.cells
  dsimp only
  go_enter Try.func19, Try.ntmps19
  go_wp2_with fail
  rw [← hwb]
  clear hwb
  refine (markVInts_any aU nU cU m base _ _ H0.out.u hs1 (by omega)).mono ?_
  rintro e w1 ⟨rfl, hv1, ht1⟩
  have HV1 : Hid (VT 2 w1 base aU nU (fun i => .int .i64 ((m + i : Nat) : Int))) := hv1
  have HP1 : Hid (VT 4 w1 base aP nP (fun i => .bool (p i))) := VT.touchS H0.out.p ht1 (VT.apart H0.out.p H0.out.u (by decide))
  have HX1 : Hid (w1.heap[w.heap.size]? = some (.cells #[.slice aU nU cU, .int .i64 lo, .slice aP nP cP] 34 (0, 0))) := (ht1.block _ (blk_lt HX0.out) (VT.boxOut H0.out.u (by decide) HX0.out)).trans HX0.out
  have HT1 : Hid (Touch (blkV aU nU) wb w1) := ht1
  clear hv1 ht1 cX HX0 H0
  have cX := blk_cell HX1.out
  go_wp2_with fail
  refine (markVBools_any aP nP cP (m + nU) base _ _ HP1.out hs2 (by omega)).mono ?_
  rintro e w2 ⟨rfl, hv2, ht2⟩
  have H2 : OwnCn w2 base (Cnt.marked ⟨aU, nU, cU, u, lo, aP, nP, cP, p⟩ m) := ⟨HV1.out.touchS ht2 (VT.apart HV1.out HP1.out (by decide)), hv2⟩
  have HT : Hid (Touch (blkV aU nU ++ blkV aP nP) w w2) :=
    ((Touch.ofBelow HB.out).trans (HT1.out.mono (fun x hx => List.mem_append_left _ hx))).trans (ht2.mono (fun x hx => List.mem_append_right _ hx))
  clear hv2 ht2 cX HX1 HV1 HP1
  go_wp2_with fail
  go_ret
  exact ⟨_, rfl, H2, HT.out, fun w0 h0 x hx => by
    rcases List.mem_append.1 hx with hx | hx
    · exact h0.u.blk x hx
    · exact h0.p.blk x hx⟩
set_option maxHeartbeats 1000000 in
theorem heldCounts_any (N : Cnt) (m base : Nat) (w : World) (h : OwnCn w base (N.marked m)) (hs : N.Small) (hm : m ≤ 1000) :
    Calls Try.prog 20 #[.agg N.cells, .int .i64 m] w fun e w' => e = .returned (.int .i64 (N.total m : Nat)) ∧ Below w.heap.size w w' := by
  obtain ⟨aU, nU, cU, u, lo, aP, nP, cP, p⟩ := N
  obtain ⟨wb, hwb⟩ : ∃ wb, wb = w.alloc (.cells #[.slice aU nU cU, .int .i64 lo, .slice aP nP cP] 34) := ⟨_, rfl⟩
  have HB : Hid (Below w.heap.size w wb) := by rw [Hid, hwb]; exact (Below.refl _ _).alloc (Nat.le_refl _) _
  have H0 : Hid (OwnCn wb base (Cnt.marked ⟨aU, nU, cU, u, lo, aP, nP, cP, p⟩ m)) := h.up HB.out
  have HX0 : Hid (wb.heap[w.heap.size]? = some (.cells #[.slice aU nU cU, .int .i64 lo, .slice aP nP cP] 34 (0, 0))) := by rw [Hid, hwb]; exact blk_new _ _
  have cX := blk_cell HX0.out
  have hs1 : nU ≤ 1048576 := hs.u
  have hs2 : nP ≤ 1048576 := hs.p
  have hk1 : ¬ ((m + nU : Nat) : Int) < 0 := by omega
  have hk2 : ¬ ((m + nU + nP : Nat) : Int) < 0 := by omega
  clear h hs
  unfold Cnt.cells
  dsimp only
  go_enter Try.func20, Try.ntmps20
  go_wp2_with fail
  rw [← hwb]
  clear hwb
  refine (heldVInts_any aU nU cU m base _ H0.out.u hs1 (by omega)).mono ?_
  rintro e w1 ⟨rfl, rfl⟩
  go_wp2_with fail
  refine (heldVBools_any aP nP cP (m + nU) base _ H0.out.p hs2 (by omega)).mono ?_
  rintro e w2 ⟨rfl, rfl⟩
  go_wp2_with fail
  go_ret
  exact ⟨rfl, HB.out⟩
end Go.Proofs.Ytalbkpofiobmiaa
