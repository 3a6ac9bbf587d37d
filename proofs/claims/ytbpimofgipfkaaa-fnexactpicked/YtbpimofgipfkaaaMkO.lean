/- Rounds that own their rows, wherever in their blocks: marked with numbers of their own, and looked at again. -/
import Derived.Test.YtbpimofgipfkaaaPkQ
namespace Go.Proofs.Ytbpimofgipfkaaa
open Go.RowKit
set_option linter.unusedVariables false
set_option linter.unusedSimpArgs false

def RowAtTo (g o n : Nat) (f : Nat → Value) (k : Nat) (w : World) : Prop := ∃ arr : Array Value, w.heap[g]? = some (.cells arr 2 (0, 0)) ∧ o + n ≤ arr.size ∧ ∀ i, i < k → arr[o + i]? = some (f i)
theorem RowAtTo.there {g o n k : Nat} {f : Nat → Value} {w : World} (h : RowAtTo g o n f k w) (i : Nat) (hi : i < n) : ∃ v, w.cell? ⟨g, o + i, none⟩ = some v := by
  obtain ⟨arr, hb, hn, hc⟩ := h
  exact ⟨arr[o + i], by rw [blk_cell hb]; simp⟩
theorem RowAtTo.free {g o n k : Nat} {f : Nat → Value} {w : World} (h : RowAtTo g o n f k w) (i : Nat) : w.frozen? ⟨g, i, none⟩ = false := by
  obtain ⟨arr, hb, hn, hc⟩ := h
  exact blk_free hb i
theorem RowAtTo.step {g o n k : Nat} {f : Nat → Value} {w : World} (h : RowAtTo g o n f k w) (hk : k < n) : RowAtTo g o n f (k + 1) (w.setCell ⟨g, o + k, none⟩ (f k)) := by
  obtain ⟨arr, hb, hn, hc⟩ := h
  refine ⟨_, blk_set hb _, by simpa using hn, fun i hi => ?_⟩
  by_cases e : i = k
  · subst e
    rw [Array.getElem?_setIfInBounds_self_of_lt (by omega)]
  · rw [Array.getElem?_setIfInBounds_ne (by omega)]
    exact hc i (by omega)
theorem RowAt.at {g o n : Nat} {f : Nat → Value} {w : World} (h : RowAt g o n f w) (i : Nat) (hi : i < n) : w.cell? ⟨g, o + i, none⟩ = some (f i) := by
  obtain ⟨arr, hb, hn, hc⟩ := h
  rw [blk_cell hb]; exact hc i hi
theorem markAt_any (g o n cap m : Nat) (f : Nat → Value) (w : World) (h : RowAt g o n f w) (hn : n ≤ 1048576) (hm : m ≤ 100000000) :
    Calls Try.prog 15 #[.slice (some ⟨g, o, none⟩) n cap, .int .i64 m] w fun e w' => e = .returned (.int .i64 (m + n : Nat)) ∧ RowAt g o n (fun i => .int .i64 (m + i : Nat)) w' ∧ Touch [g] w w' := by
  have h0 : RowAtTo g o n (fun i => .int .i64 (m + i : Nat)) 0 w := by
    obtain ⟨arr, h1, h2, h3⟩ := h
    exact ⟨arr, h1, h2, fun i hi => by omega⟩
  clear h
  go_enter Try.func15, Try.ntmps15
  go_wp2_with fail
  go_loopw [1, 5] (fun x i wr => ∃ k : Nat, k ≤ n ∧ i = .int .i64 k ∧ x = .int .i64 (m + k : Nat) ∧ RowAtTo g o n (fun i => .int .i64 (m + i : Nat)) k wr ∧ Touch [g] w wr) (fun _ i _ => n - (intOf i).toNat)
  case atStart => exact ⟨0, Nat.zero_le _, rfl, rfl, h0, Touch.refl _ _⟩
  case round =>
    clear h0
    obtain ⟨k, hk, rfl, rfl, hR, hT⟩ := hrel
    by_cases hlt : k < n
    · obtain ⟨v, hv⟩ := hR.there k hlt
      have hf := hR.free (o + k)
      have hlt' : (k : Int) < n := by omega
      go_wp2_with fail
      go_roundw
      case rel => exact ⟨k + 1, by omega, by go_num, by go_num, hR.step hlt, hT.set (by simp) (o + k) _⟩
      case measure => simp [intOf]; omega
    · obtain rfl : k = n := by omega
      go_wp2_with fail
      go_ret
      exact ⟨rfl, hR, hT⟩
theorem heldAt_any (g o n cap m : Nat) (w : World) (h : RowAt g o n (fun i => .int .i64 (m + i : Nat)) w) (hn : n ≤ 1048576) (hm : m ≤ 100000000) :
    Calls Try.prog 16 #[.slice (some ⟨g, o, none⟩) n cap, .int .i64 m] w fun e w' => e = .returned (.int .i64 (m + n : Nat)) ∧ w = w' := by
  go_enter Try.func16, Try.ntmps16
  go_wp2_with fail
  go_loop [1, 5] (fun x i => ∃ k : Nat, k ≤ n ∧ i = .int .i64 k ∧ x = .int .i64 (m + k : Nat)) (fun _ i => n - (intOf i).toNat)
  case atStart => exact ⟨0, Nat.zero_le _, rfl, rfl⟩
  case round =>
    obtain ⟨k, hk, rfl, rfl⟩ := hrel
    by_cases hlt : k < n
    · have hc := h.at k hlt
      have hlt' : (k : Int) < n := by omega
      go_wp2_with fail
      go_round
      case rel => exact ⟨k + 1, by omega, by go_num, by go_num⟩
      case measure => simp [intOf]; omega
    · obtain rfl : k = n := by omega
      go_wp2_with fail
      go_ret
      exact ⟨rfl, rfl⟩
theorem markVO_any (a : Option Addr) (n cap m base : Nat) (f : Nat → Int) (w : World) (h : VO w base a n f) (hn : n ≤ 1048576) (hm : m ≤ 100000000) :
    Calls Try.prog 15 #[.slice a n cap, .int .i64 m] w fun e w' => e = .returned (.int .i64 ((m + n : Nat) : Int)) ∧ VO w' base a n (fun i => ((m + i : Nat) : Int)) ∧ Touch (blkI a n) w w' := by
  by_cases h0 : n = 0
  · subst h0
    refine (markEmpty_any a cap m w).mono ?_
    rintro e w' ⟨rfl, rfl⟩
    exact ⟨by simp, .inl rfl, Touch.refl _ _⟩
  rcases h with h | ⟨g, o, rfl, hg, hr⟩
  · exact absurd h h0
  · refine (markAt_any g o n cap m _ w hr hn hm).mono ?_
    rintro e w' ⟨rfl, h1, h2⟩
    refine ⟨rfl, .inr ⟨g, o, rfl, hg, h1⟩, ?_⟩
    unfold blkI
    rw [if_neg h0]
    exact h2
theorem heldVO_any (a : Option Addr) (n cap m base : Nat) (w : World) (h : VO w base a n (fun i => ((m + i : Nat) : Int))) (hn : n ≤ 1048576) (hm : m ≤ 100000000) :
    Calls Try.prog 16 #[.slice a n cap, .int .i64 m] w fun e w' => e = .returned (.int .i64 ((m + n : Nat) : Int)) ∧ w = w' := by
  by_cases h0 : n = 0
  · subst h0
    refine (heldEmpty_any a cap m w).mono ?_
    rintro e w' ⟨rfl, rfl⟩
    exact ⟨by simp, rfl⟩
  rcases h with h | ⟨g, o, rfl, hg, hr⟩
  · exact absurd h h0
  · exact heldAt_any g o n cap m w hr hn hm

theorem markIntssO_any (a : Option Addr) (n cap m base : Nat) (A : Nat → Option Addr) (L C : Nat → Nat) (z : Nat → Nat → Int) (T : List Nat) (w : World) (hn : n ≤ 1048576) (hs : sumL L n ≤ 10000000) (hm : m ≤ 10000000) (hl : ∀ i, i < n → L i ≤ 1048576)
    (ha : ∀ w', Touch T w w' → RdRow w' a n fun i => .slice (A i) (L i) (C i)) (hz : ∀ i, i < n → VO w base (A i) (L i) (z i)) (hp : ∀ i j, i < n → j < n → i ≠ j → apartI (A i) (L i) (A j) (L j)) (hT : ∀ i, i < n → ∀ x ∈ blkI (A i) (L i), x ∈ T) :
    Calls Try.prog 27 #[.slice a n cap, .int .i64 m] w fun e w' => e = .returned (.int .i64 ((m + sumL L n : Nat) : Int)) ∧ (∀ i, i < n → VO w' base (A i) (L i) (fun j => ((m + sumL L i + j : Nat) : Int))) ∧ Touch T w w' := by
  have HA : Hid (∀ w', Touch T w w' → RdRow w' a n fun i => .slice (A i) (L i) (C i)) := ha
  have HZ : Hid (∀ i, i < n → VO w base (A i) (L i) (z i)) := hz
  have HP : Hid (∀ i j, i < n → j < n → i ≠ j → apartI (A i) (L i) (A j) (L j)) := hp
  have HT : Hid (∀ i, i < n → ∀ x ∈ blkI (A i) (L i), x ∈ T) := hT
  have HL : Hid (∀ i, i < n → L i ≤ 1048576) := hl
  clear ha hz hp hT hl
  go_enter Try.func27, Try.ntmps27
  go_wp2_with fail
  go_loopw [1, 5] (fun x i wr => ∃ (k q : Nat), k ≤ n ∧ i = .int .i64 k ∧ x = .int .i64 q ∧ q = m + sumL L k ∧ (∀ i, i < k → VO wr base (A i) (L i) (fun j => ((m + sumL L i + j : Nat) : Int))) ∧ (∀ i, k ≤ i → i < n → VO wr base (A i) (L i) (z i)) ∧ Touch T w wr) (fun _ i _ => n - (intOf i).toNat)
  case atStart => exact ⟨0, m, Nat.zero_le _, rfl, rfl, rfl, fun i hi => by omega, fun i _ hi => HZ.out i hi, Touch.refl _ _⟩
  case round =>
    obtain ⟨k, q, hk, rfl, rfl, hq, h1, h2, hTo⟩ := hrel
    have HQ : Hid (q = m + sumL L k) := hq
    have H1 : Hid (∀ i, i < k → VO wr base (A i) (L i) (fun j => ((m + sumL L i + j : Nat) : Int))) := h1
    have H2 : Hid (∀ i, k ≤ i → i < n → VO wr base (A i) (L i) (z i)) := h2
    have hle := sumL_le L hk
    clear h1 h2
    by_cases hlt : k < n
    · have hlt' : (k : Int) < n := by omega
      obtain ⟨g, o, rfl, hc⟩ := HA.out wr hTo k hlt
      dsimp only at hc
      clear hq
      go_wp2_with fail
      refine (markVO_any (A k) (L k) (C k) q base (z k) _ (H2.out k (Nat.le_refl _) hlt) (HL.out k hlt) (by have := HQ.out; omega)).mono ?_
      rintro e w1 ⟨rfl, hv, ht⟩
      have HV : Hid (VO w1 base (A k) (L k) (fun j => ((m + sumL L k + j : Nat) : Int))) := by rw [Hid, ← HQ.out]; exact hv
      have HTo : Hid (Touch T w w1) := hTo.trans (ht.mono (HT.out k hlt))
      have HTk : Hid (Touch (blkI (A k) (L k)) wr w1) := ht
      clear hv ht hTo hc
      go_wp2_with fail
      go_roundw
      case rel => exact ⟨k + 1, q + L k, by omega, by go_num, rfl, by show _ = m + (sumL L k + L k); have := HQ.out; omega, fun i hi => by
        by_cases e : i = k
        · subst e; exact HV.out
        · exact (H1.out i (by omega)).touchS HTk.out (HP.out i k (by omega) hlt e), fun i hi hi2 => (H2.out i (by omega) hi2).touchS HTk.out (HP.out i k hi2 hlt (by omega)), HTo.out⟩
      case measure => simp [intOf]; omega
    · obtain rfl : k = n := by omega
      go_wp2_with fail
      go_ret
      exact ⟨ret_int (by rw [HQ.out]), H1.out, hTo⟩
theorem heldIntssO_any (a : Option Addr) (n cap m base : Nat) (A : Nat → Option Addr) (L C : Nat → Nat) (w : World) (hn : n ≤ 1048576) (hs : sumL L n ≤ 10000000) (hm : m ≤ 10000000) (hl : ∀ i, i < n → L i ≤ 1048576)
    (ha : RdRow w a n fun i => .slice (A i) (L i) (C i)) (hz : ∀ i, i < n → VO w base (A i) (L i) (fun j => ((m + sumL L i + j : Nat) : Int))) :
    Calls Try.prog 28 #[.slice a n cap, .int .i64 m] w fun e w' => e = .returned (.int .i64 ((m + sumL L n : Nat) : Int)) ∧ w = w' := by
  have HA : Hid (RdRow w a n fun i => .slice (A i) (L i) (C i)) := ha
  have HZ : Hid (∀ i, i < n → VO w base (A i) (L i) (fun j => ((m + sumL L i + j : Nat) : Int))) := hz
  have HL : Hid (∀ i, i < n → L i ≤ 1048576) := hl
  clear ha hz hl
  go_enter Try.func28, Try.ntmps28
  go_wp2_with fail
  go_loop [1, 5] (fun x i => ∃ (k q : Nat), k ≤ n ∧ i = .int .i64 k ∧ x = .int .i64 q ∧ q = m + sumL L k) (fun _ i => n - (intOf i).toNat)
  case atStart => exact ⟨0, m, Nat.zero_le _, rfl, rfl, rfl⟩
  case round =>
    obtain ⟨k, q, hk, rfl, rfl, hq⟩ := hrel
    have HQ : Hid (q = m + sumL L k) := hq
    have hle := sumL_le L hk
    by_cases hlt : k < n
    · have hlt' : (k : Int) < n := by omega
      obtain ⟨g, o, rfl, hc⟩ := HA.out k hlt
      dsimp only at hc
      clear hq
      go_wp2_with fail
      refine (heldVO_any (A k) (L k) (C k) q base _ (by rw [HQ.out]; exact HZ.out k hlt) (HL.out k hlt) (by have := HQ.out; omega)).mono ?_
      rintro e w1 ⟨rfl, rfl⟩
      have hq0 : ¬ ((q + L k : Nat) : Int) < 0 := by omega
      go_wp2_with fail
      go_round
      case rel => exact ⟨k + 1, q + L k, by omega, by go_num, rfl, by show _ = m + (sumL L k + L k); have := HQ.out; omega⟩
      case measure => simp [intOf]; omega
    · obtain rfl : k = n := by omega
      go_wp2_with fail
      go_ret
      exact ⟨ret_int (by first | rfl | rw [HQ.out] | simp), rfl⟩
theorem OwnRo.marksQ {w w' : World} {base : Nat} {R : Rnd} {f : Nat → Int} (h : OwnRo w base R) (hv : VI w' base R.aQ R.nQ f) (ht : Touch (blkI R.aQ R.nQ) w w') : OwnRo w' base { R with q := f } :=
  ⟨hv, h.d.touchS ht h.qd.symm, h.s.touchI ht (fun g arr hg => notInI h.q (by decide) hg), fun i hi => (h.z i hi).touchS ht (h.qz i hi).symm, h.qd, h.qz, h.dz, h.zz⟩
theorem OwnRo.marksD {w w' : World} {base : Nat} {R : Rnd} {f : Nat → Int} (h : OwnRo w base R) (hv : VI w' base R.aD R.nD f) (ht : Touch (blkI R.aD R.nD) w w') : OwnRo w' base { R with d := f } :=
  ⟨h.q.touchS ht h.qd, hv, h.s.touchI ht (fun g arr hg => notInI h.d (by decide) hg), fun i hi => (h.z i hi).touchS ht (h.dz i hi).symm, h.qd, h.qz, h.dz, h.zz⟩
theorem OwnRo.notZ {w : World} {base : Nat} {R : Rnd} (h : OwnRo w base R) {g : Nat} {arr : Array Value} {t : TypeId} (ht : t ≠ 2) (hg : w.heap[g]? = some (.cells arr t (0, 0))) : g ∉ zBlk R := by
  intro hx
  obtain ⟨i, hi, hx⟩ := zBlk_mem.1 hx
  exact notInO (h.z i hi) ht hg hx
theorem OwnRo.marksZ {w w' : World} {base : Nat} {R : Rnd} {z : Nat → Nat → Int} (h : OwnRo w base R) (hv : ∀ i, i < R.nS → VO w' base (R.A i) (R.L i) (z i)) (ht : Touch (zBlk R) w w') : OwnRo w' base { R with z := z } :=
  ⟨h.q.touchS ht (fun x hx hx2 => by
    obtain ⟨i, hi, hx2⟩ := zBlk_mem.1 hx2
    exact h.qz i hi x hx hx2), h.d.touchS ht (fun x hx hx2 => by
    obtain ⟨i, hi, hx2⟩ := zBlk_mem.1 hx2
    exact h.dz i hi x hx hx2), h.s.touchI ht (fun g arr hg => h.notZ (by decide) hg), hv, h.qd, h.qz, h.dz, h.zz⟩
set_option maxHeartbeats 1000000 in
theorem markRoundO_any (R : Rnd) (m base : Nat) (w : World) (h : OwnRo w base R) (hs : R.Small) (hl : sumL R.L R.nS ≤ 5000000) (hm : m ≤ 1000) (hb : base ≤ w.heap.size) :
    Calls Try.prog 10 #[.agg R.cells, .int .i64 m] w fun e w' => ∃ T, e = .returned (.int .i64 (R.total m : Nat)) ∧ OwnRo w' base (R.marked m) ∧ Touch T w w' ∧ ∀ w0, OwnRo w0 base R → ∀ x ∈ T, base ≤ x ∧ x < w0.heap.size := by
  obtain ⟨aQ, nQ, cQ, q, aD, nD, cD, d, turn, fresh, aS, nS, cS, A, L, C, z⟩ := R
  obtain ⟨wb, hwb⟩ : ∃ wb, wb = w.alloc (.cells #[.slice aQ nQ cQ, .slice aD nD cD, .int .i64 turn, .bool fresh, .slice aS nS cS] 27) := ⟨_, rfl⟩
  have HB : Hid (Below w.heap.size w wb) := by rw [Hid, hwb]; exact (Below.refl _ _).alloc (Nat.le_refl _) _
  have H0 : Hid (OwnRo wb base ⟨aQ, nQ, cQ, q, aD, nD, cD, d, turn, fresh, aS, nS, cS, A, L, C, z⟩) := h.up HB.out
  have HX0 : Hid (wb.heap[w.heap.size]? = some (.cells #[.slice aQ nQ cQ, .slice aD nD cD, .int .i64 turn, .bool fresh, .slice aS nS cS] 27 (0, 0))) := by rw [Hid, hwb]; exact blk_new _ _
  have cX := blk_cell HX0.out
  have hq1 : nQ ≤ 1048576 := hs.q
  have hd1 : nD ≤ 1048576 := hs.d
  have HSm : Hid (nS ≤ 1048576) := hs.s
  have HLm : Hid (∀ i, i < nS → L i ≤ 1048576) := hs.l
  have hl1 : sumL L nS ≤ 5000000 := hl
  clear h hs hl
  unfold Rnd.cells
  dsimp only
  go_enter Try.func10, Try.ntmps10
  go_wp2_with fail
  rw [← hwb]
  clear hwb
  refine (markVI_any aQ nQ cQ m base q _ H0.out.q hq1 (by omega)).mono ?_
  rintro e w1 ⟨rfl, hv1, ht1⟩
  have H1 : Hid (OwnRo w1 base ⟨aQ, nQ, cQ, fun i => ((m + i : Nat) : Int), aD, nD, cD, d, turn, fresh, aS, nS, cS, A, L, C, z⟩) := H0.out.marksQ hv1 ht1
  have HX1 : Hid (w1.heap[w.heap.size]? = some (.cells #[.slice aQ nQ cQ, .slice aD nD cD, .int .i64 turn, .bool fresh, .slice aS nS cS] 27 (0, 0))) := (ht1.block _ (blk_lt HX0.out) (notInI H0.out.q (by decide) HX0.out)).trans HX0.out
  have HT1 : Hid (Touch (blkI aQ nQ) wb w1) := ht1
  clear hv1 ht1 cX HX0 H0
  have cX := blk_cell HX1.out
  go_wp2_with fail
  refine (markVI_any aD nD cD (m + nQ) base d _ H1.out.d hd1 (by omega)).mono ?_
  rintro e w2 ⟨rfl, hv2, ht2⟩
  have H2 : Hid (OwnRo w2 base ⟨aQ, nQ, cQ, fun i => ((m + i : Nat) : Int), aD, nD, cD, fun i => ((m + nQ + i : Nat) : Int), turn, fresh, aS, nS, cS, A, L, C, z⟩) := H1.out.marksD hv2 ht2
  have HX2 : Hid (w2.heap[w.heap.size]? = some (.cells #[.slice aQ nQ cQ, .slice aD nD cD, .int .i64 turn, .bool fresh, .slice aS nS cS] 27 (0, 0))) := (ht2.block _ (blk_lt HX1.out) (notInI H1.out.d (by decide) HX1.out)).trans HX1.out
  have HT2 : Hid (Touch (blkI aD nD) w1 w2) := ht2
  clear hv2 ht2 cX HX1 H1
  have cX := blk_cell HX2.out
  have HA : Hid (∀ w', Touch (zBlk ⟨aQ, nQ, cQ, fun i => ((m + i : Nat) : Int), aD, nD, cD, fun i => ((m + nQ + i : Nat) : Int), turn, fresh, aS, nS, cS, A, L, C, z⟩) w2 w' → RdRow w' aS nS fun i => .slice (A i) (L i) (C i)) := fun w' ht => (VS.touchI H2.out.s ht (fun g arr hg => H2.out.notZ (by decide) hg)).read
  go_wp2_with fail
  refine (markIntssO_any aS nS cS (m + nQ + nD) base A L C z _ _ HSm.out (by omega) (by omega) HLm.out HA.out H2.out.z H2.out.zz (fun i hi x hx => zBlk_mem.2 ⟨i, hi, hx⟩)).mono ?_
  rintro e w3 ⟨rfl, hv3, ht3⟩
  have H3 := H2.out.marksZ hv3 ht3
  have HT : Hid (Touch (blkI aQ nQ ++ blkI aD nD ++ zBlk ⟨aQ, nQ, cQ, fun i => ((m + i : Nat) : Int), aD, nD, cD, fun i => ((m + nQ + i : Nat) : Int), turn, fresh, aS, nS, cS, A, L, C, z⟩) w w3) :=
    ((Touch.ofBelow HB.out).trans (HT1.out.mono (fun x hx => List.mem_append_left _ (List.mem_append_left _ hx)))).trans ((HT2.out.mono (fun x hx => List.mem_append_left _ (List.mem_append_right _ hx))).trans (ht3.mono (fun x hx => List.mem_append_right _ hx)))
  clear hv3 ht3 cX HX2 H2 HA
  go_wp2_with fail
  go_ret
  exact ⟨_, rfl, H3, HT.out, fun w0 h0 x hx => by
    rcases List.mem_append.1 hx with hx | hx
    · rcases List.mem_append.1 hx with hx | hx
      · exact h0.q.blk x hx
      · exact h0.d.blk x hx
    · obtain ⟨i, hi, hx⟩ := zBlk_mem.1 hx
      exact (h0.z i hi).blk x hx⟩
set_option maxHeartbeats 1000000 in
theorem heldRoundO_any (R : Rnd) (m base : Nat) (w : World) (h : OwnRo w base (R.marked m)) (hs : R.Small) (hl : sumL R.L R.nS ≤ 5000000) (hm : m ≤ 1000) :
    Calls Try.prog 11 #[.agg R.cells, .int .i64 m] w fun e w' => e = .returned (.int .i64 (R.total m : Nat)) ∧ Below w.heap.size w w' := by
  obtain ⟨aQ, nQ, cQ, q, aD, nD, cD, d, turn, fresh, aS, nS, cS, A, L, C, z⟩ := R
  obtain ⟨wb, hwb⟩ : ∃ wb, wb = w.alloc (.cells #[.slice aQ nQ cQ, .slice aD nD cD, .int .i64 turn, .bool fresh, .slice aS nS cS] 27) := ⟨_, rfl⟩
  have HB : Hid (Below w.heap.size w wb) := by rw [Hid, hwb]; exact (Below.refl _ _).alloc (Nat.le_refl _) _
  have H0 : Hid (OwnRo wb base ⟨aQ, nQ, cQ, fun i => ((m + i : Nat) : Int), aD, nD, cD, fun i => ((m + nQ + i : Nat) : Int), turn, fresh, aS, nS, cS, A, L, C, fun i j => ((m + nQ + nD + sumL L i + j : Nat) : Int)⟩) := h.up HB.out
  have HX0 : Hid (wb.heap[w.heap.size]? = some (.cells #[.slice aQ nQ cQ, .slice aD nD cD, .int .i64 turn, .bool fresh, .slice aS nS cS] 27 (0, 0))) := by rw [Hid, hwb]; exact blk_new _ _
  have cX := blk_cell HX0.out
  have hq1 : nQ ≤ 1048576 := hs.q
  have hd1 : nD ≤ 1048576 := hs.d
  have HSm : Hid (nS ≤ 1048576) := hs.s
  have HLm : Hid (∀ i, i < nS → L i ≤ 1048576) := hs.l
  have hl1 : sumL L nS ≤ 5000000 := hl
  have hk1 : ¬ ((m + nQ : Nat) : Int) < 0 := by omega
  have hk2 : ¬ ((m + nQ + nD : Nat) : Int) < 0 := by omega
  have hk3 : ¬ ((m + nQ + nD + sumL L nS : Nat) : Int) < 0 := by omega
  clear h hs hl
  unfold Rnd.cells
  dsimp only
  go_enter Try.func11, Try.ntmps11
  go_wp2_with fail
  rw [← hwb]
  clear hwb
  refine (heldVI_any aQ nQ cQ m base _ H0.out.q hq1 (by omega)).mono ?_
  rintro e w1 ⟨rfl, rfl⟩
  go_wp2_with fail
  refine (heldVI_any aD nD cD (m + nQ) base _ H0.out.d hd1 (by omega)).mono ?_
  rintro e w2 ⟨rfl, rfl⟩
  go_wp2_with fail
  refine (heldIntssO_any aS nS cS (m + nQ + nD) base A L C _ HSm.out (by omega) (by omega) HLm.out H0.out.s.read H0.out.z).mono ?_
  rintro e w3 ⟨rfl, rfl⟩
  go_wp2_with fail
  go_ret
  exact ⟨rfl, HB.out⟩
/-- a round is not written where all that is written lies behind it -/
theorem OwnRo.touchHi {w w' w0 : World} {base : Nat} {R : Rnd} {S : List Nat} (h : OwnRo w base R) (h0 : OwnRo w0 base R) (ht : Touch S w w') (hS : ∀ x ∈ S, w0.heap.size ≤ x) : OwnRo w' base R :=
  ⟨h.q.touchS ht (fun x hx hx2 => by
    have h1 := (h0.q.blk x hx).2
    have h2 := hS x hx2
    omega), h.d.touchS ht (fun x hx hx2 => by
    have h1 := (h0.d.blk x hx).2
    have h2 := hS x hx2
    omega), by
    rcases h.s with h1 | ⟨g, ha, hg, hr⟩
    · exact .inl h1
    · by_cases hn : R.nS = 0
      · exact .inl hn
      rcases h0.s with h1 | ⟨g2, ha2, _, hr2⟩
      · exact absurd h1 hn
      · rw [ha] at ha2
        cases ha2
        exact .inr ⟨g, ha, hg, hr.keep (ht.block g hr.lt (fun hx => by have := hS g hx; have := hr2.lt; omega))⟩, fun i hi => (h.z i hi).touchS ht (fun x hx hx2 => by
    have h1 := ((h0.z i hi).blk x hx).2
    have h2 := hS x hx2
    omega), h.qd, h.qz, h.dz, h.zz⟩
end Go.Proofs.Ytbpimofgipfkaaa
