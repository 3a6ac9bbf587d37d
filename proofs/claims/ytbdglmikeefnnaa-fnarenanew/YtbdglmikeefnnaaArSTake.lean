/- Cells taken: the specification's contract. -/
import Derived.Test.YtbdglmikeefnnaaArTake
import Derived.Test.YtbdglmikeefnnaaArCopy
namespace Go.Proofs.Ytbdglmikeefnnaa
open Go.RowKit
set_option linter.unusedVariables false
set_option linter.unusedSimpArgs false

set_option maxHeartbeats 1000000 in
theorem sTaken_any (a1 b1 : Option Addr) (n m c1 d1 : Nat) (fr : Int) (s : ByteArray) (nx : Nat → Int) (dt : Nat → ByteArray) (w : World) (hn : n ≤ 1048576) (hm : m ≤ 1048576) (hs : s.size ≤ 1048576) (hd : ∀ i, i < m → (dt i).size ≤ maxLen) (h1 : RdRow w a1 n fun i => .int .i64 (nx i)) (h2 : RdRow w b1 m fun i => .string (dt i)) (b : Bool) (hb : b = true ↔ takeP n m nx dt fr s) :
    Calls Try.prog 10 #[.agg #[.slice a1 n c1, .slice b1 m d1, .int .i64 fr], .string s] w fun e w' => (∃ v1 v2, e = .returned (.tuple #[.agg #[v1, v2, .int .i64 (tFr b nx (walkL nx n fr) s)], .int .i64 (tHd b (walkL nx n fr)), .bool b]) ∧ VRow 2 w' w.heap.size v1 (gK b n) (fun i => .int .i64 (tNx nx (walkL nx n fr) s i)) ∧ VRow 9 w' w.heap.size v2 (gK b n) (fun i => .string (tD (walkL nx n fr) s dt (needS s) i))) ∧ Below w.heap.size w w' := by
  have HB : Hid (b = true ↔ takeP n m nx dt fr s) := hb
  have H1 : Hid (RdRow w a1 n fun i => .int .i64 (nx i)) := h1
  have H2 : Hid (RdRow w b1 m fun i => .string (dt i)) := h2
  have HD : Hid (∀ i, i < m → (dt i).size ≤ maxLen) := hd
  clear hb h1 h2 hd
  have HA2 : Hid (∀ A R, Below w.heap.size w ((w.alloc A).alloc R)) := fun A R => ((Below.refl _ _).alloc (Nat.le_refl _) _).alloc (by simp) _
  have HF : Hid (∀ W, Below w.heap.size w W → Below w.heap.size w (((W.setCell ⟨w.heap.size + 1, 0, none⟩ (.slice none 0 0)).setCell ⟨w.heap.size + 1, 1, none⟩ (.slice none 0 0)).setCell ⟨w.heap.size + 1, 2, none⟩ (.int .i64 0))) := fun W h => ((h.setCell (by show _ ≤ _ + 1; omega) _).setCell (by show _ ≤ _ + 1; omega) _).setCell (by show _ ≤ _ + 1; omega) _
  have hs' : (s.size : Int) ≤ 1048576 := by omega
  by_cases hO : okP n m nx dt fr
  · have HO : Hid (okP n m nx dt fr) := hO
    obtain ⟨l1, l2, rfl, hr, r0, r1, hG, hE⟩ := okP_parts hO
    have HSZ : Hid (∀ i, i < m → (dt i).size ≤ 10) := fun i hi => (hO.2.2.2.2.2 i hi).2
    have HR : Hid (inRange m nx) := hr
    have HIN : Hid (∀ x ∈ walkL nx m fr, 0 ≤ x ∧ x < m) := walkL_in hr m fr (by omega) r1
    have HE : Hid (goN nx m fr = -1) := hE
    clear hr hG hE hO
    go_enter Try.func10, Try.ntmps10
    go_wp2_with fail
    refine (sOk_any a1 b1 m m c1 d1 fr nx dt _ hn hm HD.out (H1.out.up (HA2.out _ _)) (H2.out.up (HA2.out _ _)) true (by simp [HO.out])).mono ?_
    rintro e w1 ⟨rfl, hb1⟩
    have hB := first2 hb1
    clear hb1
    obtain ⟨kA, kR, B1, z1⟩ := two_boxes hB
    have cA := blk_cell kA
    have cR := blk_cell kR
    have fR := blk_free kR
    by_cases hz : s.size = 0
    · obtain rfl : b = false := by
        cases b
        · rfl
        · have := (HB.out.1 rfl).2.1; omega
      have hse : s = ⟨#[]⟩ := by
        have : s.data.size = 0 := hz
        cases s
        simp_all
      subst hse
      clear kA kR hB
      go_wp2_with fail
      exact bodyPost_ret (v := .tuple #[.agg #[.slice none 0 0, .slice none 0 0, .int .i64 0], .int .i64 0, .bool false]) (by simp [results, Try.results10, go_sem, cR]) rfl ⟨⟨_, _, rfl, VRow.nil _ _ _ _, VRow.nil _ _ _ _⟩, HF.out _ B1⟩
    have hs1 : (s.toList == []) = false := toList_beq_nil (by omega)
    have HN0 : Hid (needS s = 0 ↔ s.size = 0) := by show _ ↔ _; unfold needS; omega
    have hnb : needS s ≤ 1048576 := by unfold needS; omega
    have hne : ((s.size : Int) + 10 - 1) / 10 = (needS s : Int) := by unfold needS; omega
    have hne2 : ((s.size : Int) + 9) / 10 = (needS s : Int) := by unfold needS; omega
    have hne3 : ((s.size : Int) + 10 - 1).tdiv 10 = (needS s : Int) := by rw [Int.tdiv_eq_ediv_of_nonneg (by omega)]; exact hne
    go_wp2_with fail
    refine (l2Walk_any a1 b1 m c1 d1 m fr fr nx _ (by omega) (H1.out.up B1) HR.out r0 r1).mono ?_
    rintro e w2 ⟨⟨_, v, rfl, hown⟩ | ⟨hE', rfl⟩, hb2⟩
    rotate_left
    · exact absurd HE.out hE'
    have hV := (own_vrow hown).2
    have hLn := walkL_len nx m fr
    obtain ⟨a, cap, rfl, hrd⟩ := hV.read
    replace hB := next2 hB hb2
    have HVL : Hid (∀ g ∈ bl (.slice a (walkL nx m fr).length cap), w.heap.size + 1 + 1 ≤ g) := fun g hg => by have := (hV.lt g hg).2; omega
    clear hb2 hown hV B1 kA kR cA cR fR HE HR r0 r1
    obtain ⟨kA, kR, B2, z2⟩ := two_boxes hB
    have cA := blk_cell kA
    have cR := blk_cell kR
    have fR := blk_free kR
    generalize hL : walkL nx m fr = L at *
    have HLE : Hid (walkL nx m fr = L) := hL
    clear hL
    obtain ⟨N, HNE⟩ : ∃ N, Hid (needS s = N) := ⟨_, rfl⟩
    rw [HNE.out] at hne hne2 hne3 hnb HN0
    by_cases hN : N ≤ L.length
    rotate_left
    · obtain rfl : b = false := by
        cases b
        · rfl
        · have := (HB.out.1 rfl).2.2
          rw [HNE.out, HLE.out] at this
          exact absurd this hN
      have hN' : (L.length : Int) < N := by omega
      clear kA kR hB
      go_wp2_with fail
      exact bodyPost_ret (v := .tuple #[.agg #[.slice none 0 0, .slice none 0 0, .int .i64 0], .int .i64 0, .bool false]) (by simp [results, Try.results10, go_sem, cR]) rfl ⟨⟨_, _, rfl, VRow.nil _ _ _ _, VRow.nil _ _ _ _⟩, HF.out _ B2⟩
    obtain rfl : b = true := HB.out.2 ⟨HO.out, by omega, by rw [HNE.out, HLE.out]; exact hN⟩
    have hN1 : 1 ≤ N := by have := HN0.out; omega
    have HCUT : Hid (∀ j, j < N → j * 10 < s.size) := fun j hj => by
      have := HNE.out
      unfold needS at this
      omega
    have hN' : ¬ (L.length : Int) < N := by omega
    clear kA kR
    go_wp2_with fail
    refine (l2Copy_any a1 b1 m c1 d1 fr nx dt _ l1 l2 (H1.out.up B2) (H2.out.up B2)).mono ?_
    rintro e w3 ⟨gN, gD, cN, cD, rfl, hN, hD, rN, rD, hb2⟩
    obtain ⟨gc, oc, rfl, _⟩ := hrd 0 (by omega)
    have HG0 : Hid (∀ i (hi : i < L.length), w3.cell? ⟨gc, oc + i, none⟩ = some (.int .i64 L[i]) ∧ gc < w2.heap.size) := fun i hi => by
      obtain ⟨gc', o', e', p⟩ := hrd i hi
      cases e'
      refine ⟨((hb2.cell (p := ⟨gc, oc + i, none⟩) (cellLt p)).trans p).trans ?_, cellLt p⟩
      simp [intsOf, List.getD_eq_getElem?_getD, List.getElem?_eq_getElem hi]
    have hgc2 : w.heap.size + 1 + 1 ≤ gc := HVL.out gc (by simp [bl])
    have hgc : gc < w2.heap.size := (HG0.out 0 (by omega)).2
    have z3 := hb2.size
    replace hB := next2 hB hb2
    clear cA cR fR B2 hb2 hrd HVL
    go_wp2_with fail
    have nND : gN ≠ gD := rN.ne2 rD (by decide)
    have lN := rN.lt
    have lD := rD.lt
    have hbX : Below w3.heap.size w3 (w3.alloc (.cells #[.slice (some ⟨gN, 0, none⟩) m cN, .slice (some ⟨gD, 0, none⟩) m cD, .int .i64 fr] 27)) := (Below.refl _ _).alloc (Nat.le_refl _) _
    have kX := blk_new w3 (.cells #[.slice (some ⟨gN, 0, none⟩) m cN, .slice (some ⟨gD, 0, none⟩) m cD, .int .i64 fr] 27)
    have eX : (w3.alloc (.cells #[.slice (some ⟨gN, 0, none⟩) m cN, .slice (some ⟨gD, 0, none⟩) m cD, .int .i64 fr] 27)).heap.size = w3.heap.size + 1 := by simp
    replace HG0 : Hid (∀ i (hi : i < L.length), (w3.alloc (.cells #[.slice (some ⟨gN, 0, none⟩) m cN, .slice (some ⟨gD, 0, none⟩) m cD, .int .i64 fr] 27)).cell? ⟨gc, oc + i, none⟩ = some (.int .i64 L[i]) ∧ gc < w2.heap.size) := fun i hi => by
      obtain ⟨p, l⟩ := HG0.out i hi
      exact ⟨(hbX.cell (p := ⟨gc, oc + i, none⟩) (cellLt p)).trans p, l⟩
    replace rN := rN.keep (hbX.block gN lN)
    replace rD := rD.keep (hbX.block gD lD)
    replace hB := next2 hB hbX
    clear hbX
    generalize w3.alloc (.cells #[.slice (some ⟨gN, 0, none⟩) m cN, .slice (some ⟨gD, 0, none⟩) m cD, .int .i64 fr] 27) = W2 at *
    go_loopw [11] (fun i wr => ∃ j : Nat, j ≤ N ∧ i = .int .i64 j ∧ RowTo gD 9 m (fun i => .string (tD L s dt j i)) m wr ∧ Touch [gD] W2 wr) (fun i _ => N - (intOf i).toNat)
    case atStart => exact ⟨0, Nat.zero_le _, rfl, rD.ext (fun i hi => rfl), Touch.refl _ _⟩
    case round =>
      obtain ⟨j, hj, rfl, hR, hT⟩ := hrel
      have kXr := (hT.block w3.heap.size (by omega) (by simp; omega)).trans kX
      have cX := blk_cell kXr
      have fX := blk_free kXr
      by_cases hlt : j < N
      · have hlt' : (j : Int) < N := by omega
        have hjL : j < L.length := by omega
        have hjL' : (j : Int) < L.length := by omega
        have p2 : wr.cell? ⟨gc, oc + j, none⟩ = some (.int .i64 L[j]) := (World.cell?_of_block (a := ⟨gc, oc + j, none⟩) (hT.block gc (by omega) (by simp; omega))).trans (HG0.out j hjL).1
        obtain ⟨x0, x1⟩ := HIN.out L[j] (List.getElem_mem hjL)
        have HLJ : Hid (L.getD j 0 = L[j]) := by show _ = _; simp [List.getD_eq_getElem?_getD, List.getElem?_eq_getElem hjL]
        generalize L[j] = x at *
        obtain ⟨q, rfl⟩ := Int.eq_ofNat_of_zero_le x0
        have hq : q < m := by omega
        have hq' : (q : Int) < m := by omega
        obtain ⟨v0, hv0⟩ := hR.there q hq
        have hf := hR.free q
        have hcj := HCUT.out j hlt
        have hcj' : (j : Int) * 10 < s.size := by omega
        go_wp2_with fail
        go_region
        go_wp2_with fail
        go_roundw
        case rel =>
          refine ⟨j + 1, by omega, by go_num, RowTo.keep (w := wr.setCell ⟨gD, q, none⟩ (.string (s.extract (j * 10) (min (s.size : Int) (((j : Int) + 1) * 10)).toNat))) ((hR.setAt q _ hq).ext (fun i hi => ?_)) rfl, (hT.set (by simp) _ _).trans ((Touch.ofBelow (Below.refl _ _).drew))⟩
          rw [tD, HLJ.out]
          have hcut : s.extract (j * 10) (min (s.size : Int) (((j : Int) + 1) * 10)).toNat = cutS s j := by
            unfold cutS
            congr 1
            omega
          by_cases e : i = q
          · rw [if_pos e, if_pos (by omega), hcut]
          · rw [if_neg e, if_neg (by omega)]
        case measure => simp [intOf]; omega
      · obtain rfl : j = N := by omega
        have hjL : j - 1 < L.length := by omega
        have p2 : wr.cell? ⟨gc, oc + (j - 1), none⟩ = some (.int .i64 L[j - 1]) := (World.cell?_of_block (a := ⟨gc, oc + (j - 1), none⟩) (hT.block gc (by omega) (by simp; omega))).trans (HG0.out (j - 1) hjL).1
        have p3 : wr.cell? ⟨gc, oc, none⟩ = some (.int .i64 L[0]) := (World.cell?_of_block (a := ⟨gc, oc, none⟩) (hT.block gc (by omega) (by simp; omega))).trans (HG0.out 0 (by omega)).1
        obtain ⟨x0, x1⟩ := HIN.out L[j - 1] (List.getElem_mem hjL)
        have HTL : Hid (tL L s = L[j - 1]) := by show _ = _; unfold tL; rw [HNE.out]; simp [List.getD_eq_getElem?_getD, List.getElem?_eq_getElem hjL]
        have HHD : Hid (tHd true L = L[0]) := by show _ = _; unfold tHd; simp [List.getD_eq_getElem?_getD, List.getElem?_eq_getElem (show 0 < L.length by omega)]
        generalize L[0] = h0 at *
        generalize L[j - 1] = x at *
        obtain ⟨q, rfl⟩ := Int.eq_ofNat_of_zero_le x0
        have hq : q < m := by omega
        have hq' : (q : Int) < m := by omega
        have rNr := rN.keep (hT.block gN (by omega) (by simp; omega))
        obtain ⟨v0, hv0⟩ := rNr.there q hq
        have hf := rNr.free q
        have hlm : ((j : Int) - 1) = ((j - 1 : Nat) : Int) := by omega
        have hjm' : ((j - 1 : Nat) : Int) < L.length := by omega
        have hL0 : 0 < L.length := by omega
        replace hB := hB.trans (hT.below (by omega) (by simp; omega))
        obtain ⟨kA, kR, Bw, zw⟩ := two_boxes hB
        have cA := blk_cell kA
        obtain ⟨ga, oa, rfl, pa⟩ := (H1.out.up Bw) q hq
        dsimp only at pa
        have HTN : Hid (tFr true nx L s = nx q) := by show _ = _; unfold tFr; rw [if_pos rfl, HTL.out]; rfl
        clear HG0
        go_wp2_with fail
        go_region
        have kX1 : ((wr.setCell ⟨w3.heap.size, 2, none⟩ (.int .i64 (nx q))).drew).heap[w3.heap.size]? = some (.cells #[.slice (some ⟨gN, 0, none⟩) m cN, .slice (some ⟨gD, 0, none⟩) m cD, .int .i64 (nx q)] 27 (0, 0)) := blk_set kXr _
        have rN1 := rNr.keep (w' := (wr.setCell ⟨w3.heap.size, 2, none⟩ (.int .i64 (nx q))).drew) (blk_set_ne (by omega) _)
        have rD1 := hR.keep (w' := (wr.setCell ⟨w3.heap.size, 2, none⟩ (.int .i64 (nx q))).drew) (blk_set_ne (by omega) _)
        have hB1 : Below (w.heap.size + 1 + 1) _ ((wr.setCell ⟨w3.heap.size, 2, none⟩ (.int .i64 (nx q))).drew) := (hB.setCell (p := ⟨w3.heap.size, 2, none⟩) (by show _ ≤ w3.heap.size; omega) _).drew
        have p21 : ((wr.setCell ⟨w3.heap.size, 2, none⟩ (.int .i64 (nx q))).drew).cell? ⟨gc, oc + (j - 1), none⟩ = some (.int .i64 (q : Int)) := (World.cell?_setCell_far wr _ _ _ (by show w3.heap.size ≠ gc; omega)).trans p2
        have p31 : ((wr.setCell ⟨w3.heap.size, 2, none⟩ (.int .i64 (nx q))).drew).cell? ⟨gc, oc, none⟩ = some (.int .i64 h0) := (World.cell?_setCell_far wr _ _ _ (by show w3.heap.size ≠ gc; omega)).trans p3
        generalize (wr.setCell ⟨w3.heap.size, 2, none⟩ (.int .i64 (nx q))).drew = V1 at *
        clear hB kA kR Bw zw cA pa hR rNr kXr cX fX hT p2 p3 hv0 hf
        have cX := blk_cell kX1
        obtain ⟨v0, hv0⟩ := rN1.there q hq
        have hf := rN1.free q
        go_wp2_with fail
        go_region
        have rN2 : RowTo gN 2 m (fun i => .int .i64 (tNx nx L s i)) m ((V1.setCell ⟨gN, q, none⟩ (.int .i64 (-1))).drew) := by
          refine RowTo.keep (w := V1.setCell ⟨gN, q, none⟩ (.int .i64 (-1))) ?_ rfl
          refine (rN1.setAt q (.int .i64 (-1)) hq).ext (fun i hi => ?_)
          unfold tNx
          rw [HTL.out]
          by_cases e : i = q
          · rw [if_pos e, if_pos (by omega)]
          · rw [if_neg e, if_neg (by omega)]
        have rD2 := rD1.keep (w' := (V1.setCell ⟨gN, q, none⟩ (.int .i64 (-1))).drew) (blk_set_ne (fun e => nND e.symm) _)
        have kX2 : ((V1.setCell ⟨gN, q, none⟩ (.int .i64 (-1))).drew).heap[w3.heap.size]? = _ := (blk_set_ne (by omega) _).trans kX1
        have hB2 : Below (w.heap.size + 1 + 1) _ ((V1.setCell ⟨gN, q, none⟩ (.int .i64 (-1))).drew) := (hB1.setCell (p := ⟨gN, q, none⟩) (by show _ ≤ gN; omega) (.int .i64 (-1))).drew
        have p32 : ((V1.setCell ⟨gN, q, none⟩ (.int .i64 (-1))).drew).cell? ⟨gc, oc, none⟩ = some (.int .i64 h0) := (World.cell?_setCell_far V1 _ _ _ (by show gN ≠ gc; omega)).trans p31
        generalize (V1.setCell ⟨gN, q, none⟩ (.int .i64 (-1))).drew = W at *
        clear rN1 rD1 kX1 hB1 p21 p31 cX hv0 hf kX
        obtain ⟨kA, kR, Bw, zw⟩ := two_boxes hB2
        have cR := blk_cell kR
        have fR := blk_free kR
        have cX := blk_cell kX2
        have fX := blk_free kX2
        have nX : w3.heap.size ≠ w.heap.size + 1 := by omega
        clear kA kR hB2 kX2
        go_wp2_with fail
        have nX2 : w.heap.size + 1 ≠ w3.heap.size := by omega
        have nC : w.heap.size + 1 ≠ gc := by omega
        refine wp_region_held_drew (S := fun w' => (∀ o, w'.cell? ⟨w3.heap.size, o, none⟩ = (#[.slice (some ⟨gN, 0, none⟩) m cN, .slice (some ⟨gD, 0, none⟩) m cD, .int .i64 (nx q)] : Array Value)[o]?) ∧ w'.cell? ⟨gc, oc, none⟩ = some (.int .i64 h0)) (by kernel_rfl) ⟨cX, p32⟩ (fun hHeld => ?_)
        refine wpAnyH_take (i := 0) (v := ?_) rfl (by kernel_rfl) (by kernel_rfl) (by kernel_rfl) (fun _ _ _ h => h) (Or.inl ⟨by rfl, ?_⟩) (by assumption) ?_
        rotate_left
        · intro wx hSw
          obtain ⟨hS1, hS2⟩ := hSw
          go_simp
          try (with_reducible rfl)
        try simp only [Act.put, List.setIfInBounds_toArray, List.set_cons_zero, List.set_cons_succ]
        refine wpAnyH_take (i := 1) (v := ?_) rfl (by kernel_rfl) (by kernel_rfl) (by kernel_rfl) (fun _ _ _ h => h) (Or.inl ⟨by rfl, ?_⟩) (by assumption) ?_
        rotate_left
        · intro wx hSw
          obtain ⟨hS1, hS2⟩ := hSw
          go_simp
          try (with_reducible rfl)
        try simp only [Act.put, List.setIfInBounds_toArray, List.set_cons_zero, List.set_cons_succ]
        refine wpAnyH_take (i := 2) (v := ?_) rfl (by kernel_rfl) (by kernel_rfl) (by kernel_rfl) (fun _ _ _ h => h) (Or.inl ⟨by rfl, ?_⟩) (by assumption) ?_
        rotate_left
        · intro wx hSw
          obtain ⟨hS1, hS2⟩ := hSw
          go_simp
          try (with_reducible rfl)
        try simp only [Act.put, List.setIfInBounds_toArray, List.set_cons_zero, List.set_cons_succ]
        refine wpAnyH_take (i := 3) (v := ?_) rfl (by kernel_rfl) (by kernel_rfl) (by kernel_rfl) (fun _ _ _ h => h) (Or.inl ⟨by rfl, ?_⟩) (by assumption) ?_
        rotate_left
        · intro wx hSw
          obtain ⟨hS1, hS2⟩ := hSw
          go_simp
          try (with_reducible rfl)
        try simp only [Act.put, List.setIfInBounds_toArray, List.set_cons_zero, List.set_cons_succ]
        have cR' : ∀ o, W.drew.cell? ⟨w.heap.size + 1, o, none⟩ = _ := cR
        have fR' : ∀ o, W.drew.frozen? ⟨w.heap.size + 1, o, none⟩ = false := fR
        have rN3 := rN2.keep (w' := W.drew) rfl
        have rD3 := rD2.keep (w' := W.drew) rfl
        have B3 := Bw.drew
        have q4 : W.heap.size = W.drew.heap.size := rfl
        clear cR fR rN2 rD2 Bw cX p32
        generalize W.drew = V at *
        obtain ⟨cX, p32⟩ := hHeld
        refine wpAnyH_ready (rs := [4]) (by kernel_rfl) (by simp) ?_
        refine AllReadyH.cons rfl (fun K hK => ?_) AllReadyH.nil
        go_simp
        have p33 : (∀ o, (((V.setCell ⟨w.heap.size + 1, 0, none⟩ (.slice (some ⟨gN, 0, none⟩) m cN)).setCell ⟨w.heap.size + 1, 1, none⟩ (.slice (some ⟨gD, 0, none⟩) m cD)).setCell ⟨w.heap.size + 1, 2, none⟩ (.int .i64 (nx q))).cell? ⟨w3.heap.size, o, none⟩ = (#[.slice (some ⟨gN, 0, none⟩) m cN, .slice (some ⟨gD, 0, none⟩) m cD, .int .i64 (nx q)] : Array Value)[o]?) ∧ (((V.setCell ⟨w.heap.size + 1, 0, none⟩ (.slice (some ⟨gN, 0, none⟩) m cN)).setCell ⟨w.heap.size + 1, 1, none⟩ (.slice (some ⟨gD, 0, none⟩) m cD)).setCell ⟨w.heap.size + 1, 2, none⟩ (.int .i64 (nx q))).cell? ⟨gc, oc, none⟩ = some (.int .i64 h0) := by
          refine ⟨fun o => ?_, ?_⟩
          · rw [World.cell?_setCell_far _ _ _ _ nX2, World.cell?_setCell_far _ _ _ _ nX2, World.cell?_setCell_far _ _ _ _ nX2]
            exact cX o
          · rw [World.cell?_setCell_far _ _ _ _ nC, World.cell?_setCell_far _ _ _ _ nC, World.cell?_setCell_far _ _ _ _ nC]
            exact p32
        refine hK.out _ _ p33 (fun hHeld => ?_)
        clear hK K
        try simp only [Act.put, List.setIfInBounds_toArray, List.set_cons_zero, List.set_cons_succ]
        refine wpAnyH_ready (rs := [5]) (by kernel_rfl) (by simp) ?_
        refine AllReadyH.cons rfl (fun K hK => ?_) AllReadyH.nil
        go_simp
        refine hK.out _ _ p33 (fun hHeld => ?_)
        clear hK K
        try simp only [Act.put, List.setIfInBounds_toArray, List.set_cons_zero, List.set_cons_succ]
        refine wpAnyH_ready (rs := [6]) (by kernel_rfl) (by simp) ?_
        refine AllReadyH.cons rfl (fun K hK => ?_) AllReadyH.nil
        go_simp
        refine hK.out _ _ p33 (fun hHeld => ?_)
        clear hK K
        try simp only [Act.put, List.setIfInBounds_toArray, List.set_cons_zero, List.set_cons_succ]
        refine wpAnyH_done (by kernel_rfl) ?_ _
        clear hHeld p33
        go_wp2_with fail
        have nN : gN ≠ w.heap.size + 1 := by omega
        have nD : gD ≠ w.heap.size + 1 := by omega
        refine bodyPost_ret (v := .tuple #[.agg #[.slice (some ⟨gN, 0, none⟩) m cN, .slice (some ⟨gD, 0, none⟩) m cD, .int .i64 (nx q)], .int .i64 h0, .bool true]) (by simp [results, Try.results10, go_sem, cR']) rfl ⟨⟨_, _, by rw [HLE.out, HTN.out, HHD.out], ?_, ?_⟩, ((B3.setCell (by show _ ≤ _ + 1; omega) _).setCell (by show _ ≤ _ + 1; omega) _).setCell (by show _ ≤ _ + 1; omega) _⟩
        · rw [HLE.out]
          exact VRow.of (rN3.keep (by rw [blk_set_ne nN, blk_set_ne nN, blk_set_ne nN])) (by omega)
        · rw [HLE.out, HNE.out]
          exact VRow.of (rD3.keep (by rw [blk_set_ne nD, blk_set_ne nD, blk_set_ne nD])) (by omega)
  · obtain rfl : b = false := by
      cases b
      · rfl
      · exact absurd (HB.out.1 rfl).1 hO
    have HO : Hid (¬ okP n m nx dt fr) := hO
    clear hO
    go_enter Try.func10, Try.ntmps10
    go_wp2_with fail
    refine (sOk_any a1 b1 n m c1 d1 fr nx dt _ hn hm HD.out (H1.out.up (HA2.out _ _)) (H2.out.up (HA2.out _ _)) false (by simp [HO.out])).mono ?_
    rintro e w1 ⟨rfl, hb1⟩
    have hB := first2 hb1
    clear hb1
    obtain ⟨kA, kR, B1, z1⟩ := two_boxes hB
    have cR := blk_cell kR
    have fR := blk_free kR
    clear kA kR hB
    go_wp2_with fail
    exact bodyPost_ret (v := .tuple #[.agg #[.slice none 0 0, .slice none 0 0, .int .i64 0], .int .i64 0, .bool false]) (by simp [results, Try.results10, go_sem, cR]) rfl ⟨⟨_, _, rfl, VRow.nil _ _ _ _, VRow.nil _ _ _ _⟩, HF.out _ B1⟩
end Go.Proofs.Ytbdglmikeefnnaa
