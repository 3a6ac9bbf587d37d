/- A chain given back: the specification's contract. -/
import Derived.Test.YtbdglmikeefnnaaArCopy
namespace Go.Proofs.Ytbdglmikeefnnaa
open Go.RowKit
set_option linter.unusedVariables false
set_option linter.unusedSimpArgs false

set_option maxHeartbeats 1000000 in
theorem sGiven_any (a1 b1 : Option Addr) (n m c1 d1 : Nat) (fr h : Int) (nx : Nat → Int) (dt : Nat → ByteArray) (w : World) (hn : n ≤ 1048576) (hm : m ≤ 1048576) (hd : ∀ i, i < m → (dt i).size ≤ maxLen) (h1 : RdRow w a1 n fun i => .int .i64 (nx i)) (h2 : RdRow w b1 m fun i => .string (dt i)) (b : Bool) (hb : b = true ↔ chainP n m nx dt fr h) :
    Calls Try.prog 20 #[.agg #[.slice a1 n c1, .slice b1 m d1, .int .i64 fr], .int .i64 h] w fun e w' => (∃ v1 v2, e = .returned (.tuple #[.agg #[v1, v2, .int .i64 (gFr b h)], .bool b]) ∧ VRow 2 w' w.heap.size v1 (gK b n) (fun i => .int .i64 (gNx nx (freeL b n nx h) fr i)) ∧ VRow 9 w' w.heap.size v2 (gK b n) (fun i => .string (gDt dt (freeL b n nx h) i))) ∧ Below w.heap.size w w' := by
  have HB : Hid (b = true ↔ chainP n m nx dt fr h) := hb
  have H1 : Hid (RdRow w a1 n fun i => .int .i64 (nx i)) := h1
  have H2 : Hid (RdRow w b1 m fun i => .string (dt i)) := h2
  go_enter Try.func20, Try.ntmps20
  go_wp2_with fail
  have HA2 : Hid (∀ A R, Below w.heap.size w ((w.alloc A).alloc R)) := fun A R => ((Below.refl _ _).alloc (Nat.le_refl _) _).alloc (by simp) _
  refine (sChain_any a1 b1 n m c1 d1 fr h nx dt _ hn hm hd (h1.up (HA2.out _ _)) (h2.up (HA2.out _ _)) b hb).mono ?_
  rintro e w1 ⟨⟨v, rfl, hV⟩, hb1⟩
  clear h1 h2 hd hb
  obtain ⟨a, cap, rfl, hrd⟩ := hV.read
  have hB := first2 hb1
  clear hb1 hV
  obtain ⟨kA, kR, B1, z1⟩ := two_boxes hB
  have cA := blk_cell kA
  have cR := blk_cell kR
  have fR := blk_free kR
  cases b
  · clear kA kR hB
    go_wp2_with fail
    exact bodyPost_ret (v := .tuple #[.agg #[.slice none 0 0, .slice none 0 0, .int .i64 0], .bool false]) (by simp [results, Try.results20, go_sem, cR]) rfl ⟨⟨_, _, rfl, VRow.nil _ _ _ _, VRow.nil _ _ _ _⟩, ((B1.setCell (by show _ ≤ _ + 1; omega) _).setCell (by show _ ≤ _ + 1; omega) _).setCell (by show _ ≤ _ + 1; omega) _⟩
  · obtain ⟨hO, hH⟩ := HB.out.1 rfl
    obtain ⟨l1, l2, rfl, hr, r0, r1, hG, hE⟩ := okP_parts hO
    have HIN : Hid (∀ x ∈ freeL true m nx h, 0 ≤ x ∧ x < m) := walkL_in hr m h (by have := hH.1; omega) hH.2.1
    have hLn := freeL_len true m nx h
    have hL1 := chain_pos (nx := nx) hH.1 l1
    clear hO hH hr hE hG
    generalize hL : freeL true m nx h = L at *
    have HLE : Hid (freeL true m nx h = L) := hL
    clear hL
    go_wp2_with fail
    refine (l2Copy_any a1 b1 m c1 d1 fr nx dt _ l1 l2 (H1.out.up B1) (H2.out.up B1)).mono ?_
    rintro e w2 ⟨gN, gD, cN, cD, rfl, hN, hD, rN, rD, hb2⟩
    have HRD : Hid (∀ i (hi : i < L.length), ∃ gc o, a = some ⟨gc, o, none⟩ ∧ gc < w1.heap.size ∧ w2.cell? ⟨gc, o + i, none⟩ = some (.int .i64 L[i])) := fun i hi => by
      obtain ⟨gc, o, e, p⟩ := hrd i hi
      refine ⟨gc, o, e, cellLt p, ((hb2.cell (p := ⟨gc, o + i, none⟩) (cellLt p)).trans p).trans ?_⟩
      simp [intsOf, List.getD_eq_getElem?_getD, List.getElem?_eq_getElem hi]
    have z2 := hb2.size
    replace hB := next2 hB hb2
    clear kA kR cA cR fR B1 hb2 hrd
    go_wp2_with fail
    have nND : gN ≠ gD := rN.ne2 rD (by decide)
    have lN := rN.lt
    have lD := rD.lt
    have hbX : Below w2.heap.size w2 (w2.alloc (.cells #[.slice (some ⟨gN, 0, none⟩) m cN, .slice (some ⟨gD, 0, none⟩) m cD, .int .i64 fr] 27)) := (Below.refl _ _).alloc (Nat.le_refl _) _
    have kX := blk_new w2 (.cells #[.slice (some ⟨gN, 0, none⟩) m cN, .slice (some ⟨gD, 0, none⟩) m cD, .int .i64 fr] 27)
    have eX : (w2.alloc (.cells #[.slice (some ⟨gN, 0, none⟩) m cN, .slice (some ⟨gD, 0, none⟩) m cD, .int .i64 fr] 27)).heap.size = w2.heap.size + 1 := by simp
    replace HRD : Hid (∀ i (hi : i < L.length), ∃ gc o, a = some ⟨gc, o, none⟩ ∧ gc < w1.heap.size ∧ (w2.alloc (.cells #[.slice (some ⟨gN, 0, none⟩) m cN, .slice (some ⟨gD, 0, none⟩) m cD, .int .i64 fr] 27)).cell? ⟨gc, o + i, none⟩ = some (.int .i64 L[i])) := fun i hi => by
      obtain ⟨gc, o, e, l, p⟩ := HRD.out i hi
      exact ⟨gc, o, e, l, (hbX.cell (p := ⟨gc, o + i, none⟩) (cellLt p)).trans p⟩
    replace rN := rN.keep (hbX.block gN lN)
    replace rD := rD.keep (hbX.block gD lD)
    replace hB := next2 hB hbX
    clear hbX
    generalize w2.alloc (.cells #[.slice (some ⟨gN, 0, none⟩) m cN, .slice (some ⟨gD, 0, none⟩) m cD, .int .i64 fr] 27) = W2 at *
    go_loopw [9] (fun i wr => ∃ j : Nat, j ≤ L.length ∧ i = .int .i64 j ∧ RowTo gD 9 m (fun i => .string (if (i : Int) ∈ L.take j then ⟨#[]⟩ else dt i)) m wr ∧ Touch [gD] W2 wr) (fun i _ => L.length - (intOf i).toNat)
    case atStart => exact ⟨0, Nat.zero_le _, rfl, rD.ext (fun i hi => by simp), Touch.refl _ _⟩
    case round =>
      obtain ⟨j, hj, rfl, hR, hT⟩ := hrel
      have kXr := (hT.block w2.heap.size (by omega) (by simp; omega)).trans kX
      have cX := blk_cell kXr
      have fX := blk_free kXr
      by_cases hlt : j < L.length
      · have hlt' : (j : Int) < L.length := by omega
        obtain ⟨gc, o, rfl, hgc, p1⟩ := HRD.out j hlt
        have p2 : wr.cell? ⟨gc, o + j, none⟩ = some (.int .i64 L[j]) := (World.cell?_of_block (a := ⟨gc, o + j, none⟩) (hT.block gc (by omega) (by simp; omega))).trans p1
        obtain ⟨x0, x1⟩ := HIN.out L[j] (List.getElem_mem hlt)
        have HT1 : Hid (L.take (j + 1) = L.take j ++ [L[j]]) := List.take_succ_eq_append_getElem hlt
        clear p1
        generalize L[j] = x at *
        obtain ⟨q, rfl⟩ := Int.eq_ofNat_of_zero_le x0
        have hq : q < m := by omega
        have hq' : (q : Int) < m := by omega
        obtain ⟨v0, hv0⟩ := hR.there q hq
        have hf := hR.free q
        go_wp2_with fail
        go_region
        go_wp2_with fail
        go_roundw
        case rel =>
          refine ⟨j + 1, by omega, by go_num, RowTo.keep (w := wr.setCell ⟨gD, q, none⟩ (.string ⟨#[]⟩)) ((hR.setAt q (.string ⟨#[]⟩) hq).ext (fun i hi => ?_)) rfl, (hT.set (by simp) _ _).trans ((Touch.ofBelow (Below.refl _ _).drew))⟩
          rw [HT1.out]
          by_cases e : i = q
          · subst e; simp
          · have : (i : Int) ≠ (q : Int) := by omega
            simp [e, this]
        case measure => simp [intOf]; omega
      · obtain rfl : j = L.length := by omega
        rw [List.take_length] at hR
        obtain ⟨gc, o, rfl, hgc, p1⟩ := HRD.out (L.length - 1) (by omega)
        have p2 : wr.cell? ⟨gc, o + (L.length - 1), none⟩ = some (.int .i64 (lastL L)) := by
          rw [World.cell?_of_block (w := W2) (a := ⟨gc, o + (L.length - 1), none⟩) (hT.block gc (by omega) (by simp; omega)), p1]
          simp [lastL, List.getD_eq_getElem?_getD, List.getElem?_eq_getElem (show L.length - 1 < L.length by omega)]
        obtain ⟨x0, x1⟩ : 0 ≤ lastL L ∧ lastL L < m := HIN.out _ (lastL_mem hL1)
        obtain ⟨x, hx⟩ : ∃ x, x = lastL L := ⟨_, rfl⟩
        have HXX : Hid (x = lastL L) := hx
        rw [← hx] at p2 x0 x1
        clear hx p1
        obtain ⟨q, rfl⟩ := Int.eq_ofNat_of_zero_le x0
        have hq : q < m := by omega
        have hq' : (q : Int) < m := by omega
        have rNr := rN.keep (hT.block gN (by omega) (by simp; omega))
        obtain ⟨v0, hv0⟩ := rNr.there q hq
        have hf := rNr.free q
        replace hB := hB.trans (hT.below (by omega) (by simp; omega))
        obtain ⟨kA, kR, Bw, zw⟩ := two_boxes hB
        have cA := blk_cell kA
        have hlm : ((L.length : Int) - 1) = ((L.length - 1 : Nat) : Int) := by omega
        go_wp2_with fail
        go_region
        have rN2 : RowTo gN 2 m (fun i => .int .i64 (gNx nx L fr i)) m ((wr.setCell ⟨gN, q, none⟩ (.int .i64 fr)).drew) := by
          refine RowTo.keep (w := wr.setCell ⟨gN, q, none⟩ (.int .i64 fr)) ?_ rfl
          refine (rNr.setAt q (.int .i64 fr) hq).ext (fun i hi => ?_)
          unfold gNx
          rw [← HXX.out]
          by_cases e : i = q
          · rw [if_pos e, if_pos (by omega)]
          · rw [if_neg e, if_neg (by omega)]
        have rD2 : RowTo gD 9 m (fun i => .string (gDt dt L i)) m ((wr.setCell ⟨gN, q, none⟩ (.int .i64 fr)).drew) := hR.keep (blk_set_ne (fun e => nND e.symm) _)
        have kX2 : ((wr.setCell ⟨gN, q, none⟩ (.int .i64 fr)).drew).heap[w2.heap.size]? = _ := (blk_set_ne (by omega) _).trans kXr
        have hB2 : Below (w.heap.size + 1 + 1) _ ((wr.setCell ⟨gN, q, none⟩ (.int .i64 fr)).drew) := (hB.setCell (p := ⟨gN, q, none⟩) (by show _ ≤ gN; omega) (.int .i64 fr)).drew
        generalize (wr.setCell ⟨gN, q, none⟩ (.int .i64 fr)).drew = W at *
        clear hR rNr hB kA kR cA hv0 hf p2 hT Bw zw kXr cX fX kX
        obtain ⟨kA, kR, Bw, zw⟩ := two_boxes hB2
        have cR := blk_cell kR
        have fR := blk_free kR
        have cX := blk_cell kX2
        have fX := blk_free kX2
        have nX : w2.heap.size ≠ w.heap.size + 1 := by omega
        clear kA kR hB2 kX2
        go_wp2_with fail
        have nN : gN ≠ w.heap.size + 1 := by omega
        have nD : gD ≠ w.heap.size + 1 := by omega
        have mN : gN ≠ w2.heap.size := by omega
        have mD : gD ≠ w2.heap.size := by omega
        refine bodyPost_ret (v := .tuple #[.agg #[.slice (some ⟨gN, 0, none⟩) m cN, .slice (some ⟨gD, 0, none⟩) m cD, .int .i64 h], .bool true]) (by simp [results, Try.results20, go_sem, cR, nX]) rfl ⟨⟨_, _, rfl, ?_, ?_⟩, (((Bw.setCell (by show _ ≤ w2.heap.size; omega) _).setCell (by show _ ≤ _ + 1; omega) _).setCell (by show _ ≤ _ + 1; omega) _).setCell (by show _ ≤ _ + 1; omega) _⟩
        · rw [HLE.out]
          exact VRow.of (rN2.keep (by rw [blk_set_ne nN, blk_set_ne nN, blk_set_ne nN, blk_set_ne mN])) (by omega)
        · rw [HLE.out]
          exact VRow.of (rD2.keep (by rw [blk_set_ne nD, blk_set_ne nD, blk_set_ne nD, blk_set_ne mD])) (by omega)
end Go.Proofs.Ytbdglmikeefnnaa
