/- A chain given back: the program's contract. -/
import Derived.Test.YtjliapdfjjblnaaArChain
namespace Go.Proofs.Ytjliapdfjjblnaa
open Go.RowKit
set_option linter.unusedVariables false
set_option linter.unusedSimpArgs false

theorem CRow.setData {w : World} {g n : Nat} {nx : Nat → Int} {dt : Nat → ByteArray} (h : CRow w g n nx dt) (k : Nat) (s : ByteArray) (hk : k < n) : CRow (w.setCell ⟨g, k * 2 + 1, none⟩ (.string s)) g n nx (fun i => if i = k then s else dt i) := by
  obtain ⟨arr, h1, h2, h3⟩ := h
  refine ⟨_, blk_set h1 _, by simpa using h2, fun i hi => ⟨?_, ?_⟩⟩
  · rw [Array.getElem?_setIfInBounds_ne (by omega)]
    exact (h3 i hi).1
  · by_cases e : i = k
    · subst e
      rw [Array.getElem?_setIfInBounds_self_of_lt (by omega)]; simp
    · rw [Array.getElem?_setIfInBounds_ne (by omega)]
      simp only [if_neg e]
      exact (h3 i hi).2
/-- the last of a list -/
def lastL (L : List Int) : Int := L.getD (L.length - 1) 0
theorem lastL_mem {L : List Int} (h : 1 ≤ L.length) : lastL L ∈ L := by
  have e : lastL L = L[L.length - 1] := by
    unfold lastL
    rw [List.getD_eq_getElem?_getD, List.getElem?_eq_getElem (by omega)]; rfl
  rw [e]
  exact List.getElem_mem _
def gNx (nx : Nat → Int) (L : List Int) (fr : Int) (i : Nat) : Int := if (i : Int) = lastL L then fr else nx i
def gDt (dt : Nat → ByteArray) (L : List Int) (i : Nat) : ByteArray := if (i : Int) ∈ L then ⟨#[]⟩ else dt i
def gK (b : Bool) (n : Nat) : Nat := if b then n else 0
def gFr (b : Bool) (h : Int) : Int := if b then h else 0
theorem chain_pos {n : Nat} {nx : Nat → Int} {h : Int} (h0 : 0 ≤ h) (hn : 1 ≤ n) : 1 ≤ (freeL true n nx h).length := by
  obtain ⟨k, rfl⟩ : ∃ k, n = k + 1 := ⟨n - 1, by omega⟩
  unfold freeL
  rw [if_pos rfl, walkL_step _ _ _ (by omega)]
  simp

theorem two_boxes {w wi : World} {A R : Obj} (h : Below (w.heap.size + 1 + 1) ((w.alloc A).alloc R) wi) :
    wi.heap[w.heap.size]? = some A ∧ wi.heap[w.heap.size + 1]? = some R ∧ Below w.heap.size w wi ∧ w.heap.size + 1 + 1 ≤ wi.heap.size := by
  have e1 : (w.alloc A).heap.size = w.heap.size + 1 := by simp
  have e2 : ((w.alloc A).alloc R).heap.size = w.heap.size + 1 + 1 := by simp
  have b1 := blk_new w A
  have b2 := blk_new (w.alloc A) R
  rw [e1] at b2
  refine ⟨?_, ?_, ?_, ?_⟩
  · rw [h.block _ (by omega), blk_old _ (by rw [e1]; omega)]; exact b1
  · rw [h.block _ (by omega)]; exact b2
  · exact (((Below.refl _ _).alloc (Nat.le_refl _) _).alloc (by rw [e1]; omega) _).trans (h.mono (by omega))
  · have := h.size
    omega
theorem first2 {w wi : World} {A R : Obj} (h : Below ((w.alloc A).alloc R).heap.size ((w.alloc A).alloc R) wi) : Below (w.heap.size + 1 + 1) ((w.alloc A).alloc R) wi := h.mono (by simp)
theorem next2 {w wi wj : World} {A R : Obj} (h : Below (w.heap.size + 1 + 1) ((w.alloc A).alloc R) wi) (k : Below wi.heap.size wi wj) : Below (w.heap.size + 1 + 1) ((w.alloc A).alloc R) wj := h.trans (k.mono (two_boxes h).2.2.2)

set_option maxHeartbeats 1000000 in
theorem iGiven_any (a1 b1 : Option Addr) (n m c1 d1 : Nat) (fr h : Int) (nx : Nat → Int) (dt : Nat → ByteArray) (w : World) (hn : n ≤ 1048576) (hm : m ≤ 1048576) (hd : ∀ i, i < m → (dt i).size ≤ maxLen) (h1 : RdRow w a1 n fun i => .int .i64 (nx i)) (h2 : RdRow w b1 m fun i => .string (dt i)) (b : Bool) (hb : b = true ↔ chainP n m nx dt fr h) :
    Calls Try.prog 25 #[.agg #[.slice a1 n c1, .slice b1 m d1, .int .i64 fr], .int .i64 h] w fun e w' => (∃ v1 v2, e = .returned (.tuple #[.agg #[v1, v2, .int .i64 (gFr b h)], .bool b]) ∧ VRow 2 w' w.heap.size v1 (gK b n) (fun i => .int .i64 (gNx nx (freeL b n nx h) fr i)) ∧ VRow 9 w' w.heap.size v2 (gK b n) (fun i => .string (gDt dt (freeL b n nx h) i))) ∧ Below w.heap.size w w' := by
  have HA : Hid (∀ o, Below w.heap.size w (w.alloc o)) := fun o => (Below.refl _ _).alloc (Nat.le_refl _) _
  have HB : Hid (b = true ↔ chainP n m nx dt fr h) := hb
  have H1 : Hid (RdRow w a1 n fun i => .int .i64 (nx i)) := h1
  have H2 : Hid (RdRow w b1 m fun i => .string (dt i)) := h2
  go_enter Try.func25, Try.ntmps25
  go_wp2_with fail
  have HA2 : Hid (∀ A R, Below w.heap.size w ((w.alloc A).alloc R)) := fun A R => ((Below.refl _ _).alloc (Nat.le_refl _) _).alloc (by simp) _
  refine (iChain_any a1 b1 n m c1 d1 fr h nx dt _ hn hm hd (h1.up (HA2.out _ _)) (h2.up (HA2.out _ _)) b hb).mono ?_
  rintro e w1 ⟨⟨v, rfl, hV⟩, hb1⟩
  clear h1 h2 hd hb
  obtain ⟨a, cap, rfl, hrd⟩ := hV.read
  have hB := first2 hb1
  clear hb1 hV
  obtain ⟨kA, kR, B1, z1⟩ := two_boxes hB
  have cA := blk_cell kA
  have cR := blk_cell kR
  have fR := blk_free kR
  cases b
  · clear kA kR hB
    go_wp2_with fail
    exact bodyPost_ret (v := .tuple #[.agg #[.slice none 0 0, .slice none 0 0, .int .i64 0], .bool false]) (by simp [results, Try.results25, go_sem, cR]) rfl ⟨⟨_, _, rfl, VRow.nil _ _ _ _, VRow.nil _ _ _ _⟩, ((B1.setCell (by show _ ≤ _ + 1; omega) _).setCell (by show _ ≤ _ + 1; omega) _).setCell (by show _ ≤ _ + 1; omega) _⟩
  · obtain ⟨hO, hH⟩ := HB.out.1 rfl
    obtain ⟨l1, l2, rfl, hr, r0, r1, hG, hE⟩ := okP_parts hO
    have HIN : Hid (∀ x ∈ freeL true m nx h, 0 ≤ x ∧ x < m) := walkL_in hr m h (by have := hH.1; omega) hH.2.1
    have HSZ : Hid (∀ i, i < m → (dt i).size ≤ 10) := fun i hi => (hO.2.2.2.2.2 i hi).2
    have hLn := freeL_len true m nx h
    have hL1 := chain_pos (nx := nx) hH.1 l1
    clear hO hH hr hE hG
    generalize hL : freeL true m nx h = L at *
    have HLE : Hid (freeL true m nx h = L) := hL
    clear hL
    go_wp2_with fail
    refine (cellsIn_any a1 b1 m c1 d1 fr nx dt _ (by omega) (H1.out.up B1) (H2.out.up B1)).mono ?_
    rintro e w2 ⟨g, rfl, hg, hC, hb2⟩
    have HRD : Hid (∀ i (hi : i < L.length), ∃ gc o, a = some ⟨gc, o, none⟩ ∧ gc < w1.heap.size ∧ w2.cell? ⟨gc, o + i, none⟩ = some (.int .i64 L[i])) := fun i hi => by
      obtain ⟨gc, o, e, p⟩ := hrd i hi
      refine ⟨gc, o, e, cellLt p, ((hb2.cell (p := ⟨gc, o + i, none⟩) (cellLt p)).trans p).trans ?_⟩
      simp [intsOf, List.getD_eq_getElem?_getD, List.getElem?_eq_getElem hi]
    have z2 := hb2.size
    replace hB := next2 hB hb2
    clear kA kR cA cR fR B1 hb2 hrd
    go_wp2_with fail
    go_loopw [24] (fun i wr => ∃ j : Nat, j ≤ L.length ∧ i = .int .i64 j ∧ CRow wr g m nx (fun i => if (i : Int) ∈ L.take j then ⟨#[]⟩ else dt i) ∧ Touch [g] w2 wr) (fun i _ => L.length - (intOf i).toNat)
    case atStart => exact ⟨0, Nat.zero_le _, rfl, hC.ext (fun i hi => ⟨rfl, by simp⟩), Touch.refl _ _⟩
    case round =>
      obtain ⟨j, hj, rfl, hR, hT⟩ := hrel
      by_cases hlt : j < L.length
      · have hlt' : (j : Int) < L.length := by omega
        obtain ⟨gc, o, rfl, hgc, p1⟩ := HRD.out j hlt
        have p2 : wr.cell? ⟨gc, o + j, none⟩ = some (.int .i64 L[j]) := (World.cell?_of_block (a := ⟨gc, o + j, none⟩) (hT.block gc (by omega) (by simp; omega))).trans p1
        obtain ⟨x0, x1⟩ := HIN.out L[j] (List.getElem_mem hlt)
        have HT1 : Hid (L.take (j + 1) = L.take j ++ [L[j]]) := List.take_succ_eq_append_getElem hlt
        clear p1
        generalize L[j] = x at *
        obtain ⟨q, rfl⟩ := Int.eq_ofNat_of_zero_le x0
        have hq : q < m := by omega
        have hq' : (q : Int) < m := by omega
        obtain ⟨t1, t2, f1, f2⟩ := hR.there q hq
        go_wp2_with fail
        go_roundw
        case rel =>
          refine ⟨j + 1, by omega, by go_num, (hR.setData q ⟨#[]⟩ hq).ext (fun i hi => ⟨rfl, ?_⟩), hT.set (by simp) _ _⟩
          rw [HT1.out]
          by_cases e : i = q
          · subst e; simp
          · have : (i : Int) ≠ (q : Int) := by omega
            simp [e, this]
        case measure => simp [intOf]; omega
      · obtain rfl : j = L.length := by omega
        rw [List.take_length] at hR
        obtain ⟨gc, o, rfl, hgc, p1⟩ := HRD.out (L.length - 1) (by omega)
        have p2 : wr.cell? ⟨gc, o + (L.length - 1), none⟩ = some (.int .i64 (lastL L)) := by
          rw [World.cell?_of_block (w := w2) (a := ⟨gc, o + (L.length - 1), none⟩) (hT.block gc (by omega) (by simp; omega)), p1]
          simp [lastL, List.getD_eq_getElem?_getD, List.getElem?_eq_getElem (show L.length - 1 < L.length by omega)]
        obtain ⟨x0, x1⟩ : 0 ≤ lastL L ∧ lastL L < m := HIN.out _ (lastL_mem hL1)
        obtain ⟨x, hx⟩ : ∃ x, x = lastL L := ⟨_, rfl⟩
        have HXX : Hid (x = lastL L) := hx
        rw [← hx] at p2 x0 x1
        clear hx p1
        obtain ⟨q, rfl⟩ := Int.eq_ofNat_of_zero_le x0
        have hq : q < m := by omega
        have hq' : (q : Int) < m := by omega
        obtain ⟨t1, t2, f1, f2⟩ := hR.there q hq
        replace hB := hB.trans (hT.below (by omega) (by simp; omega))
        obtain ⟨kA, kR, Bw, zw⟩ := two_boxes hB
        have cA := blk_cell kA
        have hlm : ((L.length : Int) - 1) = ((L.length - 1 : Nat) : Int) := by omega
        go_wp2_with fail
        go_region
        have hR2 : CRow ((wr.setCell ⟨g, q * 2, none⟩ (.int .i64 fr)).drew) g m (gNx nx L fr) (gDt dt L) := by
          refine CRow.keep (w := wr.setCell ⟨g, q * 2, none⟩ (.int .i64 fr)) ?_ rfl
          refine (hR.setNext q fr hq).ext (fun i hi => ⟨?_, rfl⟩)
          unfold gNx
          rw [← HXX.out]
          by_cases e : i = q
          · rw [if_pos e, if_pos (by omega)]
          · rw [if_neg e, if_neg (by omega)]
        have hB2 : Below (w.heap.size + 1 + 1) _ ((wr.setCell ⟨g, q * 2, none⟩ (.int .i64 fr)).drew) := (hB.setCell (p := ⟨g, q * 2, none⟩) (by show _ ≤ g; omega) (.int .i64 fr)).drew
        generalize (wr.setCell ⟨g, q * 2, none⟩ (.int .i64 fr)).drew = W at *
        clear hR hB kA kR cA t1 t2 f1 f2 p2 hT Bw zw
        obtain ⟨kA, kR, Bw, zw⟩ := two_boxes hB2
        go_wp2_with fail
        refine (arenaOf_any g 0 m m h (gNx nx L fr) (gDt dt L) _ (by omega) hR2.lt (fun i hi => ?_) hR2.cells).mono ?_
        · unfold gDt
          split
          · exact Nat.zero_le _
          · have := HSZ.out i hi; omega
        rintro e w3 ⟨gN, gD, rfl, hN, hD, rN, rD, hb3⟩
        replace hB2 := next2 hB2 hb3
        clear kA kR Bw hb3 hR2
        obtain ⟨kA, kR, Bw, zw2⟩ := two_boxes hB2
        have cR := blk_cell kR
        have fR := blk_free kR
        have nN : gN ≠ w.heap.size + 1 := by omega
        have nD : gD ≠ w.heap.size + 1 := by omega
        clear kA kR hB2
        go_wp2_with fail
        refine bodyPost_ret (v := .tuple #[.agg #[.slice (some ⟨gN, 0, none⟩) m m, .slice (some ⟨gD, 0, none⟩) m m, .int .i64 h], .bool true]) (by simp [results, Try.results25, go_sem, cR]) rfl ⟨⟨_, _, rfl, ?_, ?_⟩, ((Bw.setCell (by show _ ≤ _ + 1; omega) _).setCell (by show _ ≤ _ + 1; omega) _).setCell (by show _ ≤ _ + 1; omega) _⟩
        · rw [HLE.out]
          exact VRow.of (rN.keep (by rw [blk_set_ne nN, blk_set_ne nN, blk_set_ne nN])) (by omega)
        · rw [HLE.out]
          exact VRow.of (rD.keep (by rw [blk_set_ne nD, blk_set_ne nD, blk_set_ne nD])) (by omega)
end Go.Proofs.Ytjliapdfjjblnaa
