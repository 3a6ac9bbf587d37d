/- Cells taken: the program's contract. -/
import Derived.Test.YtbdglmikeefnnaaArGive
namespace Go.Proofs.Ytbdglmikeefnnaa
open Go.RowKit
set_option linter.unusedVariables false
set_option linter.unusedSimpArgs false

/-- a slice's room is not less than its length -/
def capOk : Value → Prop
  | .slice _ n c => n ≤ c
  | _ => True
theorem own_cap {w : World} {base n : Nat} {t : TypeId} {v : Value} {xs : List Value} (h : w.ownsRow base t 1 v n xs) : capOk v := by
  obtain ⟨hl, h | ⟨g', cap', cur, hv, hg, hblk, hn, hc, hs, ht⟩⟩ := h
  · obtain ⟨rfl, rfl⟩ := h
    exact Nat.le_refl _
  · subst hv
    show n ≤ cap'
    omega
theorem cellsFor_any (n : Int) (w : World) (h0 : 0 ≤ n) (h1 : n ≤ 100000000) :
    Calls Try.prog 30 #[.int .i64 n] w fun e w' => e = .returned (.int .i64 ((n + 9) / 10)) ∧ w = w' := by
  go_enter Try.func30, Try.ntmps30
  go_wp2
  go_ret
  exact ⟨ret_int (by omega), rfl⟩
theorem iFreeC_any (a1 b1 : Option Addr) (n m c1 d1 : Nat) (fr : Int) (nx : Nat → Int) (dt : Nat → ByteArray) (w : World) (hn : n ≤ 1048576) (hm : m ≤ 1048576) (hd : ∀ i, i < m → (dt i).size ≤ maxLen) (h1 : RdRow w a1 n fun i => .int .i64 (nx i)) (h2 : RdRow w b1 m fun i => .string (dt i)) (b : Bool) (hb : b = true ↔ okP n m nx dt fr) :
    Calls Try.prog 14 #[.agg #[.slice a1 n c1, .slice b1 m d1, .int .i64 fr]] w fun e w' => (∃ v, e = .returned v ∧ VRow 2 w' w.heap.size v (freeL b n nx fr).length (intsOf (freeL b n nx fr)) ∧ capOk v) ∧ Below w.heap.size w w' := by
  have HA : Hid (∀ o, Below w.heap.size w (w.alloc o)) := fun o => (Below.refl _ _).alloc (Nat.le_refl _) _
  have e1 : ∀ o, (w.alloc o).heap.size = w.heap.size + 1 := by intro o; simp
  go_enter Try.func14, Try.ntmps14
  go_wp2_with fail
  refine (iOk_any a1 b1 n m c1 d1 fr nx dt _ hn hm hd (h1.up (HA.out _)) (h2.up (HA.out _)) b hb).mono ?_
  rintro e w1 ⟨rfl, hb1⟩
  have hB := first hb1
  have cb := boxed hB
  cases b
  · have B1 := under hB
    go_wp2_with fail
    go_ret
    exact ⟨⟨_, rfl, VRow.nil _ _ _ _, Nat.le_refl _⟩, B1⟩
  · obtain ⟨l1, l2, rfl, hr, r0, r1, hG, hE⟩ := okP_parts (hb.1 rfl)
    have HE : Hid (goN nx m fr = -1) := hE
    have HR : Hid (inRange m nx) := hr
    have cb := boxed hB
    clear hb1 hE hG hr hb hd
    go_wp2_with fail
    refine wp_region_held_drew (S := fun w' => ∀ o, w'.cell? ⟨w.heap.size, o, none⟩ = (#[.slice a1 m c1, .slice b1 m d1, .int .i64 fr] : Array Value)[o]?) (by kernel_rfl) cb (fun hHeld => ?_)
    refine wpAnyH_take (i := 0) (v := ?_) rfl (by kernel_rfl) (by kernel_rfl) (by kernel_rfl) (fun _ _ _ h => h) (Or.inl ⟨by rfl, ?_⟩) (by assumption) ?_
    rotate_left
    · intro wx hSw
      try dsimp only at hSw
      go_simp
      try (with_reducible rfl)
    try simp only [Act.put, List.setIfInBounds_toArray, List.set_cons_zero, List.set_cons_succ]
    refine wpAnyH_take (i := 2) (v := ?_) rfl (by kernel_rfl) (by kernel_rfl) (by kernel_rfl) (fun _ _ _ h => h) (Or.inl ⟨by rfl, ?_⟩) (by assumption) ?_
    rotate_left
    · intro wx hSw
      try dsimp only at hSw
      go_simp
      try (with_reducible rfl)
    try simp only [Act.put, List.setIfInBounds_toArray, List.set_cons_zero, List.set_cons_succ]
    refine wpAnyH_take (i := 3) (v := ?_) rfl (by kernel_rfl) (by kernel_rfl) (by kernel_rfl) (fun _ _ _ h => h) (Or.inl ⟨by rfl, ?_⟩) (by assumption) ?_
    rotate_left
    · intro wx hSw
      try dsimp only at hSw
      go_simp
      try (with_reducible rfl)
    try simp only [Act.put, List.setIfInBounds_toArray, List.set_cons_zero, List.set_cons_succ]
    refine wpAnyH_ready (rs := [1]) (by kernel_rfl) (by simp) ?_
    refine AllReadyH.cons rfl (fun K hK => ?_) AllReadyH.nil
    go_simp
    have hB := hB.drew
    refine (cellsIn_any a1 b1 m c1 d1 fr nx dt _ (by omega) (h1.up (under hB)) (h2.up (under hB))).mono ?_
    rintro e w2 ⟨g, rfl, hg, hC, hb2⟩
    have hB := next hB hb2
    have cb := boxed hB
    clear hb2
    go_wp2_with fail
    refine hK.out _ _ cb (fun hHeld => ?_)
    clear hK K
    try simp only [Act.put, List.setIfInBounds_toArray, List.set_cons_zero, List.set_cons_succ]
    refine wpAnyH_ready (rs := [4]) (by kernel_rfl) (by simp) ?_
    refine AllReadyH.cons rfl (fun K hK => ?_) AllReadyH.nil
    go_simp
    refine (cellsFrom_any g m m fr nx dt _ (by omega) hC.lt hC.cells HR.out r0 r1 HE.out).mono ?_
    rintro e w3 ⟨v, rfl, hown, hb3⟩
    have z2 := upper hB
    have hB := next hB hb3
    have cb := boxed hB
    have B3 := under hB
    have hcap := own_cap hown
    have hv := (own_vrow hown).2.low (by omega : w.heap.size ≤ w2.heap.size)
    clear hb3 hown hC
    go_wp2_with fail
    refine hK.out _ _ cb (fun hHeld => ?_)
    clear hK K
    try simp only [Act.put, List.setIfInBounds_toArray, List.set_cons_zero, List.set_cons_succ]
    refine wpAnyH_ready (rs := [5]) (by kernel_rfl) (by simp) ?_
    refine AllReadyH.cons rfl (fun K hK => ?_) AllReadyH.nil
    go_simp
    refine hK.out _ _ cb (fun hHeld => ?_)
    clear hK K
    try simp only [Act.put, List.setIfInBounds_toArray, List.set_cons_zero, List.set_cons_succ]
    refine wpAnyH_done (by kernel_rfl) ?_ _
    go_wp2_with fail
    go_ret
    exact ⟨⟨_, rfl, hv, hcap⟩, B3⟩


/-- the j-th ten bytes of s -/
def cutS (s : ByteArray) (j : Nat) : ByteArray := s.extract (j * 10) (min (j * 10 + 10) s.size)
theorem cutS_size (s : ByteArray) (j : Nat) : (cutS s j).size ≤ 10 := by
  unfold cutS
  rw [ByteArray.size_extract]
  omega
/-- the texts when the first k cells of L have got theirs -/
def tD (L : List Int) (s : ByteArray) (dt : Nat → ByteArray) : Nat → Nat → ByteArray
  | 0, i => dt i
  | k + 1, i => if (i : Int) = L.getD k 0 then cutS s k else tD L s dt k i
theorem tD_size {L : List Int} {s : ByteArray} {dt : Nat → ByteArray} {i : Nat} (h : (dt i).size ≤ 10) : ∀ k, (tD L s dt k i).size ≤ 10
  | 0 => h
  | k + 1 => by
    rw [tD]
    split
    · exact cutS_size s k
    · exact tD_size h k
def needS (s : ByteArray) : Nat := (s.size + 9) / 10
def takeP (n m : Nat) (nx : Nat → Int) (dt : Nat → ByteArray) (fr : Int) (s : ByteArray) : Prop := okP n m nx dt fr ∧ 1 ≤ s.size ∧ needS s ≤ (walkL nx n fr).length
def tL (L : List Int) (s : ByteArray) : Int := L.getD (needS s - 1) 0
def tNx (nx : Nat → Int) (L : List Int) (s : ByteArray) (i : Nat) : Int := if (i : Int) = tL L s then -1 else nx i
def tFr (b : Bool) (nx : Nat → Int) (L : List Int) (s : ByteArray) : Int := if b then nx (tL L s).toNat else 0
def tHd (b : Bool) (L : List Int) : Int := if b then L.getD 0 0 else 0

set_option maxHeartbeats 1000000 in
theorem iTaken_any (a1 b1 : Option Addr) (n m c1 d1 : Nat) (fr : Int) (s : ByteArray) (nx : Nat → Int) (dt : Nat → ByteArray) (w : World) (hn : n ≤ 1048576) (hm : m ≤ 1048576) (hs : s.size ≤ 1048576) (hd : ∀ i, i < m → (dt i).size ≤ maxLen) (h1 : RdRow w a1 n fun i => .int .i64 (nx i)) (h2 : RdRow w b1 m fun i => .string (dt i)) (b : Bool) (hb : b = true ↔ takeP n m nx dt fr s) :
    Calls Try.prog 9 #[.agg #[.slice a1 n c1, .slice b1 m d1, .int .i64 fr], .string s] w fun e w' => (∃ v1 v2, e = .returned (.tuple #[.agg #[v1, v2, .int .i64 (tFr b nx (walkL nx n fr) s)], .int .i64 (tHd b (walkL nx n fr)), .bool b]) ∧ VRow 2 w' w.heap.size v1 (gK b n) (fun i => .int .i64 (tNx nx (walkL nx n fr) s i)) ∧ VRow 9 w' w.heap.size v2 (gK b n) (fun i => .string (tD (walkL nx n fr) s dt (needS s) i))) ∧ Below w.heap.size w w' := by
  obtain ⟨ok, hok⟩ : ∃ ok : Bool, ok = true ↔ okP n m nx dt fr := by
    by_cases h : okP n m nx dt fr
    · exact ⟨true, by simp [h]⟩
    · exact ⟨false, by simp [h]⟩
  have HOK : Hid (ok = true ↔ okP n m nx dt fr) := hok
  have HB : Hid (b = true ↔ takeP n m nx dt fr s) := hb
  have H1 : Hid (RdRow w a1 n fun i => .int .i64 (nx i)) := h1
  have H2 : Hid (RdRow w b1 m fun i => .string (dt i)) := h2
  have HD : Hid (∀ i, i < m → (dt i).size ≤ maxLen) := hd
  clear hok hb h1 h2 hd
  have HA2 : Hid (∀ A R, Below w.heap.size w ((w.alloc A).alloc R)) := fun A R => ((Below.refl _ _).alloc (Nat.le_refl _) _).alloc (by simp) _
  have hs' : (s.size : Int) ≤ 1048576 := by omega
  go_enter Try.func9, Try.ntmps9
  go_wp2_with fail
  refine (iFreeC_any a1 b1 n m c1 d1 fr nx dt _ hn hm HD.out (H1.out.up (HA2.out _ _)) (H2.out.up (HA2.out _ _)) ok HOK.out).mono ?_
  rintro e w1 ⟨⟨v, rfl, hV, hcap⟩, hb1⟩
  obtain ⟨a, cap, rfl, hrd⟩ := hV.read
  have hB := first2 hb1
  have HVL : Hid (∀ g ∈ bl (.slice a (freeL ok n nx fr).length cap), w.heap.size + 1 + 1 ≤ g) := fun g hg => by have := (hV.lt g hg).2; simp at this; omega
  clear hb1 hV
  obtain ⟨kA, kR, B1, z1⟩ := two_boxes hB
  have cA := blk_cell kA
  have cR := blk_cell kR
  have fR := blk_free kR
  go_wp2_with fail
  refine (cellsFor_any (s.size : Int) _ (by omega) (by omega)).mono ?_
  rintro e w1' ⟨rfl, rfl⟩
  have hne : ((s.size : Int) + 9) / 10 = (needS s : Int) := by unfold needS; omega
  rw [hne]
  have HN0 : Hid (needS s = 0 ↔ s.size = 0) := by show _ ↔ _; unfold needS; omega
  have hnb : needS s ≤ 1048576 := by unfold needS; omega
  clear hne
  cases b
  · have hcase : needS s = 0 ∨ (freeL ok n nx fr).length < needS s := by
      by_cases h0 : needS s = 0
      · exact .inl h0
      · right
        cases ok
        · show 0 < _; omega
        · refine Nat.lt_of_not_le fun hle => ?_
          have := HB.out.2 ⟨HOK.out.1 rfl, by have := HN0.out; omega, hle⟩
          cases this
    have hfin : ∀ W, Below w.heap.size w W → Below w.heap.size w (((W.setCell ⟨w.heap.size + 1, 0, none⟩ (.slice none 0 0)).setCell ⟨w.heap.size + 1, 1, none⟩ (.slice none 0 0)).setCell ⟨w.heap.size + 1, 2, none⟩ (.int .i64 0)) := fun W h => ((h.setCell (by show _ ≤ _ + 1; omega) _).setCell (by show _ ≤ _ + 1; omega) _).setCell (by show _ ≤ _ + 1; omega) _
    have HF : Hid (∀ W, Below w.heap.size w W → Below w.heap.size w (((W.setCell ⟨w.heap.size + 1, 0, none⟩ (.slice none 0 0)).setCell ⟨w.heap.size + 1, 1, none⟩ (.slice none 0 0)).setCell ⟨w.heap.size + 1, 2, none⟩ (.int .i64 0))) := hfin
    clear hfin kA kR hB
    generalize needS s = N at *
    generalize (freeL ok n nx fr).length = LN at *
    rcases hcase with rfl | hlt
    · go_wp2_with fail
      exact bodyPost_ret (v := .tuple #[.agg #[.slice none 0 0, .slice none 0 0, .int .i64 0], .int .i64 0, .bool false]) (by simp [results, Try.results9, go_sem, cR]) rfl ⟨⟨_, _, rfl, VRow.nil _ _ _ _, VRow.nil _ _ _ _⟩, HF.out _ B1⟩
    · have hlt' : (LN : Int) < N := by omega
      have hq : ((N : Int) == 0) = false := by simp; omega
      go_wp2_with fail
      exact bodyPost_ret (v := .tuple #[.agg #[.slice none 0 0, .slice none 0 0, .int .i64 0], .int .i64 0, .bool false]) (by simp [results, Try.results9, go_sem, cR]) rfl ⟨⟨_, _, rfl, VRow.nil _ _ _ _, VRow.nil _ _ _ _⟩, HF.out _ B1⟩
  · obtain ⟨hO, hs1, hN⟩ := HB.out.1 rfl
    obtain rfl : ok = true := HOK.out.2 hO
    obtain ⟨l1, l2, rfl, hr, r0, r1, hG, hE⟩ := okP_parts hO
    have HIN : Hid (∀ x ∈ walkL nx m fr, 0 ≤ x ∧ x < m) := walkL_in hr m fr (by omega) r1
    have HSZ : Hid (∀ i, i < m → (dt i).size ≤ 10) := fun i hi => (hO.2.2.2.2.2 i hi).2
    have hLn := walkL_len nx m fr
    have eL : freeL true m nx fr = walkL nx m fr := rfl
    rw [eL] at hrd hcap HVL
    rw [eL]
    clear hO hr hE hG eL r0 r1
    have hN1 : 1 ≤ needS s := by have := HN0.out; omega
    generalize hL : walkL nx m fr = L at *
    have HLE : Hid (walkL nx m fr = L) := hL
    clear hL
    have hcap' : L.length ≤ cap := hcap
    clear hcap
    obtain ⟨N, HNE⟩ : ∃ N, Hid (needS s = N) := ⟨_, rfl⟩
    rw [HNE.out] at hN hN1 hnb
    have HCUT : Hid (∀ j, j < N → j * 10 < s.size) := fun j hj => by
      have := HNE.out
      unfold needS at this
      omega
    have hN' : (N : Int) ≤ L.length := by omega
    have hq : ((N : Int) == 0) = false := by simp; omega
    rw [HNE.out]
    clear kA kR
    go_wp2_with fail
    refine (cellsIn_any a1 b1 m c1 d1 fr nx dt _ (by omega) (H1.out.up B1) (H2.out.up B1)).mono ?_
    rintro e w2 ⟨g, rfl, hg, hC, hb2⟩
    have HRD : Hid (∀ i (hi : i < L.length), ∃ gc o, a = some ⟨gc, o, none⟩ ∧ gc < w1.heap.size ∧ w2.cell? ⟨gc, o + i, none⟩ = some (.int .i64 L[i])) := fun i hi => by
      obtain ⟨gc, o, e, p⟩ := hrd i hi
      refine ⟨gc, o, e, cellLt p, ((hb2.cell (p := ⟨gc, o + i, none⟩) (cellLt p)).trans p).trans ?_⟩
      simp [intsOf, List.getD_eq_getElem?_getD, List.getElem?_eq_getElem hi]
    have z2 := hb2.size
    replace hB := next2 hB hb2
    obtain ⟨gc, oc, rfl, _⟩ := hrd 0 (by omega)
    have hgc2 : w.heap.size + 1 + 1 ≤ gc := HVL.out gc (by simp [bl])
    clear cA cR fR B1 hb2 hrd HVL
    go_wp2_with fail
    have HG0 : Hid (∀ i (hi : i < L.length), w2.cell? ⟨gc, oc + i, none⟩ = some (.int .i64 L[i]) ∧ gc < w1.heap.size) := fun i hi => by
      obtain ⟨gc', o', e', l', p'⟩ := HRD.out i hi
      cases e'
      exact ⟨p', l'⟩
    have hgc : gc < w1.heap.size := (HG0.out 0 (by omega)).2
    clear HRD
    go_loopw [35] (fun i wr => ∃ j : Nat, j ≤ N ∧ i = .int .i64 j ∧ CRow wr g m nx (tD L s dt j) ∧ Touch [g] w2 wr) (fun i _ => N - (intOf i).toNat)
    case atStart => exact ⟨0, Nat.zero_le _, rfl, hC.ext (fun i hi => ⟨rfl, rfl⟩), Touch.refl _ _⟩
    case round =>
      obtain ⟨j, hj, rfl, hR, hT⟩ := hrel
      by_cases hlt : j < N
      · have hlt' : (j : Int) < N := by omega
        have hjL : j < L.length := by omega
        have p2 : wr.cell? ⟨gc, oc + j, none⟩ = some (.int .i64 L[j]) := (World.cell?_of_block (a := ⟨gc, oc + j, none⟩) (hT.block gc (by omega) (by simp; omega))).trans (HG0.out j hjL).1
        obtain ⟨x0, x1⟩ := HIN.out L[j] (List.getElem_mem hjL)
        have HLJ : Hid (L.getD j 0 = L[j]) := by show _ = _; simp [List.getD_eq_getElem?_getD, List.getElem?_eq_getElem hjL]
        generalize L[j] = x at *
        obtain ⟨q, rfl⟩ := Int.eq_ofNat_of_zero_le x0
        have hq : q < m := by omega
        have hq' : (q : Int) < m := by omega
        obtain ⟨t1, t2, f1, f2⟩ := hR.there q hq
        have hcj := HCUT.out j hlt
        have hcj' : (j : Int) * 10 < s.size := by omega
        go_wp2_with fail
        go_roundw
        case rel =>
          refine ⟨j + 1, by omega, by go_num, (hR.setData q _ hq).ext (fun i hi => ⟨rfl, ?_⟩), hT.set (by simp) _ _⟩
          rw [tD, HLJ.out]
          have hcut : s.extract (j * 10) (min ((j : Int) * 10 + 10) (s.size : Int)).toNat = cutS s j := by
            unfold cutS
            congr 1
            omega
          by_cases e : i = q
          · rw [if_pos e, if_pos (by omega)]
            exact hcut
          · rw [if_neg e, if_neg (by omega)]
        case measure => simp [intOf]; omega
      · obtain rfl : j = N := by omega
        have hjL : j - 1 < L.length := by omega
        have p2 : wr.cell? ⟨gc, oc + (j - 1), none⟩ = some (.int .i64 L[j - 1]) := (World.cell?_of_block (a := ⟨gc, oc + (j - 1), none⟩) (hT.block gc (by omega) (by simp; omega))).trans (HG0.out (j - 1) hjL).1
        have p3 : wr.cell? ⟨gc, oc, none⟩ = some (.int .i64 L[0]) := (World.cell?_of_block (a := ⟨gc, oc, none⟩) (hT.block gc (by omega) (by simp; omega))).trans (HG0.out 0 (by omega)).1
        obtain ⟨x0, x1⟩ := HIN.out L[j - 1] (List.getElem_mem hjL)
        have HTL : Hid (tL L s = L[j - 1]) := by show _ = _; unfold tL; rw [HNE.out]; simp [List.getD_eq_getElem?_getD, List.getElem?_eq_getElem hjL]
        have HHD : Hid (tHd true L = L[0]) := by show _ = _; unfold tHd; simp [List.getD_eq_getElem?_getD, List.getElem?_eq_getElem (show 0 < L.length by omega)]
        generalize L[0] = h0 at *
        generalize L[j - 1] = x at *
        obtain ⟨q, rfl⟩ := Int.eq_ofNat_of_zero_le x0
        have hq : q < m := by omega
        have hq' : (q : Int) < m := by omega
        obtain ⟨t1, t2, f1, f2⟩ := hR.there q hq
        have hlm : ((j : Int) - 1) = ((j - 1 : Nat) : Int) := by omega
        have hjm : j - 1 < L.length := by omega
        have hjm' : ((j - 1 : Nat) : Int) < L.length := by omega
        have hL0 : 0 < L.length := by omega
        replace hB := hB.trans (hT.below (by omega) (by simp; omega))
        go_wp2_with fail
        have hR2 : CRow (wr.setCell ⟨g, q * 2, none⟩ (.int .i64 (-1))) g m (tNx nx L s) (tD L s dt j) := by
          refine (hR.setNext q (-1) hq).ext (fun i hi => ⟨?_, rfl⟩)
          unfold tNx
          rw [HTL.out]
          by_cases e : i = q
          · rw [if_pos e, if_pos (by omega)]
          · rw [if_neg e, if_neg (by omega)]
        have hB2 : Below (w.heap.size + 1 + 1) _ (wr.setCell ⟨g, q * 2, none⟩ (.int .i64 (-1))) := hB.setCell (p := ⟨g, q * 2, none⟩) (by show _ ≤ g; omega) (.int .i64 (-1))
        have p4 : (wr.setCell ⟨g, q * 2, none⟩ (.int .i64 (-1))).cell? ⟨gc, oc, none⟩ = some (.int .i64 h0) := (World.cell?_setCell_far _ _ _ _ (by show g ≠ gc; omega)).trans p3
        have z3 : w1.heap.size ≤ (wr.setCell ⟨g, q * 2, none⟩ (.int .i64 (-1))).heap.size := by have := hT.size; simp [World.setCell]; omega
        generalize wr.setCell ⟨g, q * 2, none⟩ (.int .i64 (-1)) = W at *
        have HTN : Hid (tFr true nx L s = nx q) := by show _ = _; unfold tFr; rw [if_pos rfl, HTL.out]; rfl
        clear hR hB t1 t2 f1 f2 p2 p3 hT HG0
        refine wp_region_held_drew (S := fun w' => w'.cell? ⟨gc, oc, none⟩ = some (.int .i64 h0)) (by kernel_rfl) p4 (fun hHeld => ?_)
        refine wpAnyH_take (i := 0) (v := ?_) rfl (by kernel_rfl) (by kernel_rfl) (by kernel_rfl) (fun _ _ _ h => h) (Or.inl ⟨by rfl, ?_⟩) (by assumption) ?_
        rotate_left
        · intro wx hSw
          try dsimp only at hSw
          go_simp
          try (with_reducible rfl)
        try simp only [Act.put, List.setIfInBounds_toArray, List.set_cons_zero, List.set_cons_succ]
        refine wpAnyH_take (i := 1) (v := ?_) rfl (by kernel_rfl) (by kernel_rfl) (by kernel_rfl) (fun _ _ _ h => h) (Or.inl ⟨by rfl, ?_⟩) (by assumption) ?_
        rotate_left
        · intro wx hSw
          try dsimp only at hSw
          go_simp
          try (with_reducible rfl)
        try simp only [Act.put, List.setIfInBounds_toArray, List.set_cons_zero, List.set_cons_succ]
        refine wpAnyH_take (i := 3) (v := ?_) rfl (by kernel_rfl) (by kernel_rfl) (by kernel_rfl) (fun _ _ _ h => h) (Or.inl ⟨by rfl, ?_⟩) (by assumption) ?_
        rotate_left
        · intro wx hSw
          try dsimp only at hSw
          go_simp
          try (with_reducible rfl)
        try simp only [Act.put, List.setIfInBounds_toArray, List.set_cons_zero, List.set_cons_succ]
        refine wpAnyH_take (i := 4) (v := ?_) rfl (by kernel_rfl) (by kernel_rfl) (by kernel_rfl) (fun _ _ _ h => h) (Or.inl ⟨by rfl, ?_⟩) (by assumption) ?_
        rotate_left
        · intro wx hSw
          try dsimp only at hSw
          go_simp
          try (with_reducible rfl)
        try simp only [Act.put, List.setIfInBounds_toArray, List.set_cons_zero, List.set_cons_succ]
        refine wpAnyH_take (i := 5) (v := ?_) rfl (by kernel_rfl) (by kernel_rfl) (by kernel_rfl) (fun _ _ _ h => h) (Or.inl ⟨by rfl, ?_⟩) (by assumption) ?_
        rotate_left
        · intro wx hSw
          try dsimp only at hSw
          go_simp
          try (with_reducible rfl)
        try simp only [Act.put, List.setIfInBounds_toArray, List.set_cons_zero, List.set_cons_succ]
        refine wpAnyH_ready (rs := [2]) (by kernel_rfl) (by simp) ?_
        refine AllReadyH.cons rfl (fun K hK => ?_) AllReadyH.nil
        go_simp
        have hR3 : CRow W.drew g m (tNx nx L s) (tD L s dt j) := hR2.keep rfl
        refine (arenaOf_any g 0 m m (nx q) (tNx nx L s) (tD L s dt j) _ (by omega) hR3.lt (fun i hi => ?_) hR3.cells).mono ?_
        · exact Nat.le_trans (tD_size (HSZ.out i hi) j) (by omega)
        rintro e w3 ⟨gN, gD, rfl, hN, hD, rN, rD, hb3⟩
        have p5 : w3.cell? ⟨gc, oc, none⟩ = some (.int .i64 h0) := (hb3.cell (p := ⟨gc, oc, none⟩) (cellLt hHeld)).trans hHeld
        have hB3 := next2 hB2.drew hb3
        have z4 : w1.heap.size ≤ W.drew.heap.size := z3
        clear hb3 hR2 hR3 hB2 hHeld p4
        obtain ⟨kA, kR, Bw, zw2⟩ := two_boxes hB3
        have cR := blk_cell kR
        have fR := blk_free kR
        have nN : gN ≠ w.heap.size + 1 := by omega
        have nD : gD ≠ w.heap.size + 1 := by omega
        have nC : w.heap.size + 1 ≠ gc := by omega
        clear kA kR hB3
        go_wp2_with fail
        refine hK.out _ _ p5 (fun hHeld => ?_)
        clear hK K
        try simp only [Act.put, List.setIfInBounds_toArray, List.set_cons_zero, List.set_cons_succ]
        refine wpAnyH_ready (rs := [6]) (by kernel_rfl) (by simp) ?_
        refine AllReadyH.cons rfl (fun K hK => ?_) AllReadyH.nil
        go_simp
        have p6 : (((w3.setCell ⟨w.heap.size + 1, 0, none⟩ (.slice (some ⟨gN, 0, none⟩) m m)).setCell ⟨w.heap.size + 1, 1, none⟩ (.slice (some ⟨gD, 0, none⟩) m m)).setCell ⟨w.heap.size + 1, 2, none⟩ (.int .i64 (nx q))).cell? ⟨gc, oc, none⟩ = some (.int .i64 h0) := by
          rw [World.cell?_setCell_far _ _ _ _ nC, World.cell?_setCell_far _ _ _ _ nC, World.cell?_setCell_far _ _ _ _ nC]
          exact p5
        refine hK.out _ _ p6 (fun hHeld => ?_)
        clear hK K
        try simp only [Act.put, List.setIfInBounds_toArray, List.set_cons_zero, List.set_cons_succ]
        refine wpAnyH_ready (rs := [7]) (by kernel_rfl) (by simp) ?_
        refine AllReadyH.cons rfl (fun K hK => ?_) AllReadyH.nil
        go_simp
        refine hK.out _ _ p6 (fun hHeld => ?_)
        clear hK K
        try simp only [Act.put, List.setIfInBounds_toArray, List.set_cons_zero, List.set_cons_succ]
        refine wpAnyH_ready (rs := [8]) (by kernel_rfl) (by simp) ?_
        refine AllReadyH.cons rfl (fun K hK => ?_) AllReadyH.nil
        go_simp
        refine hK.out _ _ p6 (fun hHeld => ?_)
        clear hK K
        try simp only [Act.put, List.setIfInBounds_toArray, List.set_cons_zero, List.set_cons_succ]
        refine wpAnyH_done (by kernel_rfl) ?_ _
        clear hHeld p6 p5
        go_wp2_with fail
        refine bodyPost_ret (v := .tuple #[.agg #[.slice (some ⟨gN, 0, none⟩) m m, .slice (some ⟨gD, 0, none⟩) m m, .int .i64 (nx q)], .int .i64 h0, .bool true]) (by simp [results, Try.results9, go_sem, cR]) rfl ⟨⟨_, _, by rw [HLE.out, HTN.out, HHD.out], ?_, ?_⟩, ((Bw.setCell (by show _ ≤ _ + 1; omega) _).setCell (by show _ ≤ _ + 1; omega) _).setCell (by show _ ≤ _ + 1; omega) _⟩
        · rw [HLE.out]
          exact VRow.of (rN.keep (by rw [blk_set_ne nN, blk_set_ne nN, blk_set_ne nN])) (by omega)
        · rw [HLE.out, HNE.out]
          exact VRow.of (rD.keep (by rw [blk_set_ne nD, blk_set_ne nD, blk_set_ne nD])) (by omega)
end Go.Proofs.Ytbdglmikeefnnaa
