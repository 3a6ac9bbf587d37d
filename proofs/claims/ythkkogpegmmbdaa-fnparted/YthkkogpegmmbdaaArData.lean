/- The program's look at what an arena's cells hold. -/
import Derived.Test.YthkkogpegmmbdaaArLinks
namespace Go.Proofs.Ythkkogpegmmbdaa
open Go.RowKit
set_option linter.unusedVariables false

theorem walkL_in {n : Nat} {nx : Nat → Int} (hr : inRange n nx) : ∀ (k : Nat) (a : Int), -1 ≤ a → a < n → ∀ x ∈ walkL nx k a, 0 ≤ x ∧ x < n
  | 0, _, _, _, x, hx => by simp [walkL] at hx
  | k + 1, a, h0, h1, x, hx => by
    by_cases ha : a = -1
    · rw [ha, walkL_end] at hx; simp at hx
    · rw [walkL_step _ _ _ ha] at hx
      rcases List.mem_cons.1 hx with rfl | hx
      · omega
      · obtain ⟨r0, r1⟩ := hr a.toNat (by omega)
        exact walkL_in hr k _ r0 r1 x hx
/-- a row that the call owns, as a slice that reads -/
theorem own_rd {w : World} {base n : Nat} {v : Value} {xs : List Int} (h : w.ownsRow base 2 1 v n (xs.map (.int .i64))) : ∃ a cap, v = .slice a n cap ∧ (∀ i (hi : i < xs.length), ∃ g, a = some ⟨g, 0, none⟩ ∧ base ≤ g ∧ w.cell? ⟨g, i, none⟩ = some (.int .i64 xs[i])) := by
  have hlen : xs.length = n := by have := h.1; simpa using this
  rcases own_forms h with ⟨rfl, h0⟩ | ⟨g, cap, rfl⟩
  · subst h0
    exact ⟨_, _, rfl, fun i hi => by omega⟩
  · refine ⟨_, _, rfl, fun i hi => ⟨g, rfl, own_ge h, ?_⟩⟩
    rw [own_cell h i (by omega), List.getElem?_map, List.getElem?_eq_getElem hi]; rfl

theorem toList_beq_nil {s : ByteArray} (h : 0 < s.size) : (s.toList == []) = false := by
  rw [Bool.eq_false_iff]
  intro e
  have e2 := eq_of_beq e
  rw [ByteArray.toList_eq] at e2
  have : s.size = s.data.toList.length := (Array.length_toList (xs := s.data)).symm
  rw [e2, List.length_nil] at this
  omega
theorem below_drewN {B : Nat} {a b : World} (h : Below B a b) (n : Nat) : Below B a (b.drewN n) := ⟨h.os, h.tape, h.output, h.size, h.block⟩

set_option maxHeartbeats 1000000 in
theorem dataOk_any (g n cap : Nat) (fr : Int) (nx : Nat → Int) (dt : Nat → ByteArray) (w : World) (hn : n ≤ 1000) (hgl : g < w.heap.size) (hc : CellRow w g 0 n nx dt) (hd : ∀ i, i < n → (dt i).size ≤ maxLen) (hr : inRange n nx) (h0 : -1 ≤ fr) (h1 : fr < n) (he : goN nx n fr = -1) (b : Bool) (hb : b = true ↔ dataP n nx (fun i => (dt i).size) fr) :
    Calls Try.prog 35 #[.slice (some ⟨g, 0, none⟩) n cap, .int .i64 fr] w fun e w' => e = .returned (.bool b) ∧ Below w.heap.size w w' := by
  have mb := make_bools n (by omega)
  have HB : Hid (b = true ↔ dataP n nx (fun i => (dt i).size) fr) := hb
  have HC : Hid (CellRow w g 0 n nx dt) := hc
  have HWI : Hid (∀ x ∈ walkL nx n fr, 0 ≤ x ∧ x < n) := walkL_in hr n fr h0 h1
  clear hb hc
  have HA : Hid (∀ o, Below w.heap.size w (w.alloc o)) := fun o => (Below.refl _ _).alloc (Nat.le_refl _) _
  go_enter Try.func35, Try.ntmps35
  go_wp2_with fail
  have e1 : ∀ o, (w.alloc o).heap.size = w.heap.size + 1 := by intro o; simp
  refine (cellsFrom_any g n cap fr nx dt _ hn (by rw [e1]; omega) (HC.out.up (HA.out _)) hr h0 h1 he).mono ?_
  rintro e w1 ⟨v, rfl, hown, hb1⟩
  obtain ⟨a, cap1, rfl, hrd⟩ := own_rd hown
  clear hown
  have hrow := (zBools_row (blk_new w (.cells (zBools n) 4))).keep (hb1.block w.heap.size (by rw [e1]; omega))
  have B1 : Below w.heap.size w w1 := (HA.out _).trans (hb1.mono (by rw [e1]; omega))
  have hC1 : Hid (CellRow w1 g 0 n nx dt) := HC.out.up B1
  have hz1 : w.heap.size + 1 ≤ w1.heap.size := by have := hb1.size; rw [e1] at this; exact this
  have hLn := walkL_len nx n fr
  rw [e1] at hrd
  clear hb1 mb he hr HA HC
  have HW : Hid (∀ i : Nat, (i : Int) ∈ walkL nx n fr ↔ (i : Int) ∈ walkL nx n fr) := fun _ => Iff.rfl
  have HD : Hid (b = true ↔ ∀ i, i < n → ((i : Int) ∈ walkL nx n fr ↔ (dt i).size = 0) ∧ (dt i).size ≤ 10) := HB.out
  clear HW HB
  generalize walkL nx n fr = L at *
  go_wp2_with fail
  go_loopw [17] (fun i wr => ∃ j : Nat, j ≤ L.length ∧ i = .int .i64 j ∧ RowTo w.heap.size 4 n (fun i => .bool (decide ((i : Int) ∈ L.take j))) n wr ∧ Touch [w.heap.size] w1 wr) (fun i _ => L.length - (intOf i).toNat)
  case atStart => exact ⟨0, Nat.zero_le _, rfl, hrow.ext (fun i hi => by simp), Touch.refl _ _⟩
  case round =>
    obtain ⟨j, hj, rfl, hR, hT⟩ := hrel
    by_cases hlt : j < L.length
    · obtain ⟨g', rfl, hg', hcell⟩ := hrd j hlt
      have p1 : wr.cell? ⟨g', j, none⟩ = some (.int .i64 L[j]) := by
        rw [World.cell?_of_block (w := w1) (a := ⟨g', j, none⟩) (hT.block g' (cellLt hcell) (by simp; omega))]
        exact hcell
      obtain ⟨x0, x1⟩ := HWI.out L[j] (List.getElem_mem hlt)
      have HT1 : Hid (L.take (j + 1) = L.take j ++ [L[j]]) := List.take_succ_eq_append_getElem hlt
      have hlt' : (j : Int) < L.length := by omega
      clear hrd hcell
      generalize L[j] = x at *
      obtain ⟨m, rfl⟩ := Int.eq_ofNat_of_zero_le x0
      have hm : m < n := by omega
      obtain ⟨v0, hv0⟩ := hR.there m hm
      have hf := hR.free m
      go_wp2_with fail
      go_roundw
      case rel =>
        refine ⟨j + 1, by omega, by go_num, (hR.setAt m (.bool true) hm).ext (fun i hi => ?_), hT.set (by simp) m _⟩
        rw [HT1.out]
        by_cases e : i = m
        · subst e; simp
        · have : (i : Int) ≠ (m : Int) := by omega
          simp [e, this]
      case measure => simp [intOf]; omega
    · obtain rfl : j = L.length := by omega
      rw [List.take_length] at hR
      have hB : Below w.heap.size w wr := B1.trans (hT.below (by omega) (by simp))
      have HC2 : Hid (CellRow wr g 0 n nx dt) := fun i hi => by
        obtain ⟨q1, q2⟩ := hC1.out i hi
        have hbl := hT.block g (by omega) (by simp; omega)
        exact ⟨(World.cell?_of_block (a := ⟨g, _, none⟩) hbl).trans q1, (World.cell?_of_block (a := ⟨g, _, none⟩) hbl).trans q2⟩
      clear hC1 hT B1 hrd
      obtain ⟨wa, rfl⟩ : ∃ wa : World, wa = wr := ⟨_, rfl⟩
      go_wp2_with fail
      go_loopw [27] (fun i wr => ∃ j : Nat, j ≤ n ∧ i = .int .i64 j ∧ (∀ m, m < j → ((m : Int) ∈ L ↔ (dt m).size = 0) ∧ (dt m).size ≤ 10) ∧ Below wa.heap.size wa wr) (fun i _ => n - (intOf i).toNat)
      case atStart => exact ⟨0, Nat.zero_le _, rfl, fun m hm => by omega, Below.refl _ _⟩
      case round =>
        obtain ⟨j, hj', rfl, hP0, hBr⟩ := hrel
        have HP : Hid (∀ m, m < j → ((m : Int) ∈ L ↔ (dt m).size = 0) ∧ (dt m).size ≤ 10) := hP0
        clear hP0
        have hBB : Below w.heap.size w wr := hB.trans (hBr.mono hB.size)
        by_cases hlt2 : j < n
        · have hlt2' : (j : Int) < n := by omega
          obtain ⟨q1, q2⟩ := HC2.out.up hBr j hlt2
          rw [Nat.zero_add] at q1 q2
          have r1 := (hR.keep (hBr.block _ hR.lt)).at j hlt2
          have zB : w.heap.size < wr.heap.size := Nat.lt_of_lt_of_le hR.lt hBr.size
          have gB : g < wr.heap.size := by omega
          have r2 : ∀ o, (wr.alloc o).cell? ⟨w.heap.size, j, none⟩ = some (.bool (decide ((j : Int) ∈ L))) := fun o => (((Below.refl _ _).alloc (Nat.le_refl _) o : Below wr.heap.size wr _).cell (p := ⟨w.heap.size, j, none⟩) zB).trans r1
          have hA2 : ∀ o, Below wr.heap.size wr (wr.alloc o) := fun o => (Below.refl _ _).alloc (Nat.le_refl _) o
          have HN : Hid (¬ (((j : Int) ∈ L ↔ (dt j).size = 0) ∧ (dt j).size ≤ 10) → b = false) := by
            intro hno
            cases b
            · rfl
            · exact absurd (HD.out.1 rfl j hlt2) hno
          have hsz := hd j hlt2
          clear hd
          rcases Nat.eq_zero_or_pos (dt j).size with hs0 | hs0
          · have hs1 : dt j = ⟨#[]⟩ := ByteArray.size_eq_zero_iff.1 hs0
            rw [hs1] at q2
            by_cases hmem : (j : Int) ∈ L
            · rw [decide_eq_true hmem] at r1 r2
              have HO : Hid (((j : Int) ∈ L ↔ (dt j).size = 0) ∧ (dt j).size ≤ 10) := ⟨⟨fun _ => hs0, fun _ => hmem⟩, by omega⟩
              clear HN hs0 hs1 hmem
              go_wp2_with fail
              go_quiet (fail)
              go_wp2_with fail
              go_roundw
              case rel =>
                refine ⟨j + 1, by omega, by go_num, fun m hm => ?_, hBr.trans ((below_drewN (hA2 _) _).mono hBr.size)⟩
                by_cases e : m = j
                · subst e; exact HO.out
                · exact HP.out m (by omega)
              case measure => simp [intOf]; omega
            · rw [decide_eq_false hmem] at r1 r2
              have HF : Hid (b = false) := HN.out (fun h => hmem (h.1.2 hs0))
              clear HN hs0 hs1 hmem
              go_wp2_with fail
              go_quiet (fail)
              go_wp2_with fail
              go_ret
              exact ⟨ret_bool HF.out.symm, hBB.trans (below_drewN ((Below.refl _ _).alloc hBB.size _) _)⟩
          · have hq : ((dt j).toList == []) = false := toList_beq_nil hs0
            by_cases hmem : (j : Int) ∈ L
            · rw [decide_eq_true hmem] at r1 r2
              have HF : Hid (b = false) := HN.out (fun h => by have := h.1.1 hmem; omega)
              clear HN hmem
              generalize dt j = s at *
              go_wp2_with fail
              go_quiet (fail)
              go_wp2_with fail
              go_ret
              exact ⟨ret_bool HF.out.symm, hBB.trans (below_drewN ((Below.refl _ _).alloc hBB.size _) _)⟩
            · rw [decide_eq_false hmem] at r1 r2
              by_cases h10 : (dt j).size ≤ 10
              · have HO : Hid (((j : Int) ∈ L ↔ (dt j).size = 0) ∧ (dt j).size ≤ 10) := ⟨⟨fun h => absurd h hmem, fun h => by omega⟩, h10⟩
                have h10' : ((dt j).size : Int) ≤ 10 := by omega
                clear HN hmem
                go_wp2_with fail
                go_quiet (fail)
                go_wp2_with fail
                go_roundw
                case rel =>
                  refine ⟨j + 1, by omega, by go_num, fun m hm => ?_, hBr.trans ((below_drewN (hA2 _) _).mono hBr.size)⟩
                  by_cases e : m = j
                  · subst e; exact HO.out
                  · exact HP.out m (by omega)
                case measure => simp [intOf]; omega
              · have HF : Hid (b = false) := HN.out (fun h => h10 h.2)
                have h10' : ¬ ((dt j).size : Int) ≤ 10 := by omega
                clear HN hmem
                go_wp2_with fail
                go_quiet (fail)
                go_wp2_with fail
                go_ret
                exact ⟨ret_bool HF.out.symm, hBB.trans (below_drewN ((Below.refl _ _).alloc hBB.size _) _)⟩
        · obtain rfl : j = n := by omega
          have HT : Hid (b = true) := HD.out.2 HP.out
          go_wp2_with fail
          go_ret
          exact ⟨ret_bool HT.out.symm, hBB⟩
end Go.Proofs.Ythkkogpegmmbdaa
