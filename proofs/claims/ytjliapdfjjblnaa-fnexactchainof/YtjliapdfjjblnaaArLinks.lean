/- The program's look at an arena's links. -/
import Derived.Test.YtjliapdfjjblnaaArChk
namespace Go.Proofs.Ytjliapdfjjblnaa
open Go.RowKit
set_option linter.unusedVariables false

set_option maxHeartbeats 1000000 in
theorem linksOk_any (g n cap : Nat) (fr : Int) (nx : Nat → Int) (dt : Nat → ByteArray) (w : World) (hn : n ≤ 1000) (hgl : g < w.heap.size) (hc : CellRow w g 0 n nx dt) (b : Bool) (hb : b = true ↔ LinksP (links n nx fr) n) :
    Calls Try.prog 47 #[.slice (some ⟨g, 0, none⟩) n cap, .int .i64 fr] w fun e w' => e = .returned (.bool b) ∧ Below w.heap.size w w' := by
  obtain ⟨i0, hi, hz0, hz1, hz2⟩ := info_parts info2
  have mb := make_bools n (by omega)
  have HB : Hid (b = true ↔ LinksP (links n nx fr) n) := hb
  clear hb
  go_enter Try.func47, Try.ntmps47
  go_wp2_with fail
  go_loopw [5, 15] (fun v i wr => ∃ (k : Nat) (g' cap' : Nat), k ≤ n ∧ i = .int .i64 k ∧ v = .slice (some ⟨g', 0, none⟩) (k + 1) cap' ∧ wr.ownsRow w.heap.size 2 1 (.slice (some ⟨g', 0, none⟩) (k + 1) cap') (k + 1) ((links k nx fr).map (.int .i64)) ∧ Below w.heap.size w wr) (fun _ i _ => n - (intOf i).toNat)
  case atStart =>
    refine ⟨0, w.heap.size, 1, Nat.zero_le _, rfl, rfl, ⟨by simp [links], .inr ⟨_, _, _, rfl, Nat.le_refl _, blk_new w _, by omega, by unfold maxLen; omega, rfl, by simp [links]⟩⟩, (Below.refl _ _).alloc (Nat.le_refl _) _⟩
  case round =>
    obtain ⟨k, g', cap', hk, rfl, rfl, hown, hB⟩ := hrel
    by_cases hlt : k < n
    · have hlt' : (k : Int) < n := by omega
      obtain ⟨q1, q2⟩ := hc k hlt
      rw [Nat.zero_add] at q1 q2
      have p1 := (hB.cell (p := ⟨g, k * 2, none⟩) hgl).trans q1
      have p2 := (hB.cell (p := ⟨g, k * 2 + 1, none⟩) hgl).trans q2
      have zB := hB.size
      clear q1 q2 hc
      go_wp2_with (at_builtin; refine wpList_append_own _ rfl (.tmp 19) (.tmp 22) 22 rfl w.heap.size 2 i0 (.int .i64 0) 1 8 Try.underlying22 hi hz0 hz1 hz2 rfl (by decide) _ (k + 1) _ rfl ((hown.alloc _).alloc _) ⟨wr.heap.size + 1, 0, none⟩ 1 1 [.int .i64 (nx k)] rfl rfl (one_at _ _ _) (one_int _) (by unfold maxLen; omega) (by omega) (by simp; omega) ?_; intro v' w' hown' hgrow' hnil'; obtain ⟨g2, cap2, rfl, o2, B2⟩ := from_next2 hB hown hown' hgrow')
      go_roundw
      case rel =>
        refine ⟨k + 1, g2, cap2, by omega, by go_num, rfl, ?_, B2⟩
        have e : (links (k + 1) nx fr).map (Value.int .i64) = (links k nx fr).map (Value.int .i64) ++ [.int .i64 (nx k)] := by
          simp [links, List.range_succ]
        rw [e]
        exact o2
      case measure => simp [intOf]; omega
    · obtain rfl : k = n := by omega
      clear hc
      have hl := links_len k nx fr
      have hg' := own_lt hown
      have hge := own_ge hown
      have hcell : ∀ j (h : j < (links k nx fr).length), wr.cell? ⟨g', j, none⟩ = some (.int .i64 (links k nx fr)[j]) := by
        intro j h
        rw [own_cell hown j (by omega), List.getElem?_map, List.getElem?_eq_getElem h]; rfl
      clear hown
      generalize links k nx fr = L at *
      go_wp2_with fail
      clear mb
      obtain ⟨wa, rfl⟩ : ∃ wa : World, wa = wr := ⟨_, rfl⟩
      go_loopw [30] (fun i wr' => ∃ j : Nat, j ≤ k + 1 ∧ i = .int .i64 j ∧ RowTo wa.heap.size 4 k (fun i => .bool (decide ((i : Int) ∈ L.take j))) k wr' ∧ (∀ m (h : m < L.length), m < j → L[m] = -1 ∨ 0 ≤ L[m] ∧ L[m] < k ∧ L[m] ∉ L.take m) ∧ Touch [wa.heap.size] (wa.alloc (.cells (zBools k) 4)) wr') (fun i _ => k + 1 - (intOf i).toNat)
      case atStart =>
        refine ⟨0, Nat.zero_le _, rfl, ?_, fun m _ h => by omega, Touch.refl _ _⟩
        exact (zBools_row (blk_new wa _)).ext (fun i hi => by simp)
      case round =>
        obtain ⟨j, hj, rfl, hR, hP0, hT⟩ := hrel
        have HP : Hid (∀ m (h : m < L.length), m < j → L[m] = -1 ∨ 0 ≤ L[m] ∧ L[m] < k ∧ L[m] ∉ L.take m) := hP0
        clear hP0
        have e1 : (wa.alloc (.cells (zBools k) 4)).heap.size = wa.heap.size + 1 := by simp
        have hBB : Below w.heap.size w wr := (hB.alloc hB.size _).trans (hT.below (by rw [e1]; have := hB.size; omega) (by simp; exact hB.size))
        by_cases hjk : j < k + 1
        · have hjL : j < L.length := by omega
          have hjk' : (j : Int) < k + 1 := by omega
          have p1 : wr.cell? ⟨g', j, none⟩ = some (.int .i64 L[j]) := by
            rw [World.cell?_of_block (w := wa) (a := ⟨g', j, none⟩) ((hT.block g' (by rw [e1]; omega) (by simp; omega)).trans (blk_old _ hg'))]
            exact hcell j hjL
          have HT1 : Hid (L.take (j + 1) = L.take j ++ [L[j]]) := List.take_succ_eq_append_getElem hjL
          have HX : Hid (∀ m (h : m < L.length), m < j + 1 → m ≠ j → L[m] = -1 ∨ 0 ≤ L[m] ∧ L[m] < k ∧ L[m] ∉ L.take m) := fun m h h1 h2 => HP.out m h (by omega)
          have HF : Hid (¬ (L[j] = -1 ∨ 0 ≤ L[j] ∧ L[j] < k ∧ L[j] ∉ L.take j) → b = false) := by
            intro hno
            cases b
            · rfl
            · exact absurd (HB.out.1 rfl j hjL) hno
          have HY : Hid (∃ x, x = L[j]) := ⟨_, rfl⟩
          obtain ⟨x, hx⟩ := HY.out
          have HXX : Hid (x = L[j]) := hx
          rw [← hx] at p1
          clear HY hx hcell
          by_cases hb : x = -1
          · have hq : (x == -1) = true := by simp [hb]
            have HQ : Hid (x = -1) := hb
            clear hb
            go_wp2_with fail
            go_roundw
            case rel =>
              refine ⟨j + 1, by omega, by go_num, hR.ext (fun i hi => ?_), fun m h h1 => ?_, hT⟩
              · rw [HT1.out, ← HXX.out, HQ.out]
                have : (i : Int) ≠ -1 := by omega
                simp [this]
              · by_cases e : m = j
                · subst e; left; rw [← HXX.out]; exact HQ.out
                · exact HX.out m h h1 e
            case measure => simp [intOf]; omega
          · have hq : (x == -1) = false := by simp [hb]
            by_cases hin : 0 ≤ x ∧ x < k
            · obtain ⟨m, rfl⟩ := Int.eq_ofNat_of_zero_le hin.1
              have hmk : m < k := by omega
              have hmk' : (m : Int) < k := by omega
              have hr := hR.at m hmk
              have hf := hR.free m
              by_cases hmem : (m : Int) ∈ L.take j
              · rw [decide_eq_true hmem] at hr
                have HFF : Hid (b = false) := HF.out (by rw [← HXX.out]; intro h; rcases h with h | h; exact hb h; exact h.2.2 hmem)
                clear hmem HF hin hb
                go_wp2_with fail
                refine (isCell_any _ _ _ hn).mono ?_
                rintro e w1 ⟨rfl, rfl⟩
                rw [decide_eq_true (show (0 : Int) ≤ (m : Int) ∧ (m : Int) < k by omega)]
                go_wp2_with fail
                go_ret
                exact ⟨ret_bool HFF.out.symm, hBB⟩
              · rw [decide_eq_false hmem] at hr
                have HM : Hid ((m : Int) ∉ L.take j) := hmem
                clear hmem HF hin hb
                go_wp2_with fail
                refine (isCell_any _ _ _ hn).mono ?_
                rintro e w1 ⟨rfl, rfl⟩
                rw [decide_eq_true (show (0 : Int) ≤ (m : Int) ∧ (m : Int) < k by omega)]
                go_wp2_with fail
                go_roundw
                case rel =>
                  refine ⟨j + 1, by omega, by go_num, (hR.setAt m (.bool true) hmk).ext (fun i hi => ?_), fun q h h1 => ?_, hT.set (by simp) m _⟩
                  · rw [HT1.out, ← HXX.out]
                    by_cases e : i = m
                    · subst e; simp
                    · have : (i : Int) ≠ (m : Int) := by omega
                      simp [e, this]
                  · by_cases e : q = j
                    · subst e; right; rw [← HXX.out]; exact ⟨by omega, by omega, HM.out⟩
                    · exact HX.out q h h1 e
                case measure => simp [intOf]; omega
            · have HFF : Hid (b = false) := HF.out (by rw [← HXX.out]; intro h; rcases h with h | h; exact hb h; exact hin ⟨h.1, h.2.1⟩)
              clear HF
              go_wp2_with fail
              refine (isCell_any _ _ _ hn).mono ?_
              rintro e w1 ⟨rfl, rfl⟩
              rw [decide_eq_false hin]
              clear hin hb
              go_wp2_with fail
              go_ret
              exact ⟨ret_bool HFF.out.symm, hBB⟩
        · obtain rfl : j = k + 1 := by omega
          have HT : Hid (b = true) := HB.out.2 (fun m h => HP.out m h (by omega))
          clear hcell
          go_wp2_with fail
          go_ret
          exact ⟨ret_bool HT.out.symm, hBB⟩
end Go.Proofs.Ytjliapdfjjblnaa
