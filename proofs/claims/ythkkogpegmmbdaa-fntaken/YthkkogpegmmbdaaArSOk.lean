/- Whether an arena is right: the specification's contract. -/
import Derived.Test.YthkkogpegmmbdaaArSpec
namespace Go.Proofs.Ythkkogpegmmbdaa
open Go.RowKit
set_option linter.unusedVariables false

theorem links_snoc (k : Nat) (nx : Nat → Int) (fr : Int) : links (k + 1) nx fr = links k nx fr ++ [nx k] := by simp [links, List.range_succ]
theorem linksP_snoc (L : List Int) (x : Int) (n : Nat) : LinksP (L ++ [x]) n ↔ LinksP L n ∧ (x = -1 ∨ 0 ≤ x ∧ x < n ∧ x ∉ L) := by
  constructor
  · intro h
    constructor
    · intro j hj
      have := h j (by simp; omega)
      rw [List.getElem_append_left hj, List.take_append_of_le_length (by omega)] at this
      exact this
    · have := h L.length (by simp)
      simpa using this
  · rintro ⟨h, hx⟩ j hj
    by_cases e : j < L.length
    · rw [List.getElem_append_left e, List.take_append_of_le_length (by omega)]
      exact h j e
    · obtain rfl : j = L.length := by simp at hj; omega
      simpa using hx
theorem linksP_down {n k : Nat} {nx : Nat → Int} {fr : Int} {m : Nat} (h : LinksP (links n nx fr) m) (hk : k ≤ n) : LinksP (links k nx fr) m := by
  induction n with
  | zero => obtain rfl : k = 0 := by omega
            exact h
  | succ n ih =>
    by_cases e : k = n + 1
    · subst e; exact h
    · rw [links_snoc, linksP_snoc] at h
      exact ih h.1 (by omega)

set_option maxHeartbeats 2000000 in
theorem sOk_mid (a1 b1 : Option Addr) (n c1 d1 : Nat) (fr : Int) (nx : Nat → Int) (dt : Nat → ByteArray) (w : World) (l1 : 1 ≤ n) (l2 : n ≤ 60) (hd : ∀ i, i < n → (dt i).size ≤ maxLen) (h1 : RdRow w a1 n fun i => .int .i64 (nx i)) (h2 : RdRow w b1 n fun i => .string (dt i)) (b : Bool) (hb : b = true ↔ LinksP (links n nx fr) n ∧ ringsP n nx ∧ dataP n nx (fun i => (dt i).size) fr) (hf : -1 ≤ fr ∧ fr ≤ (n : Int) - 1) :
    Calls Try.prog 11 #[.agg #[.slice a1 n c1, .slice b1 n d1, .int .i64 fr]] w fun e w' => e = .returned (.bool b) ∧ Below w.heap.size w w' := by
  obtain ⟨i0, hi, hz0, hz1, hz2⟩ := info_parts info2
  have q1 : ¬ ((n : Int) < 1) := by omega
  have q2 : (n : Int) ≤ 60 := by omega
  have HB : Hid (b = true ↔ LinksP (links n nx fr) n ∧ ringsP n nx ∧ dataP n nx (fun i => (dt i).size) fr) := hb
  clear hb
  have e1 : ∀ o, (w.alloc o).heap.size = w.heap.size + 1 := by intro o; simp
  go_enter Try.func11, Try.ntmps11
  go_wp2_with fail
  refine (l1In_any _ _ _ _).mono ?_
  rintro e w' ⟨rfl, rfl⟩
  rw [decide_eq_true (show (1 : Int) ≤ n ∧ (n : Int) ≤ 60 by omega)]
  go_wp2_with fail
  refine (l1In_any _ _ _ _).mono ?_
  rintro e w' ⟨rfl, rfl⟩
  rw [decide_eq_true hf]
  go_wp2_with fail
  go_loopw [4, 5] (fun v i wr => ∃ (k : Nat) (g' cap' : Nat), k ≤ n ∧ i = .int .i64 k ∧ v = .slice (some ⟨g', 0, none⟩) (k + 1) cap' ∧ wr.ownsRow (w.heap.size + 1) 2 1 (.slice (some ⟨g', 0, none⟩) (k + 1) cap') (k + 1) ((links k nx fr).map (.int .i64)) ∧ LinksP (links k nx fr) n ∧ Below (w.heap.size + 1) (w.alloc (.cells #[.slice a1 n c1, .slice b1 n d1, .int .i64 fr] 27)) wr) (fun _ i _ => n - (intOf i).toNat)
  case atStart =>
    refine ⟨0, _, 1, Nat.zero_le _, rfl, rfl, ⟨by simp [links], .inr ⟨_, _, #[.int .i64 fr], rfl, Nat.le_refl _, ?_, by simp, by unfold maxLen; omega, rfl, by simp [links]⟩⟩, ?_, (Below.refl _ _).alloc (by rw [e1]; omega) _⟩
    · have := blk_new (w.alloc (.cells #[.slice a1 n c1, .slice b1 n d1, .int .i64 fr] 27)) (.cells #[.int .i64 fr] 2)
      rw [e1] at this
      exact this
    · intro j hj
      obtain rfl : j = 0 := by simp [links] at hj; omega
      simp [links]
      omega
  case round =>
    obtain ⟨k, g', cap', hk, rfl, rfl, hown, hL0, hB⟩ := hrel
    have HL : Hid (LinksP (links k nx fr) n) := hL0
    clear hL0
    have hz := upper hB
    have hBw := under hB
    have cb := boxed hB
    by_cases hlt : k < n
    · have hlt' : (k : Int) < n := by omega
      obtain ⟨g1, o1, rfl, p1⟩ := h1 k hlt
      have p2 := (hBw.cell (p := ⟨g1, o1 + k, none⟩) (cellLt p1)).trans p1
      dsimp only at p1 p2
      have HN : Hid (¬ (nx k = -1 ∨ 0 ≤ nx k ∧ nx k < n ∧ nx k ∉ links k nx fr) → b = false) := by
        intro hno
        cases b
        · rfl
        · have h := linksP_down (HB.out.1 rfl).1 (show k + 1 ≤ n by omega)
          rw [links_snoc, linksP_snoc] at h
          exact absurd h.2 hno
      have HY : Hid (nx k = -1 ∨ 0 ≤ nx k ∧ nx k < n ∧ nx k ∉ links k nx fr → LinksP (links (k + 1) nx fr) n) := fun h => by
        rw [links_snoc, linksP_snoc]
        exact ⟨HL.out, h⟩
      have HE : Hid ((links (k + 1) nx fr).map (Value.int .i64) = (links k nx fr).map (Value.int .i64) ++ [.int .i64 (nx k)]) := by
        show _ = _
        rw [links_snoc, List.map_append]; rfl
      have hrd : RdInts wr (some ⟨g', 0, none⟩) (links k nx fr) := fun i hi => ⟨g', 0, rfl, by
        rw [Nat.zero_add, own_cell hown i (by have := links_len k nx fr; omega), List.getElem?_map, List.getElem?_eq_getElem hi]; rfl⟩
      have hll := links_len k nx fr
      clear h1
      generalize hx : nx k = x at *
      clear hx
      go_wp2_with fail
      refine (l1In_any _ _ _ _).mono ?_
      rintro e w' ⟨rfl, hw'⟩
      obtain rfl := hw'.symm
      clear hw'
      by_cases hin : -1 ≤ x ∧ x ≤ (n : Int) - 1
      · rw [decide_eq_true hin]
        by_cases hx0 : 0 ≤ x
        · go_wp2_with fail
          have hcall := l2Has_any (some ⟨g', 0, none⟩) cap' (links k nx fr) x wr (by omega) hrd
          rw [hll] at hcall
          refine hcall.mono ?_
          clear hcall
          rintro e w2 ⟨rfl, rfl⟩
          by_cases hmem : x ∈ links k nx fr
          · rw [decide_eq_true hmem]
            have HF : Hid (b = false) := HN.out (fun h => by rcases h with h | h; omega; exact h.2.2 hmem)
            clear hmem hrd
            go_wp2_with fail
            go_ret
            exact ⟨ret_bool HF.out.symm, hBw⟩
          · rw [decide_eq_false hmem]
            have HT : Hid (LinksP (links (k + 1) nx fr) n) := HY.out (.inr ⟨hx0, by omega, hmem⟩)
            clear hmem hrd
            go_wp2_with (at_builtin; refine wpList_append_own _ rfl (.tmp 69) (.tmp 75) 24 rfl (w.heap.size + 1) 2 i0 (.int .i64 0) 1 8 Try.underlying24 hi hz0 hz1 hz2 rfl (by decide) _ (k + 1) _ rfl (hown.alloc _) ⟨wr.heap.size, 0, none⟩ 1 1 [.int .i64 x] rfl rfl (cell_one_new _ _ _) (one_int _) (by unfold maxLen; omega) (by omega) (by simp; omega) ?_; intro v' w' hown' hgrow' hnil'; obtain ⟨g2, cap2, rfl, o2, B2⟩ := from_nextB hz hB hown hown' hgrow')
            go_roundw
            case rel =>
              refine ⟨k + 1, g2, cap2, by omega, by go_num, rfl, ?_, HT.out, B2⟩
              rw [HE.out]
              exact o2
            case measure => simp [intOf]; omega
        · have HT : Hid (LinksP (links (k + 1) nx fr) n) := HY.out (.inl (by omega))
          clear hrd
          go_wp2_with (at_builtin; refine wpList_append_own _ rfl (.tmp 69) (.tmp 75) 24 rfl (w.heap.size + 1) 2 i0 (.int .i64 0) 1 8 Try.underlying24 hi hz0 hz1 hz2 rfl (by decide) _ (k + 1) _ rfl (hown.alloc _) ⟨wr.heap.size, 0, none⟩ 1 1 [.int .i64 x] rfl rfl (cell_one_new _ _ _) (one_int _) (by unfold maxLen; omega) (by omega) (by simp; omega) ?_; intro v' w' hown' hgrow' hnil'; obtain ⟨g2, cap2, rfl, o2, B2⟩ := from_nextB hz hB hown hown' hgrow')
          go_roundw
          case rel =>
            refine ⟨k + 1, g2, cap2, by omega, by go_num, rfl, ?_, HT.out, B2⟩
            rw [HE.out]
            exact o2
          case measure => simp [intOf]; omega
      · rw [decide_eq_false hin]
        have HF : Hid (b = false) := HN.out (fun h => hin (by omega))
        clear hin hrd
        go_wp2_with fail
        go_ret
        exact ⟨ret_bool HF.out.symm, hBw⟩
    · obtain rfl : k = n := by omega
      have HR : Hid (inRange k nx) := (links_range HL.out).1
      clear hown
      obtain ⟨wa, rfl⟩ : ∃ wa : World, wa = wr := ⟨_, rfl⟩
      go_wp2_with fail
      go_loopw [6, 7] (fun v i wr => ∃ (j : Nat) (a' : Option Addr) (cap' : Nat) (F : List Int), j ≤ k ∧ i = .int .i64 j ∧ v = .slice a' F.length cap' ∧ RdInts wr a' F ∧ F.length ≤ k ∧ (∀ q : Nat, q < j → goN nx k q = -1) ∧ (fr < j → F = walkL nx k fr) ∧ (¬ fr < j → F = []) ∧ Below (w.heap.size + 1) (w.alloc (.cells #[.slice a1 k c1, .slice b1 k d1, .int .i64 fr] 27)) wr) (fun _ i _ => k - (intOf i).toNat)
      case atStart =>
        refine ⟨0, _, _, [], Nat.zero_le _, rfl, rfl, fun i hi => by simp at hi, by simp, fun q hq => by omega, fun h => ?_, fun _ => rfl, hB.alloc hz _⟩
        obtain rfl : fr = -1 := by omega
        rw [walkL_end]
      case round =>
        obtain ⟨j, a', cap2, F, hj, rfl, rfl, hrd, hF, hall, hF1, hF2, hB2⟩ := hrel
        have HA : Hid (∀ q : Nat, q < j → goN nx k q = -1) := hall
        have HF1 : Hid (fr < j → F = walkL nx k fr) := hF1
        have HF2 : Hid (¬ fr < j → F = []) := hF2
        clear hall hF1 hF2
        have hz2' := upper hB2
        have hBw2 := under hB2
        have cb2 := boxed hB2
        clear cb hBw hz
        by_cases hlt2 : j < k
        · have hlt2' : (j : Int) < k := by omega
          go_wp2_with fail
          refine (l2Walk_any a1 b1 k c1 d1 k fr j nx wr (by omega) (h1.up (hBw2.mono (Nat.le_refl _))) HR.out (by omega) hlt2').mono ?_
          rintro e w2 ⟨⟨hE, v, rfl, hown2⟩ | ⟨hE, rfl⟩, hb2⟩
          · obtain ⟨a2, cap3, rfl, hrd2⟩ := own_rd hown2
            have B3 := next hB2 hb2
            have cb3 := boxed B3
            have hW := walkL_len nx k j
            have HE : Hid (goN nx k j = -1) := hE
            have HA2 : Hid (∀ q : Nat, q < j + 1 → goN nx k q = -1) := fun q hq => by
              by_cases e : q = j
              · subst e; exact HE.out
              · exact HA.out q (by omega)
            have hrd3 : RdInts w2 a' F := fun i hi => by
              obtain ⟨g3, o3, e3, c3⟩ := hrd i hi
              exact ⟨g3, o3, e3, (hb2.cell (p := ⟨g3, o3 + i, none⟩) (cellLt c3)).trans c3⟩
            clear hE hown2 hrd
            by_cases hq : (j : Int) = fr
            · have hqq : ((j : Int) == fr) = true := by simp [hq]
              have HQ : Hid ((j : Int) = fr) := hq
              clear hq
              go_wp2_with fail
              go_roundw
              case rel =>
                refine ⟨j + 1, a2, cap3, walkL nx k j, by omega, by go_num, rfl, fun i hi => ?_, hW, HA2.out, fun _ => by rw [HQ.out], fun h => absurd (show fr < ((j + 1 : Nat) : Int) by have := HQ.out; omega) h, B3⟩
                obtain ⟨g4, e4, _, c4⟩ := hrd2 i hi
                exact ⟨g4, 0, e4, by rw [Nat.zero_add]; exact c4⟩
              case measure => simp [intOf]; omega
            · have hqq : ((j : Int) == fr) = false := by simp [hq]
              have HQ : Hid (¬ (j : Int) = fr) := hq
              clear hq
              go_wp2_with fail
              go_roundw
              case rel =>
                exact ⟨j + 1, a', cap2, F, by omega, by go_num, rfl, hrd3, hF, HA2.out, fun h => HF1.out (by have := HQ.out; omega), fun h => HF2.out (by omega), B3⟩
              case measure => simp [intOf]; omega
          · have HFF : Hid (b = false) := by
              cases b
              · exact rfl
              · exact absurd ((HB.out.1 rfl).2.1 j hlt2) hE
            have B3 := under (next hB2 hb2)
            clear hE hrd
            go_wp2_with fail
            go_ret
            exact ⟨ret_bool HFF.out.symm, B3⟩
        · obtain rfl : j = k := by omega
          have hFw : F = walkL nx j fr := HF1.out (by omega)
          have HG : Hid (ringsP j nx) := HA.out
          have HD : Hid (b = true ↔ ∀ i, i < j → ((i : Int) ∈ F ↔ (dt i).size = 0) ∧ (dt i).size ≤ 10) := by
            show _ ↔ _
            rw [hFw]
            exact HB.out.trans ⟨fun h => h.2.2, fun h => ⟨HL.out, HG.out, h⟩⟩
          clear hFw HF1 HF2 HA HB h1
          obtain ⟨wb, rfl⟩ : ∃ wb : World, wb = wr := ⟨_, rfl⟩
          go_wp2_with fail
          go_loopw [10] (fun i wr => ∃ q : Nat, q ≤ j ∧ i = .int .i64 q ∧ (∀ m, m < q → ((m : Int) ∈ F ↔ (dt m).size = 0) ∧ (dt m).size ≤ 10) ∧ Same wb wr) (fun i _ => j - (intOf i).toNat)
          case atStart => exact ⟨0, Nat.zero_le _, rfl, fun m hm => by omega, Same.refl _⟩
          case round =>
            obtain ⟨q, hq, rfl, hall, hS⟩ := hrel
            have HP : Hid (∀ m, m < q → ((m : Int) ∈ F ↔ (dt m).size = 0) ∧ (dt m).size ≤ 10) := hall
            clear hall
            have cb3 := fun o => (hS.cell ⟨w.heap.size, o, none⟩).trans (cb2 o)
            have B3 : Below w.heap.size w wr := hBw2.trans (hS.below _)
            by_cases hlt3 : q < j
            · have hlt3' : (q : Int) < j := by omega
              obtain ⟨g1, o1, rfl, p1⟩ := h2 q hlt3
              have p2 := (B3.cell (p := ⟨g1, o1 + q, none⟩) (cellLt p1)).trans p1
              dsimp only at p1 p2
              have hsz := hd q hlt3
              have HN : Hid (¬ (((q : Int) ∈ F ↔ (dt q).size = 0) ∧ (dt q).size ≤ 10) → b = false) := by
                intro hno
                cases b
                · rfl
                · exact absurd (HD.out.1 rfl q hlt3) hno
              have hrd3 : RdInts wr a' F := fun i hi => by
                obtain ⟨g3, o3, e3, c3⟩ := hrd i hi
                exact ⟨g3, o3, e3, (hS.cell ⟨g3, o3 + i, none⟩).trans c3⟩
              clear h2 hd hrd cb2
              go_wp2_with fail
              refine (l2Has_any a' cap2 F q wr (by omega) hrd3).mono ?_
              rintro e w2 ⟨rfl, rfl⟩
              clear hrd3
              by_cases hs0 : (dt q).size = 0
              · have hs1 : (((dt q).size : Int) == 0) = true := by simp [hs0]
                have hs2 : ((dt q).size : Int) ≤ 10 := by omega
                by_cases hmem : (q : Int) ∈ F
                · rw [decide_eq_true hmem]
                  have HO : Hid (((q : Int) ∈ F ↔ (dt q).size = 0) ∧ (dt q).size ≤ 10) := ⟨⟨fun _ => hs0, fun _ => hmem⟩, by omega⟩
                  clear hmem hs0
                  go_wp2_with fail
                  go_roundw
                  case rel =>
                    refine ⟨q + 1, by omega, by go_num, fun m hm => ?_, hS⟩
                    by_cases e : m = q
                    · subst e; exact HO.out
                    · exact HP.out m (by omega)
                  case measure => simp [intOf]; omega
                · rw [decide_eq_false hmem]
                  have HF : Hid (b = false) := HN.out (fun h => hmem (h.1.2 hs0))
                  clear hmem hs0
                  go_wp2_with fail
                  go_ret
                  exact ⟨ret_bool HF.out.symm, B3⟩
              · have hs1 : (((dt q).size : Int) == 0) = false := by rw [beq_eq_false_iff_ne]; omega
                by_cases hmem : (q : Int) ∈ F
                · rw [decide_eq_true hmem]
                  have HF : Hid (b = false) := HN.out (fun h => hs0 (h.1.1 hmem))
                  clear hmem hs0
                  go_wp2_with fail
                  go_ret
                  exact ⟨ret_bool HF.out.symm, B3⟩
                · rw [decide_eq_false hmem]
                  by_cases h10 : (dt q).size ≤ 10
                  · have HO : Hid (((q : Int) ∈ F ↔ (dt q).size = 0) ∧ (dt q).size ≤ 10) := ⟨⟨fun h => absurd h hmem, fun h => absurd h hs0⟩, h10⟩
                    have h10' : ((dt q).size : Int) ≤ 10 := by omega
                    clear hmem hs0
                    go_wp2_with fail
                    go_roundw
                    case rel =>
                      refine ⟨q + 1, by omega, by go_num, fun m hm => ?_, hS⟩
                      by_cases e : m = q
                      · subst e; exact HO.out
                      · exact HP.out m (by omega)
                    case measure => simp [intOf]; omega
                  · have HF : Hid (b = false) := HN.out (fun h => h10 h.2)
                    have h10' : ¬ ((dt q).size : Int) ≤ 10 := by omega
                    clear hmem hs0
                    go_wp2_with fail
                    go_ret
                    exact ⟨ret_bool HF.out.symm, B3⟩
            · obtain rfl : q = j := by omega
              have HT : Hid (b = true) := HD.out.2 HP.out
              clear hrd h2 hd
              go_wp2_with fail
              go_ret
              exact ⟨ret_bool HT.out.symm, B3⟩

theorem sOk_no (a1 b1 : Option Addr) (n m c1 d1 : Nat) (fr : Int) (w : World) (hn : n ≤ 1048576) (hm : m ≤ 1048576) (h : n < 1 ∨ 60 < n ∨ m ≠ n ∨ ¬ (-1 ≤ fr ∧ fr ≤ (n : Int) - 1)) :
    Calls Try.prog 11 #[.agg #[.slice a1 n c1, .slice b1 m d1, .int .i64 fr]] w fun e w' => e = .returned (.bool false) ∧ Below w.heap.size w w' := by
  have hA : Below w.heap.size w (w.alloc (.cells #[.slice a1 n c1, .slice b1 m d1, .int .i64 fr] 27)) := (Below.refl _ _).alloc (Nat.le_refl _) _
  go_enter Try.func11, Try.ntmps11
  go_wp2_with fail
  refine (l1In_any _ _ _ _).mono ?_
  rintro e w' ⟨rfl, rfl⟩
  by_cases q1 : (1 : Int) ≤ n ∧ (n : Int) ≤ 60
  · rw [decide_eq_true q1]
    by_cases q2 : m = n
    · subst q2
      have q3 : ¬ (-1 ≤ fr ∧ fr ≤ (m : Int) - 1) := by omega
      have q4 : ((m : Int) - 1) ≤ 100 := by omega
      clear h
      go_wp2_with fail
      refine (l1In_any _ _ _ _).mono ?_
      rintro e w' ⟨rfl, rfl⟩
      rw [decide_eq_false q3]
      go_wp2_with fail
      go_ret
      exact ⟨rfl, hA⟩
    · have q3 : ((m : Int) != (n : Int)) = true := by simp; omega
      clear h
      go_wp2_with fail
      go_ret
      exact ⟨rfl, hA⟩
  · rw [decide_eq_false q1]
    clear q1 h
    go_wp2_with fail
    go_ret
    exact ⟨rfl, hA⟩

theorem sOk_any (a1 b1 : Option Addr) (n m c1 d1 : Nat) (fr : Int) (nx : Nat → Int) (dt : Nat → ByteArray) (w : World) (hn : n ≤ 1048576) (hm : m ≤ 1048576) (hd : ∀ i, i < m → (dt i).size ≤ maxLen) (h1 : RdRow w a1 n fun i => .int .i64 (nx i)) (h2 : RdRow w b1 m fun i => .string (dt i)) (b : Bool) (hb : b = true ↔ okP n m nx dt fr) :
    Calls Try.prog 11 #[.agg #[.slice a1 n c1, .slice b1 m d1, .int .i64 fr]] w fun e w' => e = .returned (.bool b) ∧ Below w.heap.size w w' := by
  by_cases h : n < 1 ∨ 60 < n ∨ m ≠ n ∨ ¬ (-1 ≤ fr ∧ fr ≤ (n : Int) - 1)
  · have hf : b = false := by
      cases b
      · rfl
      · have := hb.1 rfl
        have hr := (links_range this.2.2.2.1).2
        unfold okP at this
        omega
    subst hf
    exact sOk_no a1 b1 n m c1 d1 fr w hn hm h
  · obtain rfl : m = n := by omega
    exact sOk_mid a1 b1 m c1 d1 fr nx dt w (by omega) (by omega) hd h1 h2 b (hb.trans ⟨fun h => h.2.2.2, fun h => ⟨by omega, by omega, rfl, h⟩⟩) (by omega)
end Go.Proofs.Ythkkogpegmmbdaa
