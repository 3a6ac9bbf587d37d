/- A table that learns: the program's answer. -/
import Derived.Test.YtfpomccgmligbaaLrnM
namespace Go.Proofs.Ytfpomccgmligbaa
open Go.RowKit
set_option linter.unusedVariables false
set_option linter.unusedSimpArgs false

set_option maxHeartbeats 1000000 in
theorem oldest_any (a : Option Addr) (n cap : Nat) (f : Nat → Ent) (w : World) (h1 : 1 ≤ n) (h8 : n ≤ 8) (h : RdEnt w a n f) :
    Calls Try.prog 23 #[.slice a n cap] w fun e w' => e = .returned (.int .i64 (oldE (entsL n f)).m) ∧ Below w.heap.size w w' := by
  have HR : Hid (RdEnt w a n f) := h
  obtain ⟨g0, o0, rfl, c1, c2, c3⟩ := h 0 (by omega)
  simp only [Nat.zero_mul, Nat.add_zero] at c1 c2 c3
  have hn0 : (0 : Int) < n := by omega
  clear h
  go_enter Try.func23, Try.ntmps23
  go_wp2_with fail
  clear c1 c2 c3
  go_loopw [11] (fun i wr => ∃ (k : Nat) (b : Ent), k ≤ n ∧ i = .int .i64 k ∧ ((k = 0 ∧ b = f 0) ∨ bestO (entsL k f) = some b) ∧ wr.heap[w.heap.size]? = some (.cells #[.int .i64 b.m, .int .i64 b.p, .int .i64 b.t] 31 (0, 0)) ∧ Below w.heap.size w wr) (fun i _ => n - (intOf i).toNat)
  case atStart => exact ⟨0, f 0, Nat.zero_le _, rfl, .inl ⟨rfl, rfl⟩, blk_new w _, (Below.refl _ _).alloc (Nat.le_refl _) _⟩
  case round =>
    obtain ⟨k, b, hk, rfl, hb, hbox, hB⟩ := hrel
    have HB : Hid ((k = 0 ∧ b = f 0) ∨ bestO (entsL k f) = some b) := hb
    clear hb
    by_cases hlt : k < n
    · have hlt' : (k : Int) < n := by omega
      obtain ⟨g, o, eg, c1, c2, c3⟩ := (HR.out.up hB) k hlt
      cases eg
      have HN : Hid (bestO (entsL (k + 1) f) = some (if (f k).t < b.t then f k else b)) := by
        rw [Hid, entsL_succ, bestO_snoc]
        rcases HB.out with ⟨rfl, rfl⟩ | hb
        · simp [entsL, bestO, pickO]
        · rw [hb]; rfl
      generalize f k = x at *
      obtain ⟨m, p, t⟩ := x
      obtain ⟨bm, bp, bt⟩ := b
      dsimp only at c1 c2 c3 hbox HN
      have hz := hB.size
      have hbl := blk_lt hbox
      have kX := (blk_old (.cells #[.int .i64 m, .int .i64 p, .int .i64 t] 31) hbl).trans hbox
      have cX0 : wr.cell? ⟨w.heap.size, 0, none⟩ = some (.int .i64 bm) := blk_cell hbox 0
      have cX1 : wr.cell? ⟨w.heap.size, 1, none⟩ = some (.int .i64 bp) := blk_cell hbox 1
      have cX2 : wr.cell? ⟨w.heap.size, 2, none⟩ = some (.int .i64 bt) := blk_cell hbox 2
      have fX0 := blk_free hbox 0
      have fX1 := blk_free hbox 1
      have fX2 := blk_free hbox 2
      have cN := blk_cell (blk_new wr (.cells #[.int .i64 m, .int .i64 p, .int .i64 t] 31))
      have HA : Hid (∀ ob, Below w.heap.size w (wr.alloc ob)) := fun ob => hB.alloc hz _
      by_cases hs : t < bt
      · have HN2 : Hid (bestO (entsL (k + 1) f) = some ⟨m, p, t⟩) := by rw [Hid, HN.out, if_pos hs]
        have s1 := blk_set (i := 0) hbox (.int .i64 m)
        have s2 := blk_set (i := 1) s1 (.int .i64 p)
        have s3 := blk_set (i := 2) s2 (.int .i64 t)
        have s4 := (blk_old (.cells #[.int .i64 m, .int .i64 p, .int .i64 t] 31) (blk_lt s3)).trans s3
        have HX : Hid (((((wr.setCell ⟨w.heap.size, 0, none⟩ (.int .i64 m)).setCell ⟨w.heap.size, 1, none⟩ (.int .i64 p)).setCell ⟨w.heap.size, 2, none⟩ (.int .i64 t)).alloc (.cells #[.int .i64 m, .int .i64 p, .int .i64 t] 31)).heap[w.heap.size]? = some (.cells #[.int .i64 m, .int .i64 p, .int .i64 t] 31 (0, 0))) := s4
        have B4 := ((hB.setCell (p := ⟨w.heap.size, 0, none⟩) (Nat.le_refl _) (.int .i64 m)).setCell (p := ⟨w.heap.size, 1, none⟩) (Nat.le_refl _) (.int .i64 p)).setCell (p := ⟨w.heap.size, 2, none⟩) (Nat.le_refl _) (.int .i64 t)
        have HB4 : Hid (Below w.heap.size w ((((wr.setCell ⟨w.heap.size, 0, none⟩ (.int .i64 m)).setCell ⟨w.heap.size, 1, none⟩ (.int .i64 p)).setCell ⟨w.heap.size, 2, none⟩ (.int .i64 t)).alloc (.cells #[.int .i64 m, .int .i64 p, .int .i64 t] 31))) := B4.alloc B4.size _
        clear s4 B4
        clear HN s1 s2 s3 kX hbox
        go_wp2_with fail
        go_roundw
        case rel => exact ⟨k + 1, ⟨m, p, t⟩, by omega, by go_num, .inr HN2.out, HX.out, HB4.out⟩
        case measure => simp [intOf]; omega
      · have HN2 : Hid (bestO (entsL (k + 1) f) = some ⟨bm, bp, bt⟩) := by rw [Hid, HN.out, if_neg hs]
        have HX : Hid ((wr.alloc (.cells #[.int .i64 m, .int .i64 p, .int .i64 t] 31)).heap[w.heap.size]? = some (.cells #[.int .i64 bm, .int .i64 bp, .int .i64 bt] 31 (0, 0))) := kX
        clear HN kX hbox
        go_wp2_with fail
        go_roundw
        case rel => exact ⟨k + 1, ⟨bm, bp, bt⟩, by omega, by go_num, .inr HN2.out, HX.out, HA.out _⟩
        case measure => simp [intOf]; omega
    · obtain rfl : k = n := by omega
      have HE : Hid ((oldE (entsL k f)).m = b.m) := by
        rcases HB.out with ⟨h0, _⟩ | hb
        · omega
        · rw [Hid, oldE, hb]; rfl
      have cX := blk_cell hbox
      go_wp2_with fail
      go_ret
      exact ⟨ret_int HE.out.symm, hB⟩

theorem entsL_getD (L : List Ent) : entsL L.length (fun i => L.getD i default) = L := by
  apply List.ext_getElem?
  intro i
  by_cases h : i < L.length
  · simp [entsL, h]
  · simp [entsL, h]
theorem boxed2 {w w1 w2 : World} {C : Array Value} {t : TypeId} (hb : Below w1.heap.size w1 w2) (hk : w1.heap[w.heap.size]? = some (.cells C t (0, 0))) : w2.heap[w.heap.size]? = some (.cells C t (0, 0)) := (hb.block _ (blk_lt hk)).trans hk
theorem turn_blk {w w' : World} {b j : Nat} (h : w.mapTurned w' b) (hj : j < w.heap.size) (hne : j ≠ b) : w'.heap[j]? = w.heap[j]? := h.grown.block j hj (fun e => hne (by cases e; rfl))

set_option maxHeartbeats 2000000 in
theorem iLearned_any (a : Option Addr) (n cap : Nat) (f : Nat → Ent) (m p t : Int) (A : List Ent) (b : Bool) (w : World) (hn : n ≤ maxLen) (h : RdEnt w a n f) (k0 : -9223372036854775808 ≤ m) (k1 : m ≤ 9223372036854775807) (hA : LearnR n f ⟨m, p, t⟩ A b) :
    Calls Try.prog 7 #[.slice a n cap, .int .i64 m, .int .i64 p, .int .i64 t] w fun e w' => ∃ v, e = .returned (.tuple #[v, .bool b]) ∧ OwnL w' w.heap.size v A ∧ Below w.heap.size w w' := by
  have HR : Hid (RdEnt w a n f) := h
  have HP : Hid (LearnR n f ⟨m, p, t⟩ A b) := hA
  obtain ⟨ok, hok⟩ := tab_dec n f
  have HO : Hid (ok = true ↔ tabOk n f) := hok
  clear h hA hok
  have BX : Below w.heap.size w (w.alloc (.cells #[.int .i64 m, .int .i64 p, .int .i64 t] 31)) := (Below.refl _ _).alloc (Nat.le_refl _) _
  have kX := blk_new w (.cells #[.int .i64 m, .int .i64 p, .int .i64 t] 31)
  go_enter Try.func7, Try.ntmps7
  go_wp2_with fail
  refine (iTableOk_any a n cap f _ hn (HR.out.up BX) ok HO.out).mono ?_
  rintro e w1 ⟨rfl, hb1⟩
  have B1 := BX.trans (hb1.mono BX.size)
  have kX1 := boxed2 hb1 kX
  have cX := blk_cell kX1
  clear hb1 BX kX
  cases ok
  · have HF : Hid (A = [] ∧ b = false) := HP.out.bad (fun hh => absurd (HO.out.2 hh.1) (by simp))
    go_wp2_with fail
    exact bodyPost_ret (v := .tuple #[.slice none 0 0, .bool false]) (by simp [results, Try.results7, go_sem]) rfl ⟨_, by rw [HF.out.2], by rw [HF.out.1]; exact OwnL.nil _ _, B1⟩
  have HT : Hid (tabOk n f) := HO.out.1 rfl
  go_wp2_with fail
  refine (entryOk_any _ _ _ _).mono ?_
  rintro e w2 ⟨rfl, hb2⟩
  have B2 := B1.trans (hb2.mono B1.size)
  have kX2 := boxed2 hb2 kX1
  have cX := blk_cell kX2
  clear hb2 B1 kX1
  by_cases hx : entOk ⟨m, p, t⟩
  rotate_left
  · have HF : Hid (A = [] ∧ b = false) := HP.out.bad (fun hh => hx hh.2)
    rw [decide_eq_false hx]
    clear hx
    go_wp2_with fail
    exact bodyPost_ret (v := .tuple #[.slice none 0 0, .bool false]) (by simp [results, Try.results7, go_sem]) rfl ⟨_, by rw [HF.out.2], by rw [HF.out.1]; exact OwnL.nil _ _, B2⟩
  have HX : Hid (entOk ⟨m, p, t⟩) := hx
  have HA : Hid (A = learnedL (entsL n f) ⟨m, p, t⟩ ∧ b = true) := HP.out.good HT.out hx
  rw [decide_eq_true hx]
  clear hx
  go_wp2_with fail
  refine (byMac_any a n cap f _ HT.out (HR.out.up B2)).mono ?_
  rintro e w3 ⟨rfl, hown, hb3⟩
  have B3 := B2.trans (hb3.mono B2.size)
  have kX3 := boxed2 hb3 kX2
  have hXl : w.heap.size < w2.heap.size := blk_lt kX2
  obtain ⟨bM, hbM⟩ : ∃ bM, bM = w2.heap.size := ⟨_, rfl⟩
  rw [← hbM] at hown ⊢
  have hM : w.heap.size < bM := by rw [hbM]; exact hXl
  have h8 := HT.out.1
  have hkey : keyOf Try.prog 2 (.int .i64 m) = some (.int .i64 m) := keyI k0 k1
  clear hb3 hbM B2 kX2 cX hXl
  have HS : Hid (sortedL (entsL n f)) := entsL_sorted HT.out.2
  obtain ⟨O, hO⟩ : ∃ O, O = notM m (entsL n f) := ⟨_, rfl⟩
  have HOs : Hid (O.Sublist (entsL n f)) := by rw [Hid, hO]; exact notM_sub _ _
  have hOl := HOs.out.length_le
  rw [entsL_len] at hOl
  have HOn : Hid (∀ y ∈ O, y.m ≠ m) := fun y hy => by rw [hO] at hy; exact notM_ne hy
  have HOk : Hid (∀ y ∈ O, entOk y) := fun y hy => entsL_ok HT.out.2 (HOs.out.subset hy)
  have HL : Hid (learnedL (entsL n f) ⟨m, p, t⟩ = if O.length = 8 then insE ⟨m, p, t⟩ (notM (oldE O).m O) else insE ⟨m, p, t⟩ O) := by rw [Hid, learnedL, hO]
  have HD : Hid ((mD (entsL n f)).del (.int .i64 m) = mD O) := by rw [Hid, hO, mD_del]
  obtain ⟨F1, F2, F3⟩ := learned_facts HT.out HX.out
  have HF1 : Hid (sortedL A) := by rw [Hid, HA.out.1]; exact F1
  have HF2 : Hid (A.length ≤ 8) := by rw [Hid, HA.out.1]; exact F2
  have HF3 : Hid (∀ y ∈ A, entOk y) := by rw [Hid, HA.out.1]; exact F3
  clear F1 F2 F3 hO
  by_cases h9 : O.length = 8
  · have h9' : (((O.length : Nat) : Int) == 8) = true := by simp [h9]
    have HL2 : Hid (A = insE ⟨m, p, t⟩ (notM (oldE O).m O)) := by rw [Hid, HA.out.1, HL.out, if_pos h9]
    have H9 : Hid (O.length = 8) := h9
    clear h9
    go_wp2_with (at_delete; refine wpList_delete_own _ rfl _ _ 44 2 rfl 31 keyedI Try.underlying44 _ bM n _ rfl hown _ _ rfl hkey ?_; intro w4 hown4 hturn4; rw [HD.out] at hown4; have hlen4 := World.ownsMap.len hown4 Try.underlying44 3; rw [mD_size] at hlen4)
    have B4 := turn_below B3 hturn4 B3.size (Nat.le_of_lt hM)
    have kX4 := (turn_blk hturn4 (blk_lt kX3) (by omega)).trans kX3
    clear hturn4 B3 kX3 hown hlen4 h9'
    refine (inOrder_any _ hown4 (HS.out.sub HOs.out) (by omega) (fun y hy => (HOk.out y hy).1)).mono ?_
    rintro e w5 ⟨vO, rfl, hvO, hb5⟩
    obtain ⟨aO, cO, hv, rO⟩ := hvO.read
    subst hv
    have B5 := B4.trans (hb5.mono B4.size)
    have kX5 := boxed2 hb5 kX4
    have hown5 : OwnsE w5 bM n O := OwnsE.kept hown4 (hb5.block _ (World.ownsMap.lt hown4))
    clear hb5 B4 kX4 hown4 hvO
    go_wp2_with fail
    refine (oldest_any aO O.length cO _ _ (by have := H9.out; omega) (by have := H9.out; omega) rO).mono ?_
    rintro e w6 ⟨rfl, hb6⟩
    rw [entsL_getD]
    have B6 := B5.trans (hb6.mono B5.size)
    have kX6 := boxed2 hb6 kX5
    have hown6 : OwnsE w6 bM n O := OwnsE.kept hown5 (hb6.block _ (World.ownsMap.lt hown5))
    clear hb6 B5 kX5 hown5 rO
    have hq := (HOk.out _ (oldE_mem (by intro e; have := H9.out; rw [e] at this; simp at this)).1).1
    have HL3 : Hid (A = insE ⟨m, p, t⟩ (notM m (notM (oldE O).m O))) := by
      rw [Hid, HL2.out, notM_all (k := m) (fun y hy => HOn.out y ((notM_sub _ _).subset hy))]
    have HD2 : Hid ((mD O).del (.int .i64 (oldE O).m) = mD (notM (oldE O).m O)) := mD_del _ _
    generalize (oldE O).m = q at *
    have hkq : keyOf Try.prog 2 (.int .i64 q) = some (.int .i64 q) := keyI (by omega) (by omega)
    clear hq HL2
    go_wp2_with (at_delete; refine wpList_delete_own _ rfl _ _ 44 2 rfl 31 keyedI Try.underlying44 _ bM n _ rfl hown6 _ _ rfl hkq ?_; intro w7 hown7 hturn7; rw [HD2.out] at hown7; have kX7 := (turn_blk hturn7 (blk_lt kX6) (by omega)).trans kX6; have cX := blk_cell kX7; obtain ⟨w8, hrun8, hown8, hturn8⟩ := storeE (p := p) (t := t) hown7 (show n < maxLen by unfold maxLen; omega) k0 k1)
    have B7 := turn_below B6 hturn7 B6.size (Nat.le_of_lt hM)
    have B8 := turn_below B7 hturn8 B7.size (Nat.le_of_lt hM)
    rw [← HL3.out] at hown8
    clear hturn7 hturn8 hrun8 hown7 hown6 B6 B7 kX6 kX7 cX
    refine (inOrder_any _ hown8 HF1.out HF2.out (fun y hy => (HF3.out y hy).1)).mono ?_
    rintro e w9 ⟨v, rfl, hv, hb9⟩
    have B9 := B8.trans (hb9.mono B8.size)
    have HV : Hid (OwnL w9 w.heap.size v A) := hv.mono B8.size
    clear hv hb9 B8
    obtain ⟨av, cv, hvv, _⟩ := HV.out.read
    subst hvv
    go_wp2_with fail
    exact bodyPost_ret (v := .tuple #[.slice av A.length cv, .bool true]) (by simp [results, Try.results7, go_sem]) rfl ⟨_, by rw [HA.out.2], HV.out, B9⟩
  · have h9' : (((O.length : Nat) : Int) == 8) = false := by simp; omega
    have HL2 : Hid (A = insE ⟨m, p, t⟩ O) := by rw [Hid, HA.out.1, HL.out, if_neg h9]
    clear h9
    go_wp2_with (at_delete; refine wpList_delete_own _ rfl _ _ 44 2 rfl 31 keyedI Try.underlying44 _ bM n _ rfl hown _ _ rfl hkey ?_; intro w4 hown4 hturn4; rw [HD.out] at hown4; have hlen4 := World.ownsMap.len hown4 Try.underlying44 3; rw [mD_size] at hlen4; have kX4 := (turn_blk hturn4 (blk_lt kX3) (by omega)).trans kX3; have cX := blk_cell kX4; obtain ⟨w6, hrun6, hown6, hturn6⟩ := storeE (p := p) (t := t) hown4 (show n < maxLen by unfold maxLen; omega) k0 k1)
    have B4 := turn_below B3 hturn4 B3.size (Nat.le_of_lt hM)
    have B6 := turn_below B4 hturn6 B4.size (Nat.le_of_lt hM)
    have HL3 : Hid (A = insE ⟨m, p, t⟩ (notM m O)) := by rw [Hid, HL2.out, notM_all (k := m) HOn.out]
    rw [← HL3.out] at hown6
    clear hturn4 hturn6 hrun6 hown4 hown B3 B4 kX3 kX4 cX hlen4 h9'
    refine (inOrder_any _ hown6 HF1.out HF2.out (fun y hy => (HF3.out y hy).1)).mono ?_
    rintro e w9 ⟨v, rfl, hv, hb9⟩
    have B9 := B6.trans (hb9.mono B6.size)
    have HV : Hid (OwnL w9 w.heap.size v A) := hv.mono B6.size
    clear hv hb9 B6
    obtain ⟨av, cv, hvv, _⟩ := HV.out.read
    subst hvv
    go_wp2_with fail
    exact bodyPost_ret (v := .tuple #[.slice av A.length cv, .bool true]) (by simp [results, Try.results7, go_sem]) rfl ⟨_, by rw [HA.out.2], HV.out, B9⟩
end Go.Proofs.Ytfpomccgmligbaa
