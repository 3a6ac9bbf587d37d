/- Whether something waits: the program's answer. -/
import Derived.Test.YtnfcmiiibkbmfaaPkW2
import Derived.Test.YtnfcmiiibkbmfaaRnOk
namespace Go.Proofs.Ytnfcmiiibkbmfaa
open Go.RowKit Go.Shelf
attribute [local go_sem] Oper.semAt_some
set_option linter.unusedVariables false
set_option linter.unusedSimpArgs false

set_option maxRecDepth 100000 in
set_option maxHeartbeats 4000000 in
theorem somethingWaits_any (R : Rnd) (w : World) (hf : R.Fit) (h : RdRnd w R) (hpD : R.nQ ≤ R.nD) (hpS : R.nQ ≤ R.nS) (b : Bool) (hb : b = true ↔ ∃ i, i < R.nQ ∧ R.L i ≠ 0) :
    Calls Try.prog 49 #[.agg R.cells] w fun e w' => e = .returned (.bool b) ∧ Below w.heap.size w w' := by
  have HR : Hid (RdRnd w R) := h
  have HB : Hid (b = true ↔ ∃ i, i < R.nQ ∧ R.L i ≠ 0) := hb
  have HFit : Hid R.Fit := hf
  have HD : Hid (R.nQ ≤ R.nD) := hpD
  have HS : Hid (R.nQ ≤ R.nS) := hpS
  clear h hb hf hpD hpS
  refine (callsIn_wide (n := 8)).1 ?_
  refine callsIn_of_wp_marks Try.func49 rfl trivial ?_ rfl
  simp only [Try.ntmps49, List.size_toArray, List.length_cons, List.length_nil, Nat.reduceAdd, Nat.reduceSub, Array.replicate_succ, Array.replicate_zero, List.push_toArray, List.append_toArray, List.nil_append, List.cons_append]
  have f33 : Fence.wide.fn 31 := trivial
  unfold Rnd.cells
  have B1 : Below w.heap.size w ((w.alloc (.cells #[.slice R.aQ R.nQ R.cQ, .slice R.aD R.nD R.cD, .int .i64 R.turn, .bool R.fresh, .slice R.aS R.nS R.cS] 27)).alloc (.cells #[.bool false] 4)) := ((Below.refl _ _).alloc (Nat.le_refl _) _).alloc (by simp) _
  have HK : Hid (((w.alloc (.cells #[.slice R.aQ R.nQ R.cQ, .slice R.aD R.nD R.cD, .int .i64 R.turn, .bool R.fresh, .slice R.aS R.nS R.cS] 27)).alloc (.cells #[.bool false] 4)).heap[w.heap.size + 1]? = some (.cells #[.bool false] 4 (0, 0))) := by
    have := blk_new (w.alloc (.cells #[.slice R.aQ R.nQ R.cQ, .slice R.aD R.nD R.cD, .int .i64 R.turn, .bool R.fresh, .slice R.aS R.nS R.cS] 27)) (.cells #[.bool false] 4)
    simpa [Hid] using this
  gi_wp2_with (gi_at_call 31; refine (callsIn_wide.2 (classes_any R _)).mono ?_; rintro e w2 ⟨rfl, rfl⟩)
  have eS : ((w.alloc (.cells #[.slice R.aQ R.nQ R.cQ, .slice R.aD R.nD R.cD, .int .i64 R.turn, .bool R.fresh, .slice R.aS R.nS R.cS] 27)).alloc (.cells #[.bool false] 4)).heap.size = w.heap.size + 1 + 1 := by simp
  generalize (w.alloc (.cells #[.slice R.aQ R.nQ R.cQ, .slice R.aD R.nD R.cD, .int .i64 R.turn, .bool R.fresh, .slice R.aS R.nS R.cS] 27)).alloc (.cells #[.bool false] 4) = w1 at *
  rw [← eS]
  clear eS
  have kR1 := HK.out
  -- the classes
  have hBt : Tells (w1.alloc (.cells R.cells 27)) w1.heap.size R := ⟨fun o => blk_cell (blk_new w1 (.cells R.cells 27)) o, HR.out.up (B1.alloc B1.size _)⟩
  have hcBx : w1.heap.size < (w1.alloc (.cells R.cells 27)).heap.size := by simp
  have hTl : ∀ W, Below (w1.alloc (.cells R.cells 27)).heap.size (w1.alloc (.cells R.cells 27)) W → Tells W w1.heap.size R := fun W hW =>
    ⟨fun o => (hW.cell (p := ⟨w1.heap.size, o, none⟩) hcBx).trans (hBt.box o), hBt.rd.up hW⟩
  have hw1 := B1.size
  have hlR := blk_lt kR1
  have hsW : w.heap.size ≤ (w1.alloc (.cells R.cells 27)).heap.size := by simp; omega
  have hcr : w1.cell? ⟨w.heap.size + 1, 0, none⟩ = some (.bool false) := blk_cell kR1 0
  have hfr : w1.frozen? ⟨w.heap.size + 1, 0, none⟩ = false := blk_free kR1 0
  have hold : ∀ (j : Nat) o, j < w1.heap.size → (w1.alloc (.cells R.cells 27)).cell? ⟨j, o, none⟩ = w1.cell? ⟨j, o, none⟩ := fun j o hj => World.cell?_of_block (w := w1) (a := ⟨j, o, none⟩) (blk_old _ hj)
  have holdf : (w1.alloc (.cells R.cells 27)).frozen? ⟨w.heap.size + 1, 0, none⟩ = false := (World.frozen?_of_block (w := w1) (a := ⟨w.heap.size + 1, 0, none⟩) (blk_old _ hlR)).trans hfr
  refine wpIn_rangeFunc_ownH rfl (by omega) (gf := 43) (lb := #[.pointer (some ⟨w1.heap.size, 0, none⟩)]) rfl trivial (enters_of Try.func43 (by kernel_rfl) rfl)
    (classes_stops Fence.wide _ trivial rfl (by omega) R HFit.out HD.out HS.out w1.heap.size (w1.alloc (.cells R.cells 27)) hBt hTl) belowK_t (belowK_b (Nat.le_refl _)) (Below.refl _ _) (fun _ => rfl)
    (fun pre W => (∀ x ∈ pre, R.L x.1 = 0) ∧ W.cell? ⟨w.heap.size + 1, 0, none⟩ = some (.bool false) ∧ W.frozen? ⟨w.heap.size + 1, 0, none⟩ = false ∧ (w1.alloc (.cells R.cells 27)).heap.size ≤ W.heap.size ∧ Below w.heap.size w W)
    (fun c pre W => c = .ret ∧ (∃ x ∈ pre, R.L x.1 ≠ 0) ∧ W.cell? ⟨w.heap.size + 1, 0, none⟩ = some (.bool true) ∧ Below w.heap.size w W)
    (fun s A B row hs hg hr => ⟨hs.1, cell_kept hs.2.1 hg (fun r e => (hr r e).2), (frozen_kept hs.2.1 hg (fun r e => (hr r e).2)).trans hs.2.2.1, Nat.le_trans hs.2.2.2.1 hg.size, hs.2.2.2.2.grown hg hs.2.2.2.2.size (fun k e => Nat.le_trans hsW (hr k e).1)⟩)
    (fun c s A B row hs hg hr => ⟨hs.1, hs.2.1, cell_kept hs.2.2.1 hg (fun r e => (hr r e).2), hs.2.2.2.grown hg hs.2.2.2.size (fun k e => Nat.le_trans hsW (hr k e).1)⟩)
    ⟨fun x hx => by simp at hx, (hold _ _ hlR).trans hcr, holdf, Nat.le_refl _, B1.alloc hw1 _⟩
    (fun x a' W => ∃ Bx, w.heap.size + 1 < Bx ∧ W.cell? ⟨Bx, 2, none⟩ = some (.slice (R.A x.1) (R.L x.1) (R.C x.1)) ∧ a' = { tmps := #[.agg #[.slice R.aQ R.nQ R.cQ, .slice R.aD R.nD R.cD, .int .i64 R.turn, .bool R.fresh, .slice R.aS R.nS R.cS], .pointer (some ⟨w.heap.size, 0, none⟩), .pointer (some ⟨w.heap.size + 1, 0, none⟩), undef, .pointer (some ⟨Bx, 0, none⟩), .agg #[.slice R.aQ R.nQ R.cQ, .slice R.aD R.nD R.cD, .int .i64 R.turn, .bool R.fresh, .slice R.aS R.nS R.cS], .func (.func 43) #[] #[.pointer (some ⟨w1.heap.size, 0, none⟩)], .int .i64 ((x.1 : Nat) : Int), .agg #[.int .i64 (R.q x.1), .int .i64 (R.d x.1), .slice (R.A x.1) (R.L x.1) (R.C x.1)], undef, undef, undef, undef], defers := [] })
    (fun x a' s A B row hs hg hr => by
      obtain ⟨Bx, b1, c3, e⟩ := hs
      exact ⟨Bx, b1, cell_kept c3 hg (fun r e => (hr r e).2), e⟩)
    ?assign ?body ?done ?stop
  case assign =>
    rintro l pre x W K ⟨i1, i4, i5, i6, i7⟩ hK
    have hcn := blk_cell (blk_new W (.cells #[.int .i64 (R.q x.1), .int .i64 (R.d x.1), .slice (R.A x.1) (R.L x.1) (R.C x.1)] 56))
    have HI : Hid (∀ ob, (W.alloc ob).cell? ⟨w.heap.size + 1, 0, none⟩ = some (.bool false) ∧ (W.alloc ob).frozen? ⟨w.heap.size + 1, 0, none⟩ = false ∧ Below w.heap.size w (W.alloc ob)) := fun ob =>
      ⟨cell_kept i4 (World.grownBy_alloc W ob none) (fun r e => by cases e), (frozen_kept i4 (World.grownBy_alloc W ob none) (fun r e => by cases e)).trans i5, i7.alloc i7.size _⟩
    have hlt : w.heap.size + 1 < W.heap.size := by simp at i6; omega
    unfold clsV
    gi_wp2
    exact hK _ _ ((KeepsOthers.alloc _ _).from _) ((Below.refl _ W).alloc i6 _) ⟨i1, (HI.out _).1, (HI.out _).2.1, by simp at i6 ⊢; omega, (HI.out _).2.2⟩ ⟨W.heap.size, hlt, hcn 2, rfl⟩
  case body =>
    rintro l pre x a' W hl ⟨r, hr⟩ ⟨i1, i4, i5, i6, i7⟩ ⟨Bx, hBx, x2, rfl⟩ hlt
    clear hTl hBt hold holdf hcr hfr
    by_cases h0 : R.L x.1 = 0
    · have h0' : ¬ (0 : Int) < ((R.L x.1 : Nat) : Int) := by omega
      have H0 : Hid (R.L x.1 = 0) := h0
      have HP : Hid (∀ y ∈ pre ++ [x], R.L y.1 = 0) := fun y hy => by
        rcases List.mem_append.1 hy with hy | hy
        · exact i1 y hy
        · simp at hy; rw [hy]; exact H0.out
      clear h0
      gi_wp2
      exact ⟨KeepsFrom.refl _ _, Below.refl _ _, by have hk := HP.out; simpa using hk, i4, i5, by simpa using i6, i7⟩
    · have h0' : (0 : Int) < ((R.L x.1 : Nat) : Int) := by omega
      have H0 : Hid (R.L x.1 ≠ 0) := h0
      clear h0
      gi_wp2
      exact ⟨(KeepsOthers.setCell _ _ _).from _, rfl, ⟨x, by simp, H0.out⟩, World.cell?_setCell_same' _ _ _ (by rw [i4]; rfl), i7.setCell (by show _ ≤ _ + 1; omega) _⟩
  case done =>
    rintro D xs W hD rfl ⟨i1, i4, i5, i6, i7⟩ hK
    have HE : Hid (b = false) := by
      rw [Hid, Bool.eq_false_iff]
      intro e
      obtain ⟨i, hi, hne⟩ := HB.out.1 e
      exact hne (i1 ⟨i, hi⟩ (upTo_mem _ _ _ i hi))
    have hK' := (KeepsOthers.setCell W ⟨w.heap.size + 1, 0, none⟩ (.bool false)).same D _ hK rfl
    have hc5 := cell_kept (World.cell?_setCell_same' W ⟨w.heap.size + 1, 0, none⟩ (.bool false) (by rw [i4]; rfl)) (grownBy_putObj' _ D (.deferred none)) (fun r e => by cases e; exact ⟨_, hK', rfl⟩)
    have hBe : Below w.heap.size w ((W.setCell ⟨w.heap.size + 1, 0, none⟩ (.bool false)).putObj D (.deferred none)) := (i7.setCell (p := ⟨w.heap.size + 1, 0, none⟩) (by show _ ≤ _ + 1; omega) _).trans (belowK_b (w := w) (Nat.le_refl _) _ D _ _ (Nat.le_trans hsW hD) hK' rfl rfl)
    clear hTl hBt hold holdf hcr hfr
    gi_wp2
    refine ⟨by simp, .inl ⟨_, _, rfl, run_takeDeferred hK', ?_⟩⟩
    exact ⟨.bool false, by simp [results, Try.results49, go_sem, hc5], ret_bool HE.out.symm, hBe⟩
  case stop =>
    rintro D c pre W hD hSp ⟨rfl, ⟨x, hx, hn⟩, i4, i7⟩ hK
    have HE : Hid (b = true) := HB.out.2 ⟨x.1, x.2, hn⟩
    have hc5 := cell_kept i4 (grownBy_putObj' _ D (.deferred none)) (fun r e => by cases e; exact ⟨_, hK, rfl⟩)
    have hBe : Below w.heap.size w (W.putObj D (.deferred none)) := i7.trans (belowK_b (w := w) (Nat.le_refl _) _ D _ _ (Nat.le_trans hsW hD) hK rfl rfl)
    clear hTl hBt hold holdf hcr hfr
    gi_wp2
    refine ⟨by simp, .inl ⟨_, _, rfl, run_takeDeferred hK, ?_⟩⟩
    exact ⟨.bool true, by simp [results, Try.results49, go_sem, hc5], ret_bool HE.out.symm, hBe⟩
end Go.Proofs.Ytnfcmiiibkbmfaa
