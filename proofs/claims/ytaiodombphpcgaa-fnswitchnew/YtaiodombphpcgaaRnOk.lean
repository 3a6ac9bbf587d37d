/- Whether a round is right: the program's answer. -/
import Derived.Test.YtaiodombphpcgaaRnIter
namespace Go.Proofs.Ytaiodombphpcgaa
open Go.RowKit Go.Shelf
attribute [local go_sem] Oper.semAt_some
set_option linter.unusedVariables false
set_option linter.unusedSimpArgs false

theorem keeps_below {W W2 : World} (hb : Below W.heap.size W W2) (B : Nat) : KeepsFrom B W W2 :=
  ⟨hb.size, fun k o _ hk _ => (hb.block k (blk_lt hk)).trans hk⟩

set_option maxRecDepth 100000 in
set_option maxHeartbeats 4000000 in
theorem iRoundOk_any (R : Rnd) (w : World) (hf : R.Fit) (h : RdRnd w R) (ok : Bool) (hok : ok = true ↔ R.Ok) :
    Calls Try.prog 53 #[.agg R.cells] w fun e w' => e = .returned (.bool ok) ∧ Below w.heap.size w w' := by
  have HR : Hid (RdRnd w R) := h
  have HF : Hid (¬ R.Ok → ok = false) := fun hh => by
    rw [Bool.eq_false_iff]
    intro e
    exact hh (hok.1 e)
  have HO : Hid (ok = true ↔ R.Ok) := hok
  have HFit : Hid R.Fit := hf
  have hq := hf.q
  have hd := hf.d
  have hs := hf.s
  unfold maxLen at hq hd hs
  clear h hok hf
  refine (callsIn_wide (n := 8)).1 ?_
  refine callsIn_of_wp_marks Try.func53 rfl trivial ?_ rfl
  simp only [Try.ntmps53, List.size_toArray, List.length_cons, List.length_nil, Nat.reduceAdd, Nat.reduceSub, Array.replicate_succ, Array.replicate_zero, List.push_toArray, List.append_toArray, List.nil_append, List.cons_append]
  unfold Rnd.cells
  have B0 : Below w.heap.size w ((w.alloc (.cells R.cells 49)).alloc (.cells #[.bool false] 4)) := ((Below.refl _ _).alloc (Nat.le_refl _) _).alloc (by simp) _
  have f32 : Fence.wide.fn 64 := trivial
  have f33 : Fence.wide.fn 65 := trivial
  have f34 : Fence.wide.fn 66 := trivial
  by_cases h1 : R.nQ < 1
  · have h1' : (R.nQ : Int) < 1 := by omega
    have HE : Hid (ok = false) := HF.out (fun hh => by have := hh.n; omega)
    gi_wp2
    exact ⟨.bool false, by simp [results, Try.results53, go_sem], ret_bool HE.out.symm, B0⟩
  have h1' : ¬ (R.nQ : Int) < 1 := by omega
  by_cases h2 : 4 < R.nQ
  · have h2' : (4 : Int) < R.nQ := by omega
    have HE : Hid (ok = false) := HF.out (fun hh => by have := hh.n; omega)
    gi_wp2
    exact ⟨.bool false, by simp [results, Try.results53, go_sem], ret_bool HE.out.symm, B0⟩
  have h2' : ¬ (4 : Int) < R.nQ := by omega
  have H12 : Hid (1 ≤ R.nQ ∧ R.nQ ≤ 4) := by show _ ∧ _; omega
  clear h1 h2
  by_cases h3 : R.nD = R.nQ
  rotate_left
  · have h3' : ((R.nD : Int) != (R.nQ : Int)) = true := by simp; omega
    have HE : Hid (ok = false) := HF.out (fun hh => h3 hh.d)
    clear h3
    gi_wp2
    exact ⟨.bool false, by simp [results, Try.results53, go_sem], ret_bool HE.out.symm, B0⟩
  have h3' : ((R.nD : Int) != (R.nQ : Int)) = false := by simp [h3]
  have H3 : Hid (R.nD = R.nQ) := h3
  clear h3
  by_cases h4 : R.nS = R.nQ
  rotate_left
  · have h4' : ((R.nS : Int) != (R.nQ : Int)) = true := by simp; omega
    have HE : Hid (ok = false) := HF.out (fun hh => h4 hh.s)
    clear h4
    gi_wp2
    exact ⟨.bool false, by simp [results, Try.results53, go_sem], ret_bool HE.out.symm, B0⟩
  have h4' : ((R.nS : Int) != (R.nQ : Int)) = false := by simp [h4]
  have H4 : Hid (R.nS = R.nQ) := h4
  clear h4
  have kB := blk_old (.cells #[.bool false] 4) (show w.heap.size < (w.alloc (.cells R.cells 49)).heap.size by simp)
  rw [blk_new] at kB
  have kR := blk_new (w.alloc (.cells R.cells 49)) (.cells #[.bool false] 4)
  have eS : (w.alloc (.cells R.cells 49)).heap.size = w.heap.size + 1 := by simp
  rw [eS] at kR
  have e2 : ((w.alloc (.cells R.cells 49)).alloc (.cells #[.bool false] 4)).heap.size = w.heap.size + 1 + 1 := by simp
  have HK : Hid (((w.alloc (.cells R.cells 49)).alloc (.cells #[.bool false] 4)).heap[w.heap.size]? = some (.cells R.cells 49 (0, 0)) ∧ ((w.alloc (.cells R.cells 49)).alloc (.cells #[.bool false] 4)).heap[w.heap.size + 1]? = some (.cells #[.bool false] 4 (0, 0))) := ⟨kB, kR⟩
  clear kB kR
  by_cases h5 : 0 ≤ R.turn ∧ R.turn < R.nQ
  rotate_left
  · have HE : Hid (ok = false) := HF.out (fun hh => h5 hh.t)
    gi_wp2_with (gi_at_call 64; refine (callsIn_wide.2 (isClass_any R R.turn _ HFit.out)).mono ?_; rintro e w1 ⟨rfl, hb1⟩; rw [decide_eq_false h5]; have B1 := B0.trans (hb1.mono B0.size); have kR1 := (hb1.block (w.heap.size + 1) (by rw [← Rnd.cells, e2]; omega)).trans HK.out.2; have cR := blk_cell kR1; have fR := blk_free kR1; clear h5 hb1 B0)
    have cS := blk_cell (blk_set (i := 0) kR1 (.bool false)) 0
    exact ⟨.bool false, by simp [results, Try.results53, go_sem, cS], ret_bool HE.out.symm, B1.setCell (by show _ ≤ _ + 1; omega) _⟩
  gi_wp2_with (first | (gi_at_call 64; refine (callsIn_wide.2 (isClass_any R R.turn _ HFit.out)).mono ?_; rintro e w1 ⟨rfl, hb1⟩; rw [decide_eq_true h5]; have B1 := B0.trans (hb1.mono B0.size); have kR1 := (hb1.block (w.heap.size + 1) (by rw [← Rnd.cells, e2]; omega)).trans HK.out.2; have kB1 := (hb1.block w.heap.size (by rw [← Rnd.cells, e2]; omega)).trans HK.out.1; have cB := blk_cell kB1; unfold Rnd.cells at cB; have H5 : Hid (0 ≤ R.turn ∧ R.turn < R.nQ) := h5; clear h5 hb1 B0) | (gi_at_call 65; refine (callsIn_wide.2 (classes_any R _)).mono ?_; rintro e w2 ⟨rfl, rfl⟩))
  -- the classes
  have hBt : Tells (w1.alloc (.cells R.cells 49)) w1.heap.size R := ⟨fun o => blk_cell (blk_new w1 (.cells R.cells 49)) o, HR.out.up (B1.alloc B1.size _)⟩
  have hcBx : w1.heap.size < (w1.alloc (.cells R.cells 49)).heap.size := by simp
  have hTl : ∀ W, Below (w1.alloc (.cells R.cells 49)).heap.size (w1.alloc (.cells R.cells 49)) W → Tells W w1.heap.size R := fun W hW =>
    ⟨fun o => (hW.cell (p := ⟨w1.heap.size, o, none⟩) hcBx).trans (hBt.box o), hBt.rd.up hW⟩
  have hw1 := B1.size
  have hlR := blk_lt kR1
  have hsW : w.heap.size ≤ (w1.alloc (.cells R.cells 49)).heap.size := by simp; omega
  have hc2 : w1.cell? ⟨w.heap.size, 2, none⟩ = some (.int .i64 R.turn) := cB 2
  have hc3 : w1.cell? ⟨w.heap.size, 3, none⟩ = some (.bool R.fresh) := cB 3
  have hcr : w1.cell? ⟨w.heap.size + 1, 0, none⟩ = some (.bool false) := blk_cell kR1 0
  have hfr : w1.frozen? ⟨w.heap.size + 1, 0, none⟩ = false := blk_free kR1 0
  have ho : w.heap.size < w1.heap.size := by omega
  have hold : ∀ (j : Nat) o, j < w1.heap.size → (w1.alloc (.cells R.cells 49)).cell? ⟨j, o, none⟩ = w1.cell? ⟨j, o, none⟩ := fun j o hj => World.cell?_of_block (w := w1) (a := ⟨j, o, none⟩) (blk_old _ hj)
  have holdf : (w1.alloc (.cells R.cells 49)).frozen? ⟨w.heap.size + 1, 0, none⟩ = false := (World.frozen?_of_block (w := w1) (a := ⟨w.heap.size + 1, 0, none⟩) (blk_old _ hlR)).trans hfr
  have HD : Hid (R.nQ ≤ R.nD) := by rw [Hid, H3.out]; exact Nat.le_refl _
  have HS : Hid (R.nQ ≤ R.nS) := by rw [Hid, H4.out]; exact Nat.le_refl _
  refine wpIn_rangeFunc_ownH rfl (by omega) (gf := 70) (lb := #[.pointer (some ⟨w1.heap.size, 0, none⟩)]) rfl trivial (enters_of Try.func70 (by kernel_rfl) rfl)
    (classes_stops Fence.wide _ trivial rfl (by omega) R HFit.out HD.out HS.out w1.heap.size (w1.alloc (.cells R.cells 49)) hBt hTl) belowK_t (belowK_b (Nat.le_refl _)) (Below.refl _ _) (fun _ => rfl)
    (fun pre W => (∀ x ∈ pre, clsP (R.q x.1) (R.d x.1) (R.L x.1) (R.z x.1) (R.begun x.1)) ∧ W.cell? ⟨w.heap.size, 2, none⟩ = some (.int .i64 R.turn) ∧ W.cell? ⟨w.heap.size, 3, none⟩ = some (.bool R.fresh) ∧ W.cell? ⟨w.heap.size + 1, 0, none⟩ = some (.bool false) ∧ W.frozen? ⟨w.heap.size + 1, 0, none⟩ = false ∧ (w1.alloc (.cells R.cells 49)).heap.size ≤ W.heap.size ∧ Below w.heap.size w W)
    (fun c pre W => c = .ret ∧ (∃ x ∈ pre, ¬ clsP (R.q x.1) (R.d x.1) (R.L x.1) (R.z x.1) (R.begun x.1)) ∧ W.cell? ⟨w.heap.size + 1, 0, none⟩ = some (.bool false) ∧ Below w.heap.size w W)
    (fun s A B row hs hg hr => ⟨hs.1, cell_kept hs.2.1 hg (fun r e => (hr r e).2), cell_kept hs.2.2.1 hg (fun r e => (hr r e).2), cell_kept hs.2.2.2.1 hg (fun r e => (hr r e).2), (frozen_kept hs.2.2.2.1 hg (fun r e => (hr r e).2)).trans hs.2.2.2.2.1, Nat.le_trans hs.2.2.2.2.2.1 hg.size, hs.2.2.2.2.2.2.grown hg hs.2.2.2.2.2.2.size (fun k e => Nat.le_trans hsW (hr k e).1)⟩)
    (fun c s A B row hs hg hr => ⟨hs.1, hs.2.1, cell_kept hs.2.2.1 hg (fun r e => (hr r e).2), hs.2.2.2.grown hg hs.2.2.2.size (fun k e => Nat.le_trans hsW (hr k e).1)⟩)
    ⟨fun x hx => by simp at hx, (hold _ _ ho).trans hc2, (hold _ _ ho).trans hc3, (hold _ _ hlR).trans hcr, holdf, Nat.le_refl _, B1.alloc hw1 _⟩
    (fun x a' W => ∃ Bx, w.heap.size + 1 < Bx ∧ W.cell? ⟨Bx, 0, none⟩ = some (.int .i64 (R.q x.1)) ∧ W.cell? ⟨Bx, 1, none⟩ = some (.int .i64 (R.d x.1)) ∧ W.cell? ⟨Bx, 2, none⟩ = some (.slice (R.A x.1) (R.L x.1) (R.C x.1)) ∧ a' = { tmps := #[.agg #[.slice R.aQ R.nQ R.cQ, .slice R.aD R.nD R.cD, .int .i64 R.turn, .bool R.fresh, .slice R.aS R.nS R.cS], .pointer (some ⟨w.heap.size, 0, none⟩), .pointer (some ⟨w.heap.size + 1, 0, none⟩), .int .i64 (R.nQ : Int), .int .i64 ((x.1 : Nat) : Int), .pointer (some ⟨Bx, 0, none⟩), .pointer (some ⟨w.heap.size, 0, none⟩), .slice R.aQ R.nQ R.cQ, .int .i64 (R.nQ : Int), .int .i64 (R.nQ : Int), .bool false, .bool false, .int .i64 (R.nQ : Int), .bool false, .bool false, .bool false, .pointer (some ⟨w.heap.size, 1, none⟩), .slice R.aD R.nD R.cD, .int .i64 (R.nD : Int), .int .i64 (R.nQ : Int), .bool false, .bool false, .bool false, .pointer (some ⟨w.heap.size, 4, none⟩), .slice R.aS R.nS R.cS, .int .i64 (R.nS : Int), .int .i64 (R.nQ : Int), .bool false, .bool false, .bool false, .agg #[.slice R.aQ R.nQ R.cQ, .slice R.aD R.nD R.cD, .int .i64 R.turn, .bool R.fresh, .slice R.aS R.nS R.cS], .pointer (some ⟨w.heap.size, 2, none⟩), .int .i64 R.turn, .bool true, .bool false, .bool false, .agg #[.slice R.aQ R.nQ R.cQ, .slice R.aD R.nD R.cD, .int .i64 R.turn, .bool R.fresh, .slice R.aS R.nS R.cS], .func (.func 70) #[] #[.pointer (some ⟨w1.heap.size, 0, none⟩)], .int .i64 ((x.1 : Nat) : Int), .agg #[.int .i64 (R.q x.1), .int .i64 (R.d x.1), .slice (R.A x.1) (R.L x.1) (R.C x.1)], undef, undef, undef, undef, undef, undef, undef, undef, undef, undef, undef, undef], defers := [] })
    (fun x a' s A B row hs hg hr => by
      obtain ⟨Bx, b1, c1, c2, c3, e⟩ := hs
      exact ⟨Bx, b1, cell_kept c1 hg (fun r e => (hr r e).2), cell_kept c2 hg (fun r e => (hr r e).2), cell_kept c3 hg (fun r e => (hr r e).2), e⟩)
    ?assign ?body ?done ?stop
  case assign =>
    rintro l pre x W K ⟨i1, i2, i3, i4, i5, i6, i7⟩ hK
    have hcn := blk_cell (blk_new W (.cells #[.int .i64 (R.q x.1), .int .i64 (R.d x.1), .slice (R.A x.1) (R.L x.1) (R.C x.1)] 111))
    have hgr := World.grownBy_alloc W (.cells #[.int .i64 (R.q x.1), .int .i64 (R.d x.1), .slice (R.A x.1) (R.L x.1) (R.C x.1)] 111) none
    have HI : Hid (∀ ob, (W.alloc ob).cell? ⟨w.heap.size, 2, none⟩ = some (.int .i64 R.turn) ∧ (W.alloc ob).cell? ⟨w.heap.size, 3, none⟩ = some (.bool R.fresh) ∧ (W.alloc ob).cell? ⟨w.heap.size + 1, 0, none⟩ = some (.bool false) ∧ (W.alloc ob).frozen? ⟨w.heap.size + 1, 0, none⟩ = false ∧ Below w.heap.size w (W.alloc ob)) := fun ob =>
      ⟨cell_kept i2 (World.grownBy_alloc W ob none) (fun r e => by cases e), cell_kept i3 (World.grownBy_alloc W ob none) (fun r e => by cases e), cell_kept i4 (World.grownBy_alloc W ob none) (fun r e => by cases e), (frozen_kept i4 (World.grownBy_alloc W ob none) (fun r e => by cases e)).trans i5, i7.alloc i7.size _⟩
    have hlt : w.heap.size + 1 < W.heap.size := by simp at i6; omega
    unfold clsV
    gi_wp2
    exact hK _ _ ((KeepsOthers.alloc _ _).from _) ((Below.refl _ W).alloc i6 _) ⟨i1, (HI.out _).1, (HI.out _).2.1, (HI.out _).2.2.1, (HI.out _).2.2.2.1, by simp at i6 ⊢; omega, (HI.out _).2.2.2.2⟩ ⟨W.heap.size, hlt, hcn 0, hcn 1, hcn 2, rfl⟩
  case body =>
    rintro l pre x a' W hl ⟨r, hr⟩ ⟨i1, i2, i3, i4, i5, i6, i7⟩ ⟨Bx, hBx, x0, x1, x2, rfl⟩ hlt
    have hl2 : w.heap.size + 1 < W.heap.size := by simp at i6; omega
    have hl0 : w.heap.size < W.heap.size := by omega
    obtain ⟨okc, hokc⟩ := ok_decR (clsP (R.q x.1) (R.d x.1) (R.L x.1) (R.z x.1) (R.begun x.1))
    have HC : Hid (okc = true ↔ clsP (R.q x.1) (R.d x.1) (R.L x.1) (R.z x.1) (R.begun x.1)) := hokc
    have hxS : x.1 < R.nS := by rw [H4.out]; exact x.2
    have HRd : Hid (RdRow W (R.A x.1) (R.L x.1) fun j => .int .i64 (R.z x.1 j)) := (HR.out.up i7).z x.1 hxS
    have HLn : Hid (R.L x.1 ≤ maxLen) := HFit.out.l x.1 hxS
    clear hokc hxS hTl hBt hold holdf hc2 hc3 hcr hfr
    by_cases hx : ((x.1 : Nat) : Int) = R.turn
    · have hxq : (((x.1 : Nat) : Int) == R.turn) = true := by simp [hx]
      cases hfs : R.fresh
      · have hbg : R.begun x.1 = true := by simp [Rnd.begun, hx, hfs]
        rw [hfs] at i3
        clear hx hfs
        have HC2 : Hid (okc = true ↔ clsP (R.q x.1) (R.d x.1) (R.L x.1) (R.z x.1) true) := by have hh := HC.out; rw [hbg] at hh; exact hh
        clear hbg
        cases okc
        · have HCf : Hid (¬ clsP (R.q x.1) (R.d x.1) (R.L x.1) (R.z x.1) (R.begun x.1)) := fun hh => by have := HC.out.2 hh; simp at this
          gi_wp2_with (gi_at_call 66; refine (CallsIn.inRound l (callsIn_wide.2 (classOk_any (R.q x.1) (R.d x.1) (R.A x.1) (R.L x.1) (R.C x.1) (R.z x.1) true W HLn.out HRd.out false HC2.out))).mono ?_; rintro e W2 ⟨rfl, hb2⟩; have cR2 := (hb2.cell (p := ⟨w.heap.size + 1, 0, none⟩) hl2).trans i4; have fR2 := (hb2.frozen (p := ⟨w.heap.size + 1, 0, none⟩) hl2).trans i5)
          exact ⟨(keeps_below hb2 _).trans ((KeepsOthers.setCell _ _ _).from _), rfl, ⟨x, by simp, HCf.out⟩, World.cell?_setCell_same' _ _ _ (by rw [cR2]; rfl), (i7.trans (hb2.mono i7.size)).setCell (by show _ ≤ _ + 1; omega) _⟩
        · have HCt : Hid (clsP (R.q x.1) (R.d x.1) (R.L x.1) (R.z x.1) (R.begun x.1)) := HC.out.1 rfl
          gi_wp2_with (gi_at_call 66; refine (CallsIn.inRound l (callsIn_wide.2 (classOk_any (R.q x.1) (R.d x.1) (R.A x.1) (R.L x.1) (R.C x.1) (R.z x.1) true W HLn.out HRd.out true HC2.out))).mono ?_; rintro e W2 ⟨rfl, hb2⟩; have cR2 := (hb2.cell (p := ⟨w.heap.size + 1, 0, none⟩) hl2).trans i4; have fR2 := (hb2.frozen (p := ⟨w.heap.size + 1, 0, none⟩) hl2).trans i5)
          exact ⟨keeps_below hb2 _, hb2.mono i6, fun y hy => by
            rcases List.mem_append.1 hy with hy | hy
            · exact i1 y hy
            · simp at hy; rw [hy]; exact HCt.out, (hb2.cell (p := ⟨w.heap.size, 2, none⟩) hl0).trans i2, (hb2.cell (p := ⟨w.heap.size, 3, none⟩) hl0).trans i3, cR2, fR2, Nat.le_trans i6 hb2.size, i7.trans (hb2.mono i7.size)⟩
      · have hbg : R.begun x.1 = false := by simp [Rnd.begun, hfs]
        rw [hfs] at i3
        clear hx hfs
        have HC2 : Hid (okc = true ↔ clsP (R.q x.1) (R.d x.1) (R.L x.1) (R.z x.1) false) := by have hh := HC.out; rw [hbg] at hh; exact hh
        clear hbg
        cases okc
        · have HCf : Hid (¬ clsP (R.q x.1) (R.d x.1) (R.L x.1) (R.z x.1) (R.begun x.1)) := fun hh => by have := HC.out.2 hh; simp at this
          gi_wp2_with (gi_at_call 66; refine (CallsIn.inRound l (callsIn_wide.2 (classOk_any (R.q x.1) (R.d x.1) (R.A x.1) (R.L x.1) (R.C x.1) (R.z x.1) false W HLn.out HRd.out false HC2.out))).mono ?_; rintro e W2 ⟨rfl, hb2⟩; have cR2 := (hb2.cell (p := ⟨w.heap.size + 1, 0, none⟩) hl2).trans i4; have fR2 := (hb2.frozen (p := ⟨w.heap.size + 1, 0, none⟩) hl2).trans i5)
          exact ⟨(keeps_below hb2 _).trans ((KeepsOthers.setCell _ _ _).from _), rfl, ⟨x, by simp, HCf.out⟩, World.cell?_setCell_same' _ _ _ (by rw [cR2]; rfl), (i7.trans (hb2.mono i7.size)).setCell (by show _ ≤ _ + 1; omega) _⟩
        · have HCt : Hid (clsP (R.q x.1) (R.d x.1) (R.L x.1) (R.z x.1) (R.begun x.1)) := HC.out.1 rfl
          gi_wp2_with (gi_at_call 66; refine (CallsIn.inRound l (callsIn_wide.2 (classOk_any (R.q x.1) (R.d x.1) (R.A x.1) (R.L x.1) (R.C x.1) (R.z x.1) false W HLn.out HRd.out true HC2.out))).mono ?_; rintro e W2 ⟨rfl, hb2⟩; have cR2 := (hb2.cell (p := ⟨w.heap.size + 1, 0, none⟩) hl2).trans i4; have fR2 := (hb2.frozen (p := ⟨w.heap.size + 1, 0, none⟩) hl2).trans i5)
          exact ⟨keeps_below hb2 _, hb2.mono i6, fun y hy => by
            rcases List.mem_append.1 hy with hy | hy
            · exact i1 y hy
            · simp at hy; rw [hy]; exact HCt.out, (hb2.cell (p := ⟨w.heap.size, 2, none⟩) hl0).trans i2, (hb2.cell (p := ⟨w.heap.size, 3, none⟩) hl0).trans i3, cR2, fR2, Nat.le_trans i6 hb2.size, i7.trans (hb2.mono i7.size)⟩
    · have hxq : (((x.1 : Nat) : Int) == R.turn) = false := by simp [hx]
      have hbg : R.begun x.1 = false := by simp [Rnd.begun, hx]
      clear hx
      have HC2 : Hid (okc = true ↔ clsP (R.q x.1) (R.d x.1) (R.L x.1) (R.z x.1) false) := by have hh := HC.out; rw [hbg] at hh; exact hh
      clear hbg
      cases okc
      · have HCf : Hid (¬ clsP (R.q x.1) (R.d x.1) (R.L x.1) (R.z x.1) (R.begun x.1)) := fun hh => by have := HC.out.2 hh; simp at this
        gi_wp2_with (gi_at_call 66; refine (CallsIn.inRound l (callsIn_wide.2 (classOk_any (R.q x.1) (R.d x.1) (R.A x.1) (R.L x.1) (R.C x.1) (R.z x.1) false W HLn.out HRd.out false HC2.out))).mono ?_; rintro e W2 ⟨rfl, hb2⟩; have cR2 := (hb2.cell (p := ⟨w.heap.size + 1, 0, none⟩) hl2).trans i4; have fR2 := (hb2.frozen (p := ⟨w.heap.size + 1, 0, none⟩) hl2).trans i5)
        exact ⟨(keeps_below hb2 _).trans ((KeepsOthers.setCell _ _ _).from _), rfl, ⟨x, by simp, HCf.out⟩, World.cell?_setCell_same' _ _ _ (by rw [cR2]; rfl), (i7.trans (hb2.mono i7.size)).setCell (by show _ ≤ _ + 1; omega) _⟩
      · have HCt : Hid (clsP (R.q x.1) (R.d x.1) (R.L x.1) (R.z x.1) (R.begun x.1)) := HC.out.1 rfl
        gi_wp2_with (gi_at_call 66; refine (CallsIn.inRound l (callsIn_wide.2 (classOk_any (R.q x.1) (R.d x.1) (R.A x.1) (R.L x.1) (R.C x.1) (R.z x.1) false W HLn.out HRd.out true HC2.out))).mono ?_; rintro e W2 ⟨rfl, hb2⟩; have cR2 := (hb2.cell (p := ⟨w.heap.size + 1, 0, none⟩) hl2).trans i4; have fR2 := (hb2.frozen (p := ⟨w.heap.size + 1, 0, none⟩) hl2).trans i5)
        exact ⟨keeps_below hb2 _, hb2.mono i6, fun y hy => by
          rcases List.mem_append.1 hy with hy | hy
          · exact i1 y hy
          · simp at hy; rw [hy]; exact HCt.out, (hb2.cell (p := ⟨w.heap.size, 2, none⟩) hl0).trans i2, (hb2.cell (p := ⟨w.heap.size, 3, none⟩) hl0).trans i3, cR2, fR2, Nat.le_trans i6 hb2.size, i7.trans (hb2.mono i7.size)⟩
  case done =>
    rintro D xs W hD rfl ⟨i1, i2, i3, i4, i5, i6, i7⟩ hK
    have HT : Hid (ok = true) := HO.out.2 ⟨H12.out, H3.out, H4.out, H5.out, fun i hi => i1 ⟨i, hi⟩ (upTo_mem _ _ _ i hi)⟩
    have hK' := (KeepsOthers.setCell W ⟨w.heap.size + 1, 0, none⟩ (.bool true)).same D _ hK rfl
    have hc5 := cell_kept (World.cell?_setCell_same' W ⟨w.heap.size + 1, 0, none⟩ (.bool true) (by rw [i4]; rfl)) (grownBy_putObj' _ D (.deferred none)) (fun r e => by cases e; exact ⟨_, hK', rfl⟩)
    have hBe : Below w.heap.size w ((W.setCell ⟨w.heap.size + 1, 0, none⟩ (.bool true)).putObj D (.deferred none)) := (i7.setCell (p := ⟨w.heap.size + 1, 0, none⟩) (by show _ ≤ _ + 1; omega) _).trans (belowK_b (w := w) (Nat.le_refl _) _ D _ _ (Nat.le_trans hsW hD) hK' rfl rfl)
    clear hTl hBt hold holdf hc2 hc3 hcr hfr
    gi_wp2
    refine ⟨by simp, .inl ⟨_, _, rfl, run_takeDeferred hK', ?_⟩⟩
    exact ⟨.bool true, by simp [results, Try.results53, go_sem, hc5], ret_bool HT.out.symm, hBe⟩
  case stop =>
    rintro D c pre W hD hSp ⟨rfl, ⟨x, hx, hn⟩, i4, i7⟩ hK
    have HE : Hid (ok = false) := HF.out (fun hh => hn (hh.c x.1 x.2))
    have hc5 := cell_kept i4 (grownBy_putObj' _ D (.deferred none)) (fun r e => by cases e; exact ⟨_, hK, rfl⟩)
    have hBe : Below w.heap.size w (W.putObj D (.deferred none)) := i7.trans (belowK_b (w := w) (Nat.le_refl _) _ D _ _ (Nat.le_trans hsW hD) hK rfl rfl)
    clear hTl hBt hold holdf hc2 hc3 hcr hfr
    gi_wp2
    refine ⟨by simp, .inl ⟨_, _, rfl, run_takeDeferred hK, ?_⟩⟩
    exact ⟨.bool false, by simp [results, Try.results53, go_sem, hc5], ret_bool HE.out.symm, hBe⟩
end Go.Proofs.Ytaiodombphpcgaa
