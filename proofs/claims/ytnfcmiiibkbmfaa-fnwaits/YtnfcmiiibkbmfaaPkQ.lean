/- What the program picks: where nothing waits; the whole answer. -/
import Derived.Test.YtnfcmiiibkbmfaaPkP
import Derived.Test.YtnfcmiiibkbmfaaPkS4
import Derived.Test.YtnfcmiiibkbmfaaRnCpI
namespace Go.Proofs.Ytnfcmiiibkbmfaa
open Go.RowKit Go.Shelf
attribute [local go_sem] Oper.semAt_some
set_option linter.unusedVariables false
set_option linter.unusedSimpArgs false

set_option maxRecDepth 100000 in
set_option maxHeartbeats 4000000 in
theorem pick_none (X0 : Rnd) (base top gb gD gS : Nat) (w : World) (h : RepO w base top gb gD gS X0) (hok : X0.Ok) (hno : ∀ i, i < X0.nQ → X0.L i = 0) :
    Calls Try.prog 26 #[.pointer (some ⟨gb, 0, none⟩)] w fun e w' => e = .returned (.tuple #[.int .i64 (-1), .int .i64 0]) ∧ Below w.heap.size w w' := by
  have HR : Hid (RepO w base top gb gD gS X0) := h
  have HOk : Hid X0.Ok := hok
  have HNo : Hid (∀ i, i < X0.nQ → X0.L i = 0) := hno
  clear h hok hno
  refine (callsIn_wide (n := 8)).1 ?_
  refine callsIn_of_wp_marks Try.func26 rfl trivial ?_ rfl
  simp only [Try.ntmps26, List.size_toArray, List.length_cons, List.length_nil, Nat.reduceAdd, Nat.reduceSub, Array.replicate_succ, Array.replicate_zero, List.push_toArray, List.append_toArray, List.nil_append, List.cons_append]
  have f33 : Fence.wide.fn 40 := trivial
  gi_wp2_with (gi_at_call 40; refine (callsIn_wide.2 (turns_any gb _)).mono ?_; rintro e w2 ⟨rfl, rfl⟩)
  obtain ⟨q1, q2, q3, q4, q5, qb⟩ := four (w := w) (o1 := .cells #[.pointer (some ⟨gb, 0, none⟩)] 48) (o2 := .cells #[.int .i64 0] 2) (o3 := .cells #[.int .i64 0] 2) (o4 := .cells #[.pointer (some ⟨gb, 0, none⟩)] 48)
  generalize (((w.alloc (.cells #[.pointer (some ⟨gb, 0, none⟩)] 48)).alloc (.cells #[.int .i64 0] 2)).alloc (.cells #[.int .i64 0] 2)).alloc (.cells #[.pointer (some ⟨gb, 0, none⟩)] 48) = w0 at *
  have HQ : Hid (w0.heap[w.heap.size + 1]? = some (.cells #[.int .i64 0] 2 (0, 0)) ∧ w0.heap[w.heap.size + 1 + 1]? = some (.cells #[.int .i64 0] 2 (0, 0)) ∧ w0.heap[w.heap.size + 1 + 1 + 1]? = some (.cells #[.pointer (some ⟨gb, 0, none⟩)] 48 (0, 0)) ∧ w0.heap.size = w.heap.size + 4 ∧ Below w.heap.size w w0) := ⟨q2, q3, q4, q5, qb⟩
  clear q1 q2 q3 q4 q5 qb
  refine wpIn_rangeFunc_sh rfl (by omega) (gf := 48) (lb := #[.pointer (some ⟨w.heap.size + 1 + 1 + 1, 0, none⟩)]) rfl trivial (enters_of Try.func48 (by kernel_rfl) rfl) (fun W => Below w0.heap.size w0 W ∧ W.heap[w0.heap.size]? = some (.deferred (some [])) ∧ ∃ lo, W.heap[w0.heap.size + 1]? = some lo ∧ lo.isCells = false) (fun _ _ => False) ?it ?done (fun c W o h => h.elim)
  case done =>
    rintro W o ⟨hB, hD, lo, hlo, hlc⟩
    have hq5 := HQ.out.2.2.2.1
    have hp := putObj_touch W (w0.heap.size + 1) o
    have k2 : (W.putObj (w0.heap.size + 1) o).heap[w.heap.size + 1]? = some (.cells #[.int .i64 0] 2 (0, 0)) := (World.putObj_heap_other (by omega)).trans ((hB.block _ (by omega)).trans HQ.out.1)
    have k3 : (W.putObj (w0.heap.size + 1) o).heap[w.heap.size + 1 + 1]? = some (.cells #[.int .i64 0] 2 (0, 0)) := (World.putObj_heap_other (by omega)).trans ((hB.block _ (by omega)).trans HQ.out.2.1)
    have kD : (W.putObj (w0.heap.size + 1) o).heap[w0.heap.size]? = some (.deferred (some [])) := (World.putObj_heap_other (by omega)).trans hD
    have hBw : Below w.heap.size w (W.putObj (w0.heap.size + 1) o) := (HQ.out.2.2.2.2.trans (hB.mono (by omega))).trans (hp.below (by have := hB.size; omega) (fun x hx => by simp at hx; omega))
    generalize W.putObj (w0.heap.size + 1) o = W2 at *
    have c2 := blk_cell k2
    have f2 := blk_free k2
    have c3 := blk_cell k3
    have f3 := blk_free k3
    have hT3 : Touch [w.heap.size + 1, w.heap.size + 1 + 1] W2 ((W2.setCell ⟨w.heap.size + 1, 0, none⟩ (.int .i64 (-1))).setCell ⟨w.heap.size + 1 + 1, 0, none⟩ (.int .i64 0)) := ((Touch.refl _ _).set (by simp) 0 _).set (by simp) 0 _
    have hK' := (hT3.block w0.heap.size (Array.getElem?_eq_some_iff.1 kD).1 (by simp; omega)).trans kD
    have hb2 := (blk_set_ne (i := 0) (show w.heap.size + 1 ≠ w.heap.size + 1 + 1 by omega) (.int .i64 0)).trans (blk_set (i := 0) k2 (.int .i64 (-1)))
    have hb3 := blk_set (i := 0) ((blk_set_ne (i := 0) (show w.heap.size + 1 + 1 ≠ w.heap.size + 1 by omega) (.int .i64 (-1))).trans k3) (.int .i64 0)
    have hBe := (hBw.trans (hT3.below hBw.size (fun x hx => by simp at hx; omega))).trans ((putObj_touch _ w0.heap.size (.deferred none)).below (by have := hBw.size; have := hT3.size; omega) (fun x hx => by simp at hx; omega))
    have hc2 := (putObj_cell (o := .deferred none) (l := w0.heap.size) (i := 0) (show w.heap.size + 1 ≠ w0.heap.size by omega)).trans (blk_cell hb2 0)
    have hc3 := (putObj_cell (o := .deferred none) (l := w0.heap.size) (i := 0) (show w.heap.size + 1 + 1 ≠ w0.heap.size by omega)).trans (blk_cell hb3 0)
    have HF : Hid (_ ∧ _ ∧ _ ∧ _) := ⟨hK', hc2, hc3, hBe⟩
    clear hT3 hK' hb2 hb3 hBe hc2 hc3 hBw kD k2 k3 hp hq5
    gi_wp2
    refine ⟨by simp, .inl ⟨_, _, rfl, run_takeDeferred HF.out.1, ?_⟩⟩
    have e2 := HF.out.2.1
    have e3 := HF.out.2.2.1
    exact ⟨.tuple #[.int .i64 (-1), .int .i64 0], by simp [results, Try.results26, go_sem, e2, e3], rfl, HF.out.2.2.2⟩
  case it =>
    intro fn hfn rc hrc
    obtain ⟨W1, hW1⟩ : ∃ W1, (w0.alloc (.deferred (some []))).alloc (.loop (rc .ready none)) = W1 := ⟨_, rfl⟩
    have hq5 := HQ.out.2.2.2.1
    have e1 : (w0.alloc (.deferred (some []))).heap.size = w0.heap.size + 1 := by simp
    have HW : Hid (W1.heap[w0.heap.size + 1]? = some (.loop (rc .ready none)) ∧ W1.heap[w0.heap.size]? = some (.deferred (some [])) ∧ Below w0.heap.size w0 W1) := by
      rw [Hid, ← hW1]
      refine ⟨?_, ?_, ((Below.refl _ _).alloc (Nat.le_refl _) _).alloc (by omega) _⟩
      · rw [← e1, blk_new]
      · rw [blk_old _ (by omega), blk_new]
    have hbw : Below w.heap.size w W1 := HQ.out.2.2.2.2.trans (HW.out.2.2.mono (by omega))
    have hRW := HR.out.up hbw
    have cb := blk_cell hRW.box
    unfold Rnd.cells at cb
    have cc4 := blk_cell ((HW.out.2.2.block (w.heap.size + 1 + 1 + 1) (by omega)).trans HQ.out.2.2.1) 0
    have HRd : Hid (RdRnd W1 X0) := hRW.own.rd
    have HBt : Hid (false = true ↔ ∃ i, i < X0.nQ ∧ X0.L i ≠ 0) := ⟨fun e => (by cases e), fun ⟨i, hi, hne⟩ => absurd (HNo.out i hi) hne⟩
    have f43 : Fence.wide.fn 49 := trivial
    have HSz : Hid (w0.heap.size + 1 < W1.heap.size) := (Array.getElem?_eq_some_iff.1 HW.out.1).1
    rw [hW1]
    clear hrc hW1 hq5 e1 hbw hRW f33
    refine callsIn_of_wp Try.func48 rfl trivial ?_ rfl
    simp only [Try.ntmps48, List.size_toArray, List.length_cons, List.length_nil, Nat.reduceAdd, Nat.reduceSub, Array.replicate_succ, Array.replicate_zero, List.push_toArray, List.append_toArray, List.nil_append, List.cons_append]
    gi_wp2
    gi_loopw [3] (fun _ wr => wr = W1) (fun _ _ => 0)
    case atStart => rfl
    case round =>
      obtain rfl := hrel
      gi_wp2_with (gi_at_call 49; refine (callsIn_wide.2 (somethingWaits_any X0 wr (ok_fit HOk.out) HRd.out (by rw [HOk.out.d]; exact Nat.le_refl _) (by rw [HOk.out.s]; exact Nat.le_refl _) false HBt.out)).mono ?_; rintro e w2 ⟨rfl, hb⟩)
      refine ⟨fun _ h => (by cases h), ?_⟩
      gi_wp2
      go_end0
      have hl2 := (hb.block _ HSz.out).trans HW.out.1
      exact ⟨⟨_, rfl⟩, .inl ⟨⟨HW.out.2.2.trans (hb.mono (by have := HSz.out; omega)), (hb.block _ (by have := HSz.out; omega)).trans HW.out.2.1, _, hl2, rfl⟩, hl2⟩⟩
theorem OwnRo.touchLo {w w' : World} {base : Nat} {R : Rnd} {S : List Nat} (h : OwnRo w base R) (ht : Touch S w w') (hS : ∀ x ∈ S, x < base) : OwnRo w' base R := by
  have keyI : ∀ {a : Option Addr} {n : Nat} {f : Nat → Int}, VI w base a n f → VI w' base a n f := fun hv => hv.touchS ht (fun x hx hx2 => by
    have h1 := (hv.blk x hx).1
    have h2 := hS x hx2
    omega)
  have keyO : ∀ {a : Option Addr} {n : Nat} {f : Nat → Int}, VO w base a n f → VO w' base a n f := fun hv => hv.touchS ht (fun x hx hx2 => by
    have h1 := (hv.blk x hx).1
    have h2 := hS x hx2
    omega)
  refine ⟨keyI h.q, keyI h.d, ?_, fun i hi => keyO (h.z i hi), h.qd, h.qz, h.dz, h.zz⟩
  rcases h.s with h0 | ⟨g, ha, hg, hr⟩
  · exact .inl h0
  · exact .inr ⟨g, ha, hg, hr.keep (ht.block g hr.lt (fun hx => by have := hS g hx; omega))⟩
/-- a copy in its box is a round on its way -/
theorem rep_copy {w : World} {base : Nat} {R : Rnd} {aq : Option Addr} {cq : Nat} {ad : Option Addr} {cd gS : Nat} {A : Nat → Option Addr} {C : Nat → Nat} (ho : R.Ok) (h : OwnRz w base (R.cp aq cq ad cd gS A C)) :
    ∃ gD, ad = some ⟨gD, 0, none⟩ ∧ base ≤ gD ∧ base ≤ gS ∧ RepO (w.alloc (.cells (R.cp aq cq ad cd gS A C).cells 27)) base (w.heap.size + 1) w.heap.size gD gS (R.cp aq cq ad cd gS A C) := by
  have hn := ho.n
  have hd := ho.d
  have hs := ho.s
  have hA := (Below.refl w.heap.size w).alloc (Nat.le_refl _) (.cells (R.cp aq cq ad cd gS A C).cells 27)
  obtain ⟨gD, rfl, hbD, hrD⟩ : ∃ gD, ad = some ⟨gD, 0, none⟩ ∧ base ≤ gD ∧ gD < w.heap.size := by
    rcases h.own.d with h0 | ⟨g, e, hb, hr⟩
    · have : R.nD = 0 := h0
      omega
    · exact ⟨g, e, hb, hr.lt⟩
  have hS : base ≤ gS ∧ gS < w.heap.size := by
    rcases h.own.s with h0 | ⟨g, e, hb, hr⟩
    · have : R.nS = 0 := h0
      omega
    · have e2 : some (⟨gS, 0, none⟩ : Addr) = some ⟨g, 0, none⟩ := e
      cases e2
      exact ⟨hb, hr.lt⟩
  refine ⟨gD, rfl, hbD, hS.1, blk_new _ _, h.own.o.up hA, rfl, rfl, fun i hi => ?_, ⟨hn.1, hd, hs⟩, fun x hx => by have := (h.own.q.blk x hx).2; omega, by omega, by omega, by omega, fun i hi x hx => by have := ((h.own.z i hi).blk x hx).2; omega⟩
  rcases (h.z i hi).2 with ⟨e, h0⟩ | ⟨g, cap, cur, e, hg, hbk, hnc, _⟩
  · have h0' : R.L i = 0 := h0
    show R.L i ≤ C i
    omega
  · injection e with e1 e2 e3
    have e3' : C i = cap := e3
    have hnc' : R.L i ≤ cap := hnc
    show R.L i ≤ C i
    omega
/-- pick, whatever waits -/
theorem pickM_any (X M : Rnd) (x s : Int) (base top gb gD gS : Nat) (w : World) (htop : top ≤ w.heap.size) (h : RepO w base top gb gD gS X) (hok : X.Ok) (hp : PickM X M x s) :
    Calls Try.prog 26 #[.pointer (some ⟨gb, 0, none⟩)] w fun e w' => e = .returned (.tuple #[.int .i64 x, .int .i64 s]) ∧ (∃ X', Alike M X' ∧ RepO w' base top gb gD gS X') ∧ Touch [gb, gD, gS] w w' := by
  rcases hp with ⟨hn, _⟩ | ⟨_, hn, rfl, rfl, rfl⟩ | ⟨_, ⟨c0, h1, h2⟩, k, c, hp, rfl⟩
  · exact absurd hok hn
  · refine (pick_none _ base top gb gD gS w h hok hn).mono ?_
    rintro e w' ⟨rfl, hb⟩
    exact ⟨rfl, ⟨_, Alike.refl _, h.up hb⟩, Touch.ofBelow hb⟩
  · exact pick_any X base top gb gD gS c0 w htop h hok h1 h2 k M c s hp
set_option maxHeartbeats 4000000 in
theorem iPicked_any (R M : Rnd) (x s : Int) (w : World) (hs : R.Small) (h : RdRnd w R) (hp : PickM R M x s) :
    Calls Try.prog 9 #[.agg R.cells] w fun e w' => ∃ R', e = .returned (.tuple #[.agg R'.cells, .int .i64 x, .int .i64 s]) ∧ OwnRo w' w.heap.size R' ∧ Below w.heap.size w w' ∧ Alike M R' := by
  have HP : Hid (PickM R M x s) := hp
  have HR : Hid (RdRnd w R) := h
  have HS : Hid R.Small := hs
  obtain ⟨ok, hok⟩ := ok_decR R.Ok
  have HO : Hid (ok = true ↔ R.Ok) := hok
  have HA : Hid (∀ A B, Below w.heap.size w ((w.alloc A).alloc B)) := fun A B => ((Below.refl _ _).alloc (Nat.le_refl _) _).alloc (by simp) _
  clear hp h hs hok
  unfold Rnd.cells
  go_enter Try.func9, Try.ntmps9
  go_wp2_with fail
  refine (iRoundOk_any R _ (small_fit HS.out) (HR.out.up (HA.out _ _)) ok HO.out).mono ?_
  rintro e w1 ⟨rfl, hb1⟩
  obtain ⟨kA, kB, B1, z1⟩ := two_laidR hb1
  clear hb1 HA
  have cA := blk_cell kA
  cases ok
  · have hM : M = zR ∧ x = -1 ∧ s = 0 := by
      rcases HP.out with ⟨_, h1, h2, h3⟩ | ⟨ho, _⟩ | ⟨ho, _⟩
      · exact ⟨h1, h2, h3⟩
      · exact absurd (HO.out.2 ho) (by simp)
      · exact absurd (HO.out.2 ho) (by simp)
    obtain ⟨rfl, rfl, rfl⟩ := hM
    have cX := blk_cell kB
    have fX := blk_free kB
    go_wp2_with fail
    have ht := put5_touch w1 (w.heap.size + 1) (.slice none 0 0) (.slice none 0 0) (.int .i64 0) (.bool false) (.slice none 0 0)
    have cF := blk_cell (put5_blk kB (.slice none 0 0) (.slice none 0 0) (.int .i64 0) (.bool false) (.slice none 0 0))
    have hBf := B1.trans (ht.below B1.size (fun x hx => by simp at hx; omega))
    unfold put5 at cF hBf
    exact bodyPost_ret (v := .tuple #[.agg zR.cells, .int .i64 (-1), .int .i64 0]) (by simp [results, Try.results9, go_sem, cF, zR, Rnd.cells]) rfl ⟨zR, rfl, (zR_own _ _).o, hBf, Alike.refl _⟩
  have HOk : Hid R.Ok := HO.out.1 rfl
  go_wp2_with fail
  refine (copyRound_any R _ HS.out (HR.out.up B1)).mono ?_
  rintro e w2 ⟨aq, cq, ad, cd, gS, A2, C2, rfl, hOw, hb2⟩
  obtain ⟨M2, hp2, hAl2⟩ := HP.out.like (cp_alike (R := R) (aQ := aq) (cQ := cq) (aD := ad) (cD := cd) (gS := gS) (A := A2) (C := C2))
  have hok2 : (R.cp aq cq ad cd gS A2 C2).Ok := (cp_alike).okI.2 HOk.out
  obtain ⟨gD, rfl, hbD, hbS, hRep⟩ := rep_copy HOk.out hOw
  have B2 := B1.trans (hb2.mono B1.size)
  have kB2 := (hb2.block _ (blk_lt kB)).trans kB
  have hz2 := hb2.size
  have hX : Below w2.heap.size w2 (w2.alloc (.cells (R.cp aq cq (some ⟨gD, 0, none⟩) cd gS A2 C2).cells 27)) := (Below.refl _ _).alloc (Nat.le_refl _) _
  have B3 := B2.trans (hX.mono B2.size)
  have kB3 := (hX.block _ (blk_lt kB2)).trans kB2
  have HTop : Hid (w2.heap.size + 1 ≤ (w2.alloc (.cells (R.cp aq cq (some ⟨gD, 0, none⟩) cd gS A2 C2).cells 27)).heap.size) := by rw [Hid]; simp
  have HRep : Hid (RepO (w2.alloc (.cells (R.cp aq cq (some ⟨gD, 0, none⟩) cd gS A2 C2).cells 27)) w1.heap.size (w2.heap.size + 1) w2.heap.size gD gS (R.cp aq cq (some ⟨gD, 0, none⟩) cd gS A2 C2)) := hRep
  have HP2 : Hid (PickM (R.cp aq cq (some ⟨gD, 0, none⟩) cd gS A2 C2) M2 x s) := hp2
  have HOk2 : Hid (R.cp aq cq (some ⟨gD, 0, none⟩) cd gS A2 C2).Ok := hok2
  have HAl2 : Hid (Alike M M2) := hAl2
  clear hOw hb2 hRep hp2 hok2 hAl2 hX kB kB2 B1 B2 cA kA
  dsimp only [Rnd.cp, Rnd.cells]
  dsimp only [Rnd.cp, Rnd.cells] at HTop HRep HP2 HOk2 kB3 B3
  go_wp2_with fail
  generalize w2.alloc (.cells #[.slice aq R.nQ cq, .slice (some ⟨gD, 0, none⟩) R.nD cd, .int .i64 R.turn, .bool R.fresh, .slice (some ⟨gS, 0, none⟩) R.nS R.nS] 27) = w3 at *
  refine (pickM_any _ M2 x s _ _ _ _ _ _ HTop.out HRep.out HOk2.out HP2.out).mono ?_
  rintro e w4 ⟨rfl, ⟨X', hAX, hRX⟩, hT⟩
  have kB4 := (hT.block _ (blk_lt kB3) (by simp; omega)).trans kB3
  have B4 := B3.trans (hT.below B3.size (fun x hx => by simp at hx; omega))
  have HAl : Hid (Alike M X') := HAl2.out.trans hAX
  have HOw : Hid (OwnRo w4 w1.heap.size X') := hRX.own
  have cG := blk_cell hRX.box
  unfold Rnd.cells at cG
  have cX := blk_cell kB4
  have fX := blk_free kB4
  have hne : w2.heap.size ≠ w.heap.size + 1 := by omega
  have hne2 : w.heap.size + 1 ≠ w2.heap.size := by omega
  clear hAX hRX hT kB3 B3 HRep HTop HP2 HOk2 HAl2
  go_wp2_with fail
  have ht := put5_touch w4 (w.heap.size + 1) (.slice X'.aQ X'.nQ X'.cQ) (.slice X'.aD X'.nD X'.cD) (.int .i64 X'.turn) (.bool X'.fresh) (.slice X'.aS X'.nS X'.cS)
  have cF := blk_cell (put5_blk kB4 (.slice X'.aQ X'.nQ X'.cQ) (.slice X'.aD X'.nD X'.cD) (.int .i64 X'.turn) (.bool X'.fresh) (.slice X'.aS X'.nS X'.cS))
  have hBf := B4.trans (ht.below B4.size (fun x hx => by simp at hx; omega))
  have hOf := (HOw.out.touchLo ht (fun x hx => by simp at hx; omega)).mono (show w.heap.size ≤ w1.heap.size by omega)
  unfold put5 at cF hBf hOf
  exact bodyPost_ret (v := .tuple #[.agg #[.slice X'.aQ X'.nQ X'.cQ, .slice X'.aD X'.nD X'.cD, .int .i64 X'.turn, .bool X'.fresh, .slice X'.aS X'.nS X'.cS], .int .i64 x, .int .i64 s]) (by simp [results, Try.results9, go_sem, cF]) rfl ⟨X', rfl, hOf, hBf, HAl.out⟩
end Go.Proofs.Ytnfcmiiibkbmfaa
