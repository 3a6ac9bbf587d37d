/- Counts changed by one limit, by both sides. -/
import Derived.Test.YtpldaohflojkmaaCnAdd
namespace Go.Proofs.Ytpldaohflojkmaa
open Go.RowKit
set_option linter.unusedVariables false
set_option linter.unusedSimpArgs false

theorem laid3 {w wi : World} {o o' o2 : Obj} (h : Below (w.heap.size + 3) (((w.alloc o).alloc o').alloc o2) wi) : wi.heap[w.heap.size]? = some o ∧ wi.heap[w.heap.size + 1]? = some o' ∧ wi.heap[w.heap.size + 1 + 1]? = some o2 := by
  have e1 : (w.alloc o).heap.size = w.heap.size + 1 := by simp
  have e2 : ((w.alloc o).alloc o').heap.size = w.heap.size + 1 + 1 := by simp
  refine ⟨(h.block _ (by omega)).trans ((blk_old _ (by omega)).trans ((blk_old _ (by omega)).trans (blk_new _ _))), (h.block _ (by omega)).trans ((blk_old _ (by omega)).trans ?_), (h.block _ (by omega)).trans ?_⟩
  · have := blk_new (w.alloc o) o'
    rw [e1] at this
    exact this
  · have := blk_new ((w.alloc o).alloc o') o2
    rw [e2] at this
    exact this
theorem under3 {w wi : World} {o o' o2 : Obj} (h : Below (w.heap.size + 3) (((w.alloc o).alloc o').alloc o2) wi) : Below w.heap.size w wi :=
  ((((Below.refl _ _).alloc (Nat.le_refl _) o).alloc (by simp) o').alloc (by simp; omega) o2).trans (h.mono (by omega))
theorem upper3 {w wi : World} {o o' o2 : Obj} (h : Below (w.heap.size + 3) (((w.alloc o).alloc o').alloc o2) wi) : w.heap.size + 3 ≤ wi.heap.size := by
  have := h.size
  simpa using this
theorem next3 {w wi wj : World} {o o' o2 : Obj} (h : Below (w.heap.size + 3) (((w.alloc o).alloc o').alloc o2) wi) (k : Below wi.heap.size wi wj) : Below (w.heap.size + 3) (((w.alloc o).alloc o').alloc o2) wj :=
  h.trans (k.mono (upper3 h))
def Cnt.addU (N : Cnt) (i : Nat) (y : Int) : Cnt := { N with u := Go.Proofs.Ytpldaohflojkmaa.addU N.u i y }
def Cnt.addL (N : Cnt) (y : Int) : Cnt := { N with lo := N.lo + y }
def orZero (N : Cnt) (ok : Bool) : Cnt := if ok then N else zeroC
structure OkFacts (C : Cfg) (N : Cnt) : Prop where
  u : 2 ≤ N.nU ∧ N.nU ≤ 4
  p : 2 ≤ N.nP ∧ N.nP ≤ 4
  lo : 0 ≤ N.lo ∧ N.lo ≤ 1000
  at' : ∀ i, i < N.nU → 0 ≤ N.u i ∧ N.u i ≤ 2000
theorem Cnt.Ok.facts {C : Cfg} {N : Cnt} (h : Cnt.Ok C N) : OkFacts C N := by
  have h1 := h.nU
  have h2 := h.nP
  have h3 := h.c.num.p
  have h4 := h.lo
  have h5 := h.c.num.lo
  have h6 := h.c.num.xo
  have h7 := h.c.num.hd
  exact ⟨⟨by omega, by omega⟩, ⟨by omega, by omega⟩, ⟨by omega, by omega⟩, fun i hi => by have := h.u i hi; omega⟩
theorem OkFacts.small {C : Cfg} {N : Cnt} (h : OkFacts C N) : N.Small := ⟨by have := h.u; omega, by have := h.p; omega⟩
set_option maxHeartbeats 4000000 in
theorem iChangedP_any (C : Cfg) (N : Cnt) (i : Nat) (y : Int) (w : World) (hN : Cnt.Ok C N) (h : RdCnt w N) (hi : i < N.nU) (hy1 : -5 ≤ y) (hy2 : y ≤ 5) (ok : Bool) (hok : ok = true ↔ Cnt.Ok C (N.addU i y)) :
    Calls Try.prog 25 #[.agg C.cells, .agg N.cells, .iface 72 (.agg #[.int .i64 (i : Int)]), .int .i64 y] w fun e w' => ∃ M : Cnt, e = .returned (.tuple #[.agg M.cells, .bool ok]) ∧ OwnCn w' w.heap.size M ∧ Below w.heap.size w w' ∧ AlikeC (orZero (N.addU i y) ok) M := by
  have HO : Hid (ok = true ↔ Cnt.Ok C (N.addU i y)) := hok
  have HR : Hid (RdCnt w N) := h
  have HFa : Hid (OkFacts C N) := hN.facts
  have HB0 : Hid (Below (w.heap.size + 3) (((w.alloc (.cells #[.int .i64 C.p, .int .i64 C.c, .int .i64 C.xo, .int .i64 C.xn, .int .i64 C.hd, .int .i64 C.lo, .int .i64 C.dl] 25)).alloc (.cells #[.slice N.aU N.nU N.cU, .int .i64 N.lo, .slice N.aP N.nP N.cP] 29)).alloc (.cells #[.slice none 0 0, .int .i64 0, .slice none 0 0] 29)) (((w.alloc (.cells #[.int .i64 C.p, .int .i64 C.c, .int .i64 C.xo, .int .i64 C.xn, .int .i64 C.hd, .int .i64 C.lo, .int .i64 C.dl] 25)).alloc (.cells #[.slice N.aU N.nU N.cU, .int .i64 N.lo, .slice N.aP N.nP N.cP] 29)).alloc (.cells #[.slice none 0 0, .int .i64 0, .slice none 0 0] 29))) := Below.refl _ _
  have hsm := HFa.out.small.u
  have HFit : Hid (N.nU ≤ maxLen ∧ N.nP ≤ maxLen) := ⟨HFa.out.small.fit.u, HFa.out.small.fit.p⟩
  have hl1 := HFa.out.lo.1
  have hl2 := HFa.out.lo.2
  have hu1 := (HFa.out.at' i hi).1
  have hu2 := (HFa.out.at' i hi).2
  have hi2 : (i : Int) < N.nU := by omega
  have hnm : (N.nU : Int) ≤ 1048576 := by omega
  clear hok h hN
  unfold Cfg.cells Cnt.cells
  go_enter Try.func25, Try.ntmps25
  go_wp2_with fail
  refine (copyCounts_any N _ (by have := HFa.out.u; omega) (by have := HFa.out.p; omega) HFa.out.small (HR.out.up (under3 HB0.out))).mono ?_
  rintro e w1 ⟨M, rfl, hM, hb1, hAM⟩
  have hB := next3 HB0.out hb1
  have HL1 : Hid (w.heap.size + 3 ≤ w1.heap.size) := upper3 hB
  have HMb : Hid (w.heap.size + 3 ≤ (((w.alloc (.cells #[.int .i64 C.p, .int .i64 C.c, .int .i64 C.xo, .int .i64 C.xn, .int .i64 C.hd, .int .i64 C.lo, .int .i64 C.dl] 25)).alloc (.cells #[.slice N.aU N.nU N.cU, .int .i64 N.lo, .slice N.aP N.nP N.cP] 29)).alloc (.cells #[.slice none 0 0, .int .i64 0, .slice none 0 0] 29)).heap.size) := by rw [Hid]; simp
  obtain ⟨aU, nU', cU, u', lo', aP, nP', cP, p'⟩ := M
  obtain ⟨h1, h2, h3, h4, h5⟩ := hAM
  dsimp only at h1 h2 h3 h4 h5
  subst h1 h2 h3 h4 h5
  obtain ⟨hMu, hMp⟩ := hM
  dsimp only at hMu hMp
  rcases hMu with h0 | ⟨gU, rfl, hgU, hrU⟩
  · have := HFa.out.u
    omega
  have hVP : VT 4 w1 (w.heap.size + 3) aP N.nP (fun i => .bool (N.p i)) := hMp.mono HMb.out
  have HgU : Hid (w.heap.size + 3 ≤ gU) := Nat.le_trans HMb.out hgU
  clear hb1 hMp hgU
  have hA := (Below.refl w1.heap.size w1).alloc (Nat.le_refl _) (.cells #[.slice (some ⟨gU, 0, none⟩) N.nU cU, .int .i64 N.lo, .slice aP N.nP cP] 29)
  have kX := blk_new w1 (.cells #[.slice (some ⟨gU, 0, none⟩) N.nU cU, .int .i64 N.lo, .slice aP N.nP cP] 29)
  have l1 := hrU.lt
  have HgX : Hid (gU ≠ w1.heap.size) := by show gU ≠ w1.heap.size; omega
  replace hrU := hrU.keep (hA.block _ hrU.lt)
  replace hVP := hVP.up hA
  replace hB := next3 hB hA
  have cb := blk_cell (laid3 hB).1
  clear hA l1
  dsimp only [Cnt.cells]
  go_wp2_with fail
  generalize w1.alloc (.cells #[.slice (some ⟨gU, 0, none⟩) N.nU cU, .int .i64 N.lo, .slice aP N.nP cP] 29) = w2 at *
  refine (portChange_any w1.heap.size gU N.nU cU i _ _ N.u y _ hi (by omega) kX hrU (by omega) (by omega)).mono ?_
  rintro e w3 ⟨rfl, hr3, ht3⟩
  have kX3 := (ht3.block _ (blk_lt kX) (by have := HgX.out; simp; omega)).trans kX
  have hM3 : OwnCn w3 (w.heap.size + 3) ⟨some ⟨gU, 0, none⟩, N.nU, cU, Go.Proofs.Ytpldaohflojkmaa.addU N.u i y, N.lo, aP, N.nP, cP, N.p⟩ := ⟨VT.of HgU.out hr3, hVP.touchS ht3 (fun x hx hy => by simp at hy; subst hy; obtain ⟨arr, hk, _⟩ := hrU; exact VT.boxOut hVP (by decide) hk hx)⟩
  have kC3 := (ht3.block _ (blk_lt (laid3 hB).1) (by have := HgU.out; have := HL1.out; simp; omega)).trans (laid3 hB).1
  have kR3 := (ht3.block _ (blk_lt (laid3 hB).2.2) (by have := HgU.out; have := HL1.out; simp; omega)).trans (laid3 hB).2.2
  have B3 := (under3 hB).trans (ht3.below (under3 hB).size (fun x hx => by have := HgU.out; have := HL1.out; simp at hx; omega))
  clear hB hrU hVP kX hr3 ht3 cb
  have cb := blk_cell kC3
  have cX := blk_cell kX3
  go_wp2_with fail
  refine (iCountsOk_any C ⟨some ⟨gU, 0, none⟩, N.nU, cU, Go.Proofs.Ytpldaohflojkmaa.addU N.u i y, N.lo, aP, N.nP, cP, N.p⟩ _ ⟨HFit.out.1, HFit.out.2⟩ hM3.rd ok (HO.out.trans ⟨fun k => ⟨k.c, k.nU, k.nP, k.lo, k.u⟩, fun k => ⟨k.c, k.nU, k.nP, k.lo, k.u⟩⟩)).mono ?_
  rintro e w4 ⟨rfl, hb4⟩
  have hM4 := hM3.up hb4
  have kX4 := (hb4.block _ (blk_lt kX3)).trans kX3
  have kR4 := (hb4.block _ (blk_lt kR3)).trans kR3
  have B4 := B3.trans (hb4.mono B3.size)
  clear hM3 kX3 kR3 kC3 B3 hb4 cb cX
  have cR := blk_cell kR4
  have fR := blk_free kR4
  have cX := blk_cell kX4
  cases ok
  · have kz3 := put3_blk kR4 (.slice none 0 0) (.int .i64 0) (.slice none 0 0)
    have HB : Hid (Below w.heap.size w (put3 w4 (w.heap.size + 1 + 1) (.slice none 0 0) (.int .i64 0) (.slice none 0 0))) := B4.trans ((put3_touch _ _ _ _ _).below B4.size (fun x hx => by simp at hx; omega))
    have cB := blk_cell kz3
    clear kz3 kX4 kR4 B4 hM4
    unfold put3 at cB
    go_wp2_with fail
    exact bodyPost_ret (v := .tuple #[.agg #[.slice none 0 0, .int .i64 0, .slice none 0 0], .bool false]) (by simp [results, Try.results25, go_sem, cB]) rfl ⟨zeroC, rfl, zeroC_own _ _, HB.out, AlikeC.refl _⟩
  · have kz3 := put3_blk kR4 (.slice (some ⟨gU, 0, none⟩) N.nU cU) (.int .i64 N.lo) (.slice aP N.nP cP)
    have HB : Hid (Below w.heap.size w (put3 w4 (w.heap.size + 1 + 1) (.slice (some ⟨gU, 0, none⟩) N.nU cU) (.int .i64 N.lo) (.slice aP N.nP cP))) := B4.trans ((put3_touch _ _ _ _ _).below B4.size (fun x hx => by simp at hx; omega))
    have HM : Hid (OwnCn (put3 w4 (w.heap.size + 1 + 1) (.slice (some ⟨gU, 0, none⟩) N.nU cU) (.int .i64 N.lo) (.slice aP N.nP cP)) w.heap.size ⟨some ⟨gU, 0, none⟩, N.nU, cU, Go.Proofs.Ytpldaohflojkmaa.addU N.u i y, N.lo, aP, N.nP, cP, N.p⟩) := (touch3 hM4 kR4).mono (by omega)
    have cB := blk_cell kz3
    clear kz3 kX4 kR4 B4 hM4
    unfold put3 at cB
    go_wp2_with fail
    exact bodyPost_ret (v := .tuple #[.agg #[.slice (some ⟨gU, 0, none⟩) N.nU cU, .int .i64 N.lo, .slice aP N.nP cP], .bool true]) (by simp [results, Try.results25, go_sem, cB]) rfl ⟨⟨some ⟨gU, 0, none⟩, N.nU, cU, Go.Proofs.Ytpldaohflojkmaa.addU N.u i y, N.lo, aP, N.nP, cP, N.p⟩, rfl, HM.out, HB.out, ⟨rfl, rfl, rfl, rfl, rfl⟩⟩
set_option maxHeartbeats 4000000 in
theorem iChangedL_any (C : Cfg) (N : Cnt) (y : Int) (w : World) (hN : Cnt.Ok C N) (h : RdCnt w N) (hy1 : -5 ≤ y) (hy2 : y ≤ 5) (ok : Bool) (hok : ok = true ↔ Cnt.Ok C (N.addL y)) :
    Calls Try.prog 25 #[.agg C.cells, .agg N.cells, .iface 74 (.agg #[]), .int .i64 y] w fun e w' => ∃ M : Cnt, e = .returned (.tuple #[.agg M.cells, .bool ok]) ∧ OwnCn w' w.heap.size M ∧ Below w.heap.size w w' ∧ AlikeC (orZero (N.addL y) ok) M := by
  have HO : Hid (ok = true ↔ Cnt.Ok C (N.addL y)) := hok
  have HR : Hid (RdCnt w N) := h
  have HFa : Hid (OkFacts C N) := hN.facts
  have HB0 : Hid (Below (w.heap.size + 3) (((w.alloc (.cells #[.int .i64 C.p, .int .i64 C.c, .int .i64 C.xo, .int .i64 C.xn, .int .i64 C.hd, .int .i64 C.lo, .int .i64 C.dl] 25)).alloc (.cells #[.slice N.aU N.nU N.cU, .int .i64 N.lo, .slice N.aP N.nP N.cP] 29)).alloc (.cells #[.slice none 0 0, .int .i64 0, .slice none 0 0] 29)) (((w.alloc (.cells #[.int .i64 C.p, .int .i64 C.c, .int .i64 C.xo, .int .i64 C.xn, .int .i64 C.hd, .int .i64 C.lo, .int .i64 C.dl] 25)).alloc (.cells #[.slice N.aU N.nU N.cU, .int .i64 N.lo, .slice N.aP N.nP N.cP] 29)).alloc (.cells #[.slice none 0 0, .int .i64 0, .slice none 0 0] 29))) := Below.refl _ _
  have hsm := HFa.out.small.u
  have HFit : Hid (N.nU ≤ maxLen ∧ N.nP ≤ maxLen) := ⟨HFa.out.small.fit.u, HFa.out.small.fit.p⟩
  have hl1 := HFa.out.lo.1
  have hl2 := HFa.out.lo.2
  clear hok h hN
  unfold Cfg.cells Cnt.cells
  go_enter Try.func25, Try.ntmps25
  go_wp2_with fail
  refine (copyCounts_any N _ (by have := HFa.out.u; omega) (by have := HFa.out.p; omega) HFa.out.small (HR.out.up (under3 HB0.out))).mono ?_
  rintro e w1 ⟨M, rfl, hM, hb1, hAM⟩
  have hB := next3 HB0.out hb1
  have HL1 : Hid (w.heap.size + 3 ≤ w1.heap.size) := upper3 hB
  have HMb : Hid (w.heap.size + 3 ≤ (((w.alloc (.cells #[.int .i64 C.p, .int .i64 C.c, .int .i64 C.xo, .int .i64 C.xn, .int .i64 C.hd, .int .i64 C.lo, .int .i64 C.dl] 25)).alloc (.cells #[.slice N.aU N.nU N.cU, .int .i64 N.lo, .slice N.aP N.nP N.cP] 29)).alloc (.cells #[.slice none 0 0, .int .i64 0, .slice none 0 0] 29)).heap.size) := by rw [Hid]; simp
  obtain ⟨aU, nU', cU, u', lo', aP, nP', cP, p'⟩ := M
  obtain ⟨h1, h2, h3, h4, h5⟩ := hAM
  dsimp only at h1 h2 h3 h4 h5
  subst h1 h2 h3 h4 h5
  obtain ⟨hMu, hMp⟩ := hM
  dsimp only at hMu hMp
  rcases hMu with h0 | ⟨gU, rfl, hgU, hrU⟩
  · have := HFa.out.u
    omega
  have hVP : VT 4 w1 (w.heap.size + 3) aP N.nP (fun i => .bool (N.p i)) := hMp.mono HMb.out
  have HgU : Hid (w.heap.size + 3 ≤ gU) := Nat.le_trans HMb.out hgU
  clear hb1 hMp hgU
  have hA := (Below.refl w1.heap.size w1).alloc (Nat.le_refl _) (.cells #[.slice (some ⟨gU, 0, none⟩) N.nU cU, .int .i64 N.lo, .slice aP N.nP cP] 29)
  have kX := blk_new w1 (.cells #[.slice (some ⟨gU, 0, none⟩) N.nU cU, .int .i64 N.lo, .slice aP N.nP cP] 29)
  have l1 := hrU.lt
  have HgX : Hid (gU ≠ w1.heap.size) := by show gU ≠ w1.heap.size; omega
  replace hrU := hrU.keep (hA.block _ hrU.lt)
  replace hVP := hVP.up hA
  replace hB := next3 hB hA
  have cb := blk_cell (laid3 hB).1
  clear hA l1
  dsimp only [Cnt.cells]
  go_wp2_with fail
  generalize w1.alloc (.cells #[.slice (some ⟨gU, 0, none⟩) N.nU cU, .int .i64 N.lo, .slice aP N.nP cP] 29) = w2 at *
  refine (lossyChange_any w1.heap.size _ _ N.lo y _ kX (by omega) (by omega)).mono ?_
  rintro e w3 ⟨rfl, kX3, ht3⟩
  have hM3 : OwnCn w3 (w.heap.size + 3) ⟨some ⟨gU, 0, none⟩, N.nU, cU, N.u, N.lo + y, aP, N.nP, cP, N.p⟩ := ⟨VT.of HgU.out (hrU.keep (ht3.block _ hrU.lt (by have := HgX.out; simp; omega))), hVP.touchS ht3 (fun x hx hy => by simp at hy; subst hy; exact VT.boxOut hVP (by decide) kX hx)⟩
  have kC3 := (ht3.block _ (blk_lt (laid3 hB).1) (by have := HgU.out; have := HL1.out; simp; omega)).trans (laid3 hB).1
  have kR3 := (ht3.block _ (blk_lt (laid3 hB).2.2) (by have := HgU.out; have := HL1.out; simp; omega)).trans (laid3 hB).2.2
  have B3 := (under3 hB).trans (ht3.below (under3 hB).size (fun x hx => by have := HgU.out; have := HL1.out; simp at hx; omega))
  clear hB hrU hVP kX ht3 cb
  have cb := blk_cell kC3
  have cX := blk_cell kX3
  go_wp2_with fail
  refine (iCountsOk_any C ⟨some ⟨gU, 0, none⟩, N.nU, cU, N.u, N.lo + y, aP, N.nP, cP, N.p⟩ _ ⟨HFit.out.1, HFit.out.2⟩ hM3.rd ok (HO.out.trans ⟨fun k => ⟨k.c, k.nU, k.nP, k.lo, k.u⟩, fun k => ⟨k.c, k.nU, k.nP, k.lo, k.u⟩⟩)).mono ?_
  rintro e w4 ⟨rfl, hb4⟩
  have hM4 := hM3.up hb4
  have kX4 := (hb4.block _ (blk_lt kX3)).trans kX3
  have kR4 := (hb4.block _ (blk_lt kR3)).trans kR3
  have B4 := B3.trans (hb4.mono B3.size)
  clear hM3 kX3 kR3 kC3 B3 hb4 cb cX
  have cR := blk_cell kR4
  have fR := blk_free kR4
  have cX := blk_cell kX4
  cases ok
  · have kz3 := put3_blk kR4 (.slice none 0 0) (.int .i64 0) (.slice none 0 0)
    have HB : Hid (Below w.heap.size w (put3 w4 (w.heap.size + 1 + 1) (.slice none 0 0) (.int .i64 0) (.slice none 0 0))) := B4.trans ((put3_touch _ _ _ _ _).below B4.size (fun x hx => by simp at hx; omega))
    have cB := blk_cell kz3
    clear kz3 kX4 kR4 B4 hM4
    unfold put3 at cB
    go_wp2_with fail
    exact bodyPost_ret (v := .tuple #[.agg #[.slice none 0 0, .int .i64 0, .slice none 0 0], .bool false]) (by simp [results, Try.results25, go_sem, cB]) rfl ⟨zeroC, rfl, zeroC_own _ _, HB.out, AlikeC.refl _⟩
  · have kz3 := put3_blk kR4 (.slice (some ⟨gU, 0, none⟩) N.nU cU) (.int .i64 (N.lo + y)) (.slice aP N.nP cP)
    have HB : Hid (Below w.heap.size w (put3 w4 (w.heap.size + 1 + 1) (.slice (some ⟨gU, 0, none⟩) N.nU cU) (.int .i64 (N.lo + y)) (.slice aP N.nP cP))) := B4.trans ((put3_touch _ _ _ _ _).below B4.size (fun x hx => by simp at hx; omega))
    have HM : Hid (OwnCn (put3 w4 (w.heap.size + 1 + 1) (.slice (some ⟨gU, 0, none⟩) N.nU cU) (.int .i64 (N.lo + y)) (.slice aP N.nP cP)) w.heap.size ⟨some ⟨gU, 0, none⟩, N.nU, cU, N.u, N.lo + y, aP, N.nP, cP, N.p⟩) := (touch3 hM4 kR4).mono (by omega)
    have cB := blk_cell kz3
    clear kz3 kX4 kR4 B4 hM4
    unfold put3 at cB
    go_wp2_with fail
    exact bodyPost_ret (v := .tuple #[.agg #[.slice (some ⟨gU, 0, none⟩) N.nU cU, .int .i64 (N.lo + y), .slice aP N.nP cP], .bool true]) (by simp [results, Try.results25, go_sem, cB]) rfl ⟨⟨some ⟨gU, 0, none⟩, N.nU, cU, N.u, N.lo + y, aP, N.nP, cP, N.p⟩, rfl, HM.out, HB.out, ⟨rfl, rfl, rfl, rfl, rfl⟩⟩
set_option maxHeartbeats 4000000 in
theorem sChangedP_any (C : Cfg) (N : Cnt) (i : Nat) (y : Int) (w : World) (hN : Cnt.Ok C N) (h : RdCnt w N) (hi : i < N.nU) (hy1 : -5 ≤ y) (hy2 : y ≤ 5) (ok : Bool) (hok : ok = true ↔ Cnt.Ok C (N.addU i y)) :
    Calls Try.prog 28 #[.agg C.cells, .agg N.cells, .int .i64 (i : Int), .int .i64 2, .int .i64 y] w fun e w' => ∃ M : Cnt, e = .returned (.tuple #[.agg M.cells, .bool ok]) ∧ OwnCn w' w.heap.size M ∧ Below w.heap.size w w' ∧ AlikeC (orZero (N.addU i y) ok) M := by
  have HO : Hid (ok = true ↔ Cnt.Ok C (N.addU i y)) := hok
  have HR : Hid (RdCnt w N) := h
  have HFa : Hid (OkFacts C N) := hN.facts
  have HB0 : Hid (Below (w.heap.size + 3) (((w.alloc (.cells #[.int .i64 C.p, .int .i64 C.c, .int .i64 C.xo, .int .i64 C.xn, .int .i64 C.hd, .int .i64 C.lo, .int .i64 C.dl] 25)).alloc (.cells #[.slice N.aU N.nU N.cU, .int .i64 N.lo, .slice N.aP N.nP N.cP] 29)).alloc (.cells #[.slice none 0 0, .int .i64 0, .slice none 0 0] 29)) (((w.alloc (.cells #[.int .i64 C.p, .int .i64 C.c, .int .i64 C.xo, .int .i64 C.xn, .int .i64 C.hd, .int .i64 C.lo, .int .i64 C.dl] 25)).alloc (.cells #[.slice N.aU N.nU N.cU, .int .i64 N.lo, .slice N.aP N.nP N.cP] 29)).alloc (.cells #[.slice none 0 0, .int .i64 0, .slice none 0 0] 29))) := Below.refl _ _
  have hsm := HFa.out.small.u
  have HFit : Hid (N.nU ≤ maxLen ∧ N.nP ≤ maxLen) := ⟨HFa.out.small.fit.u, HFa.out.small.fit.p⟩
  have hl1 := HFa.out.lo.1
  have hl2 := HFa.out.lo.2
  have hu1 := (HFa.out.at' i hi).1
  have hu2 := (HFa.out.at' i hi).2
  have hi2 : (i : Int) < N.nU := by omega
  have hnm : (N.nU : Int) ≤ 1048576 := by omega
  clear hok h hN
  unfold Cfg.cells Cnt.cells
  go_enter Try.func28, Try.ntmps28
  go_wp2_with fail
  refine (l5Copy_any N _ (by have := HFa.out.u; omega) (by have := HFa.out.p; omega) HFa.out.small (HR.out.up (under3 HB0.out))).mono ?_
  rintro e w1 ⟨M, rfl, hM, hb1, hAM⟩
  have hB := next3 HB0.out hb1
  have HL1 : Hid (w.heap.size + 3 ≤ w1.heap.size) := upper3 hB
  have HMb : Hid (w.heap.size + 3 ≤ (((w.alloc (.cells #[.int .i64 C.p, .int .i64 C.c, .int .i64 C.xo, .int .i64 C.xn, .int .i64 C.hd, .int .i64 C.lo, .int .i64 C.dl] 25)).alloc (.cells #[.slice N.aU N.nU N.cU, .int .i64 N.lo, .slice N.aP N.nP N.cP] 29)).alloc (.cells #[.slice none 0 0, .int .i64 0, .slice none 0 0] 29)).heap.size) := by rw [Hid]; simp
  obtain ⟨aU, nU', cU, u', lo', aP, nP', cP, p'⟩ := M
  obtain ⟨h1, h2, h3, h4, h5⟩ := hAM
  dsimp only at h1 h2 h3 h4 h5
  subst h1 h2 h3 h4 h5
  obtain ⟨hMu, hMp⟩ := hM
  dsimp only at hMu hMp
  rcases hMu with h0 | ⟨gU, rfl, hgU, hrU⟩
  · have := HFa.out.u
    omega
  have hVP : VT 4 w1 (w.heap.size + 3) aP N.nP (fun i => .bool (N.p i)) := hMp.mono HMb.out
  have HgU : Hid (w.heap.size + 3 ≤ gU) := Nat.le_trans HMb.out hgU
  clear hb1 hMp hgU
  have hA := (Below.refl w1.heap.size w1).alloc (Nat.le_refl _) (.cells #[.slice (some ⟨gU, 0, none⟩) N.nU cU, .int .i64 N.lo, .slice aP N.nP cP] 29)
  have kX := blk_new w1 (.cells #[.slice (some ⟨gU, 0, none⟩) N.nU cU, .int .i64 N.lo, .slice aP N.nP cP] 29)
  have l1 := hrU.lt
  have HgX : Hid (gU ≠ w1.heap.size) := by show gU ≠ w1.heap.size; omega
  replace hrU := hrU.keep (hA.block _ hrU.lt)
  replace hVP := hVP.up hA
  replace hB := next3 hB hA
  have cb := blk_cell (laid3 hB).1
  clear hA l1
  dsimp only [Cnt.cells]
  have cX := blk_cell kX
  have e1 : IntKind.i64.wrap (N.u i + y) = N.u i + y := wrapC _ (by omega) (by omega)
  go_wp2_with fail
  generalize w1.alloc (.cells #[.slice (some ⟨gU, 0, none⟩) N.nU cU, .int .i64 N.lo, .slice aP N.nP cP] 29) = w2 at *
  obtain ⟨w3, hw3⟩ : ∃ w3, w3 = (w2.setCell ⟨gU, i, none⟩ (.int .i64 (N.u i + y))).drew := ⟨_, rfl⟩
  have ht3 : Touch [gU] w2 w3 := by
    rw [hw3]
    have t := (Touch.refl [gU] w2).set (g := gU) (by simp) i (.int .i64 (N.u i + y))
    exact ⟨t.os, t.tape, t.output, t.size, t.block⟩
  have hr3 : RowTo gU 2 N.nU (fun k => .int .i64 (Go.Proofs.Ytpldaohflojkmaa.addU N.u i y k)) N.nU w3 := by
    rw [hw3]
    exact ((hrU.setAtC i (.int .i64 (N.u i + y)) hi).keep (w' := (w2.setCell ⟨gU, i, none⟩ (.int .i64 (N.u i + y))).drew) rfl).extC (fun j _ => by
      unfold Go.Proofs.Ytpldaohflojkmaa.addU
      by_cases e : j = i
      · subst e; simp
      · simp [e])
  have kX3 := (ht3.block _ (blk_lt kX) (by have := HgX.out; simp; omega)).trans kX
  have cX1 := blk_cell kX3
  have c0 : w2.drew.cell? ⟨gU, i, none⟩ = some (.int .i64 (N.u i)) := hrU.at i hi
  have f0 : w2.drew.frozen? ⟨gU, i, none⟩ = false := hrU.free i
  rw [hw3] at cX1
  refine wp_region_held_drew (S := fun w' => ∀ o, w'.cell? ⟨w1.heap.size, o, none⟩ = (#[.slice (some ⟨gU, 0, none⟩) N.nU cU, .int .i64 N.lo, .slice aP N.nP cP] : Array Value)[o]?) (by kernel_rfl) cX (fun hHeld => ?_)
  refine takeD (i := 0) (some 17) (v := ?_) rfl rfl (by kernel_rfl) (by kernel_rfl) (by kernel_rfl) (fun _ _ _ h => h) (by kernel_rfl) ?_ (by assumption) ?_
  rotate_left
  · intro wx hSw
    try dsimp only at hSw
    go_simp
    try (with_reducible rfl)
  try simp only [Act.put, List.setIfInBounds_toArray, List.set_cons_zero, List.set_cons_succ]
  refine takeD (i := 1) (some 18) (v := ?_) rfl rfl (by kernel_rfl) (by kernel_rfl) (by kernel_rfl) (fun _ _ _ h => h) (by kernel_rfl) ?_ (by assumption) ?_
  rotate_left
  · intro wx hSw
    try dsimp only at hSw
    go_simp
    try (with_reducible rfl)
  try simp only [Act.put, List.setIfInBounds_toArray, List.set_cons_zero, List.set_cons_succ]
  refine takeD (i := 2) (some 19) (v := ?_) rfl rfl (by kernel_rfl) (by kernel_rfl) (by kernel_rfl) (fun _ _ _ h => h) (by kernel_rfl) ?_ (by assumption) ?_
  rotate_left
  · intro wx hSw
    try dsimp only at hSw
    go_simp
    try (with_reducible rfl)
  try simp only [Act.put, List.setIfInBounds_toArray, List.set_cons_zero, List.set_cons_succ]
  refine takeD (i := 3) (some 20) (v := ?_) rfl rfl (by kernel_rfl) (by kernel_rfl) (by kernel_rfl) (fun _ _ _ h => h) (by kernel_rfl) ?_ (by assumption) ?_
  rotate_left
  · intro wx hSw
    try dsimp only at hSw
    go_simp
    try (with_reducible rfl)
  try simp only [Act.put, List.setIfInBounds_toArray, List.set_cons_zero, List.set_cons_succ]
  refine takeD (i := 4) (some 21) (v := ?_) rfl rfl (by kernel_rfl) (by kernel_rfl) (by kernel_rfl) (fun _ _ _ h => h) (by kernel_rfl) ?_ (by assumption) ?_
  rotate_left
  · intro wx hSw
    try dsimp only at hSw
    go_simp
    try (with_reducible rfl)
  try simp only [Act.put, List.setIfInBounds_toArray, List.set_cons_zero, List.set_cons_succ]
  refine takeD (i := 5) (some 22) (v := ?_) rfl rfl (by kernel_rfl) (by kernel_rfl) (by kernel_rfl) (fun _ _ _ h => h) (by kernel_rfl) ?_ (by assumption) ?_
  rotate_left
  · intro wx hSw
    try dsimp only at hSw
    go_simp
    try (with_reducible rfl)
  try simp only [Act.put, List.setIfInBounds_toArray, List.set_cons_zero, List.set_cons_succ]
  refine takeD (i := 6) (some 23) (v := ?_) rfl rfl (by kernel_rfl) (by kernel_rfl) (by kernel_rfl) (fun _ _ _ h => h) (by kernel_rfl) ?_ (by assumption) ?_
  rotate_left
  · intro wx hSw
    try dsimp only at hSw
    go_simp
    try (with_reducible rfl)
  try simp only [Act.put, List.setIfInBounds_toArray, List.set_cons_zero, List.set_cons_succ]
  refine takeD (i := 8) (some 25) (v := ?_) rfl rfl (by kernel_rfl) (by kernel_rfl) (by kernel_rfl) (fun _ _ _ h => h) (by kernel_rfl) ?_ (by assumption) ?_
  rotate_left
  · intro wx hSw
    try dsimp only at hSw
    go_simp
    try (with_reducible rfl)
  try simp only [Act.put, List.setIfInBounds_toArray, List.set_cons_zero, List.set_cons_succ]
  refine wpAnyH_ready (rs := [7]) (by kernel_rfl) (by simp) ?_
  refine AllReadyH.cons rfl (fun K hK => ?_) AllReadyH.nil
  go_simp
  refine hK.out _ _ cX (fun hHeld => ?_)
  clear hK K
  try simp only [Act.put, List.setIfInBounds_toArray, List.set_cons_zero, List.set_cons_succ]
  refine takeD (i := 9) (some 26) (v := ?_) rfl rfl (by kernel_rfl) (by kernel_rfl) (by kernel_rfl) (fun _ _ _ h => h) (by kernel_rfl) ?_ (by assumption) ?_
  rotate_left
  · intro wx hSw
    try dsimp only at hSw
    go_simp
    try (with_reducible rfl)
  try simp only [Act.put, List.setIfInBounds_toArray, List.set_cons_zero, List.set_cons_succ]
  refine takeD (i := 10) (some 27) (v := ?_) rfl rfl (by kernel_rfl) (by kernel_rfl) (by kernel_rfl) (fun _ _ _ h => h) (by kernel_rfl) ?_ (by assumption) ?_
  rotate_left
  · intro wx hSw
    try dsimp only at hSw
    go_simp
    try (with_reducible rfl)
  try simp only [Act.put, List.setIfInBounds_toArray, List.set_cons_zero, List.set_cons_succ]
  refine wpAnyH_ready (rs := [11]) (by kernel_rfl) (by simp) ?_
  refine AllReadyH.cons rfl (fun K hK => ?_) AllReadyH.nil
  go_simp
  refine hK.out _ _ cX1 (fun hHeld => ?_)
  clear hK K
  try simp only [Act.put, List.setIfInBounds_toArray, List.set_cons_zero, List.set_cons_succ]
  refine wpAnyH_done (by kernel_rfl) ?_ _
  rw [← hw3]
  clear hw3 c0 f0 cX cX1 hHeld
  have hM3 : OwnCn w3 (w.heap.size + 3) ⟨some ⟨gU, 0, none⟩, N.nU, cU, Go.Proofs.Ytpldaohflojkmaa.addU N.u i y, N.lo, aP, N.nP, cP, N.p⟩ := ⟨VT.of HgU.out hr3, hVP.touchS ht3 (fun x hx hy => by simp at hy; subst hy; obtain ⟨arr, hk, _⟩ := hrU; exact VT.boxOut hVP (by decide) hk hx)⟩
  have kC3 := (ht3.block _ (blk_lt (laid3 hB).1) (by have := HgU.out; have := HL1.out; simp; omega)).trans (laid3 hB).1
  have kR3 := (ht3.block _ (blk_lt (laid3 hB).2.2) (by have := HgU.out; have := HL1.out; simp; omega)).trans (laid3 hB).2.2
  have B3 := (under3 hB).trans (ht3.below (under3 hB).size (fun x hx => by have := HgU.out; have := HL1.out; simp at hx; omega))
  clear hB hrU hVP kX hr3 ht3 cb
  have cb := blk_cell kC3
  have cX := blk_cell kX3
  go_wp2_with fail
  refine (sCountsOk_any C ⟨some ⟨gU, 0, none⟩, N.nU, cU, Go.Proofs.Ytpldaohflojkmaa.addU N.u i y, N.lo, aP, N.nP, cP, N.p⟩ _ ⟨HFit.out.1, HFit.out.2⟩ hM3.rd ok (HO.out.trans ⟨fun k => ⟨k.c, k.nU, k.nP, k.lo, k.u⟩, fun k => ⟨k.c, k.nU, k.nP, k.lo, k.u⟩⟩)).mono ?_
  rintro e w4 ⟨rfl, hb4⟩
  have hM4 := hM3.up hb4
  have kX4 := (hb4.block _ (blk_lt kX3)).trans kX3
  have kR4 := (hb4.block _ (blk_lt kR3)).trans kR3
  have B4 := B3.trans (hb4.mono B3.size)
  clear hM3 kX3 kR3 kC3 B3 hb4 cb cX
  have cR := blk_cell kR4
  have fR := blk_free kR4
  have cX := blk_cell kX4
  cases ok
  · have kz3 := put3_blk kR4 (.slice none 0 0) (.int .i64 0) (.slice none 0 0)
    have HB : Hid (Below w.heap.size w (put3 w4 (w.heap.size + 1 + 1) (.slice none 0 0) (.int .i64 0) (.slice none 0 0))) := B4.trans ((put3_touch _ _ _ _ _).below B4.size (fun x hx => by simp at hx; omega))
    have cB := blk_cell kz3
    clear kz3 kX4 kR4 B4 hM4
    unfold put3 at cB
    go_wp2_with fail
    exact bodyPost_ret (v := .tuple #[.agg #[.slice none 0 0, .int .i64 0, .slice none 0 0], .bool false]) (by simp [results, Try.results28, go_sem, cB]) rfl ⟨zeroC, rfl, zeroC_own _ _, HB.out, AlikeC.refl _⟩
  · have kz3 := put3_blk kR4 (.slice (some ⟨gU, 0, none⟩) N.nU cU) (.int .i64 N.lo) (.slice aP N.nP cP)
    have HB : Hid (Below w.heap.size w (put3 w4 (w.heap.size + 1 + 1) (.slice (some ⟨gU, 0, none⟩) N.nU cU) (.int .i64 N.lo) (.slice aP N.nP cP))) := B4.trans ((put3_touch _ _ _ _ _).below B4.size (fun x hx => by simp at hx; omega))
    have HM : Hid (OwnCn (put3 w4 (w.heap.size + 1 + 1) (.slice (some ⟨gU, 0, none⟩) N.nU cU) (.int .i64 N.lo) (.slice aP N.nP cP)) w.heap.size ⟨some ⟨gU, 0, none⟩, N.nU, cU, Go.Proofs.Ytpldaohflojkmaa.addU N.u i y, N.lo, aP, N.nP, cP, N.p⟩) := (touch3 hM4 kR4).mono (by omega)
    have cB := blk_cell kz3
    clear kz3 kX4 kR4 B4 hM4
    unfold put3 at cB
    go_wp2_with fail
    exact bodyPost_ret (v := .tuple #[.agg #[.slice (some ⟨gU, 0, none⟩) N.nU cU, .int .i64 N.lo, .slice aP N.nP cP], .bool true]) (by simp [results, Try.results28, go_sem, cB]) rfl ⟨⟨some ⟨gU, 0, none⟩, N.nU, cU, Go.Proofs.Ytpldaohflojkmaa.addU N.u i y, N.lo, aP, N.nP, cP, N.p⟩, rfl, HM.out, HB.out, ⟨rfl, rfl, rfl, rfl, rfl⟩⟩
set_option maxHeartbeats 4000000 in
theorem sChangedL_any (C : Cfg) (N : Cnt) (port prio : Int) (hne : prio ≠ 2) (y : Int) (w : World) (hN : Cnt.Ok C N) (h : RdCnt w N) (hy1 : -5 ≤ y) (hy2 : y ≤ 5) (ok : Bool) (hok : ok = true ↔ Cnt.Ok C (N.addL y)) :
    Calls Try.prog 28 #[.agg C.cells, .agg N.cells, .int .i64 port, .int .i64 prio, .int .i64 y] w fun e w' => ∃ M : Cnt, e = .returned (.tuple #[.agg M.cells, .bool ok]) ∧ OwnCn w' w.heap.size M ∧ Below w.heap.size w w' ∧ AlikeC (orZero (N.addL y) ok) M := by
  have HO : Hid (ok = true ↔ Cnt.Ok C (N.addL y)) := hok
  have HR : Hid (RdCnt w N) := h
  have HFa : Hid (OkFacts C N) := hN.facts
  have HB0 : Hid (Below (w.heap.size + 3) (((w.alloc (.cells #[.int .i64 C.p, .int .i64 C.c, .int .i64 C.xo, .int .i64 C.xn, .int .i64 C.hd, .int .i64 C.lo, .int .i64 C.dl] 25)).alloc (.cells #[.slice N.aU N.nU N.cU, .int .i64 N.lo, .slice N.aP N.nP N.cP] 29)).alloc (.cells #[.slice none 0 0, .int .i64 0, .slice none 0 0] 29)) (((w.alloc (.cells #[.int .i64 C.p, .int .i64 C.c, .int .i64 C.xo, .int .i64 C.xn, .int .i64 C.hd, .int .i64 C.lo, .int .i64 C.dl] 25)).alloc (.cells #[.slice N.aU N.nU N.cU, .int .i64 N.lo, .slice N.aP N.nP N.cP] 29)).alloc (.cells #[.slice none 0 0, .int .i64 0, .slice none 0 0] 29))) := Below.refl _ _
  have hsm := HFa.out.small.u
  have HFit : Hid (N.nU ≤ maxLen ∧ N.nP ≤ maxLen) := ⟨HFa.out.small.fit.u, HFa.out.small.fit.p⟩
  have hl1 := HFa.out.lo.1
  have hl2 := HFa.out.lo.2
  have hne' : (prio == 2) = false := by simpa using hne
  clear hok h hN
  unfold Cfg.cells Cnt.cells
  go_enter Try.func28, Try.ntmps28
  go_wp2_with fail
  refine (l5Copy_any N _ (by have := HFa.out.u; omega) (by have := HFa.out.p; omega) HFa.out.small (HR.out.up (under3 HB0.out))).mono ?_
  rintro e w1 ⟨M, rfl, hM, hb1, hAM⟩
  have hB := next3 HB0.out hb1
  have HL1 : Hid (w.heap.size + 3 ≤ w1.heap.size) := upper3 hB
  have HMb : Hid (w.heap.size + 3 ≤ (((w.alloc (.cells #[.int .i64 C.p, .int .i64 C.c, .int .i64 C.xo, .int .i64 C.xn, .int .i64 C.hd, .int .i64 C.lo, .int .i64 C.dl] 25)).alloc (.cells #[.slice N.aU N.nU N.cU, .int .i64 N.lo, .slice N.aP N.nP N.cP] 29)).alloc (.cells #[.slice none 0 0, .int .i64 0, .slice none 0 0] 29)).heap.size) := by rw [Hid]; simp
  obtain ⟨aU, nU', cU, u', lo', aP, nP', cP, p'⟩ := M
  obtain ⟨h1, h2, h3, h4, h5⟩ := hAM
  dsimp only at h1 h2 h3 h4 h5
  subst h1 h2 h3 h4 h5
  obtain ⟨hMu, hMp⟩ := hM
  dsimp only at hMu hMp
  rcases hMu with h0 | ⟨gU, rfl, hgU, hrU⟩
  · have := HFa.out.u
    omega
  have hVP : VT 4 w1 (w.heap.size + 3) aP N.nP (fun i => .bool (N.p i)) := hMp.mono HMb.out
  have HgU : Hid (w.heap.size + 3 ≤ gU) := Nat.le_trans HMb.out hgU
  clear hb1 hMp hgU
  have hA := (Below.refl w1.heap.size w1).alloc (Nat.le_refl _) (.cells #[.slice (some ⟨gU, 0, none⟩) N.nU cU, .int .i64 (N.lo + y), .slice aP N.nP cP] 29)
  have kX := blk_new w1 (.cells #[.slice (some ⟨gU, 0, none⟩) N.nU cU, .int .i64 (N.lo + y), .slice aP N.nP cP] 29)
  have l1 := hrU.lt
  have HgX : Hid (gU ≠ w1.heap.size) := by show gU ≠ w1.heap.size; omega
  replace hrU := hrU.keep (hA.block _ hrU.lt)
  replace hVP := hVP.up hA
  replace hB := next3 hB hA
  have cb := blk_cell (laid3 hB).1
  clear hA l1
  dsimp only [Cnt.cells]
  have e1 : IntKind.i64.wrap (N.lo + y) = N.lo + y := wrapC _ (by omega) (by omega)
  have hM3 : OwnCn (w1.alloc (.cells #[.slice (some ⟨gU, 0, none⟩) N.nU cU, .int .i64 (N.lo + y), .slice aP N.nP cP] 29)) (w.heap.size + 3) ⟨some ⟨gU, 0, none⟩, N.nU, cU, N.u, N.lo + y, aP, N.nP, cP, N.p⟩ := ⟨VT.of HgU.out hrU, hVP⟩
  have kX3 := kX
  have kC3 := (laid3 hB).1
  have kR3 := (laid3 hB).2.2
  have B3 := under3 hB
  clear hB hrU hVP kX cb
  have cb := blk_cell kC3
  have cX3 := blk_cell kX3
  go_wp2_with fail
  generalize w1.alloc (.cells #[.slice (some ⟨gU, 0, none⟩) N.nU cU, .int .i64 (N.lo + y), .slice aP N.nP cP] 29) = w3 at *
  clear cX3
  refine (sCountsOk_any C ⟨some ⟨gU, 0, none⟩, N.nU, cU, N.u, N.lo + y, aP, N.nP, cP, N.p⟩ _ ⟨HFit.out.1, HFit.out.2⟩ hM3.rd ok (HO.out.trans ⟨fun k => ⟨k.c, k.nU, k.nP, k.lo, k.u⟩, fun k => ⟨k.c, k.nU, k.nP, k.lo, k.u⟩⟩)).mono ?_
  rintro e w4 ⟨rfl, hb4⟩
  have hM4 := hM3.up hb4
  have kX4 := (hb4.block _ (blk_lt kX3)).trans kX3
  have kR4 := (hb4.block _ (blk_lt kR3)).trans kR3
  have B4 := B3.trans (hb4.mono B3.size)
  clear hM3 kX3 kR3 kC3 B3 hb4 cb
  have cR := blk_cell kR4
  have fR := blk_free kR4
  have cX := blk_cell kX4
  cases ok
  · have kz3 := put3_blk kR4 (.slice none 0 0) (.int .i64 0) (.slice none 0 0)
    have HB : Hid (Below w.heap.size w (put3 w4 (w.heap.size + 1 + 1) (.slice none 0 0) (.int .i64 0) (.slice none 0 0))) := B4.trans ((put3_touch _ _ _ _ _).below B4.size (fun x hx => by simp at hx; omega))
    have cB := blk_cell kz3
    clear kz3 kX4 kR4 B4 hM4
    unfold put3 at cB
    go_wp2_with fail
    exact bodyPost_ret (v := .tuple #[.agg #[.slice none 0 0, .int .i64 0, .slice none 0 0], .bool false]) (by simp [results, Try.results28, go_sem, cB]) rfl ⟨zeroC, rfl, zeroC_own _ _, HB.out, AlikeC.refl _⟩
  · have kz3 := put3_blk kR4 (.slice (some ⟨gU, 0, none⟩) N.nU cU) (.int .i64 (N.lo + y)) (.slice aP N.nP cP)
    have HB : Hid (Below w.heap.size w (put3 w4 (w.heap.size + 1 + 1) (.slice (some ⟨gU, 0, none⟩) N.nU cU) (.int .i64 (N.lo + y)) (.slice aP N.nP cP))) := B4.trans ((put3_touch _ _ _ _ _).below B4.size (fun x hx => by simp at hx; omega))
    have HM : Hid (OwnCn (put3 w4 (w.heap.size + 1 + 1) (.slice (some ⟨gU, 0, none⟩) N.nU cU) (.int .i64 (N.lo + y)) (.slice aP N.nP cP)) w.heap.size ⟨some ⟨gU, 0, none⟩, N.nU, cU, N.u, N.lo + y, aP, N.nP, cP, N.p⟩) := (touch3 hM4 kR4).mono (by omega)
    have cB := blk_cell kz3
    clear kz3 kX4 kR4 B4 hM4
    unfold put3 at cB
    go_wp2_with fail
    exact bodyPost_ret (v := .tuple #[.agg #[.slice (some ⟨gU, 0, none⟩) N.nU cU, .int .i64 (N.lo + y), .slice aP N.nP cP], .bool true]) (by simp [results, Try.results28, go_sem, cB]) rfl ⟨⟨some ⟨gU, 0, none⟩, N.nU, cU, N.u, N.lo + y, aP, N.nP, cP, N.p⟩, rfl, HM.out, HB.out, ⟨rfl, rfl, rfl, rfl, rfl⟩⟩
end Go.Proofs.Ytpldaohflojkmaa
