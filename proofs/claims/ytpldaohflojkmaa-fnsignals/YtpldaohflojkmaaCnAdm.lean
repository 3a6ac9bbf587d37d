/- What is admitted and released, by both sides. -/
import Derived.Test.YtpldaohflojkmaaCnCh
namespace Go.Proofs.Ytpldaohflojkmaa
open Go.RowKit
set_option linter.unusedVariables false
set_option linter.unusedSimpArgs false

def addN (N : Cnt) (port prio y : Int) : Cnt := if prio = 2 then N.addU port.toNat y else N.addL y
theorem addN_port {N : Cnt} {i : Nat} {y : Int} : addN N (i : Int) 2 y = N.addU i y := by unfold addN; rw [if_pos rfl, Int.toNat_natCast]
theorem addN_lossy {N : Cnt} {port prio y : Int} (h : prio ≠ 2) : addN N port prio y = N.addL y := by unfold addN; rw [if_neg h]
set_option maxHeartbeats 4000000 in
theorem sAdmitted_any (C : Cfg) (N : Cnt) (port prio cells : Int) (w : World) (hf : N.Fit) (h : RdCnt w N) (ok : Bool) (hok : ok = true ↔ formP C N port prio cells ∧ Cnt.Ok C (addN N port prio cells)) :
    Calls Try.prog 8 #[.agg C.cells, .agg N.cells, .int .i64 port, .int .i64 prio, .int .i64 cells] w fun e w' => ∃ M : Cnt, e = .returned (.tuple #[.agg M.cells, .bool ok]) ∧ OwnCn w' w.heap.size M ∧ Below w.heap.size w w' ∧ AlikeC (orZero (addN N port prio cells) ok) M := by
  obtain ⟨b, hb⟩ := ok_decC (formP C N port prio cells)
  have HO : Hid (ok = true ↔ formP C N port prio cells ∧ Cnt.Ok C (addN N port prio cells)) := hok
  have HR : Hid (RdCnt w N) := h
  have HF : Hid N.Fit := hf
  have HCb : Hid (b = true ↔ formP C N port prio cells) := hb
  have HB0 : Hid (Below (w.heap.size + 3) (((w.alloc (.cells #[.int .i64 C.p, .int .i64 C.c, .int .i64 C.xo, .int .i64 C.xn, .int .i64 C.hd, .int .i64 C.lo, .int .i64 C.dl] 25)).alloc (.cells #[.slice N.aU N.nU N.cU, .int .i64 N.lo, .slice N.aP N.nP N.cP] 29)).alloc (.cells #[.slice none 0 0, .int .i64 0, .slice none 0 0] 29)) (((w.alloc (.cells #[.int .i64 C.p, .int .i64 C.c, .int .i64 C.xo, .int .i64 C.xn, .int .i64 C.hd, .int .i64 C.lo, .int .i64 C.dl] 25)).alloc (.cells #[.slice N.aU N.nU N.cU, .int .i64 N.lo, .slice N.aP N.nP N.cP] 29)).alloc (.cells #[.slice none 0 0, .int .i64 0, .slice none 0 0] 29))) := Below.refl _ _
  clear hok h hf hb
  unfold Cfg.cells
  rw [show N.cells = #[.slice N.aU N.nU N.cU, .int .i64 N.lo, .slice N.aP N.nP N.cP] from rfl]
  go_enter Try.func8, Try.ntmps8
  go_wp2_with fail
  refine (sForm_any C N port prio cells _ HF.out (HR.out.up (under3 HB0.out)) b HCb.out).mono ?_
  rintro e w1 ⟨rfl, hb1⟩
  have hB := next3 HB0.out hb1
  clear hb1
  cases b
  · have HE : Hid (ok = false) := by
      show ok = false
      rw [Bool.eq_false_iff]
      intro e
      have := HCb.out.2 (HO.out.1 e).1
      cases this
    obtain ⟨kC2, kN2, kR2⟩ := laid3 hB
    have ht := put3_touch w1 (w.heap.size + 1 + 1) (.slice none 0 0) (.int .i64 0) (.slice none 0 0)
    have HB : Hid (Below w.heap.size w (put3 w1 (w.heap.size + 1 + 1) (.slice none 0 0) (.int .i64 0) (.slice none 0 0))) := (under3 hB).trans (ht.below (under3 hB).size (fun x hx => by simp at hx; omega))
    have cB := blk_cell (put3_blk kR2 (.slice none 0 0) (.int .i64 0) (.slice none 0 0))
    have cR := blk_cell kR2
    have fR := blk_free kR2
    clear ht kC2 kN2 kR2 hB
    unfold put3 at cB
    go_wp2_with fail
    have e := HE.out
    subst e
    exact bodyPost_ret (v := .tuple #[.agg #[.slice none 0 0, .int .i64 0, .slice none 0 0], .bool false]) (by simp [results, Try.results8, go_sem, cB]) rfl ⟨zeroC, rfl, zeroC_own _ _, HB.out, AlikeC.refl _⟩
  have HFo : Hid (formP C N port prio cells) := HCb.out.1 rfl
  clear HCb
  have hc1 := HFo.out.cells.1
  have hc2 := HFo.out.cells.2
  obtain ⟨i, hip⟩ : ∃ i : Nat, port = (i : Int) := ⟨port.toNat, by have := HFo.out.port; omega⟩
  by_cases hne : prio = 2
  · subst hne
    subst hip
    have HE : Hid (ok = true ↔ Cnt.Ok C (N.addU i cells)) := by
      rw [Hid, HO.out, addN_port]
      exact ⟨fun k => k.2, fun k => ⟨HFo.out, k⟩⟩
    have cb := blk_cell (laid3 hB).1
    have cn := blk_cell (laid3 hB).2.1
    go_wp2_with fail
    refine (sChangedP_any C N i cells _ HFo.out.ok (HR.out.up (under3 hB)) (by have := HFo.out.port; have := HFo.out.ok.nU; omega) (by omega) (by omega) ok HE.out).mono ?_
    rintro e w2 ⟨M, rfl, hM, hb2, hAM⟩
    have HAM : Hid (AlikeC (orZero (N.addU i cells) ok) M) := hAM
    have HLb : Hid (w.heap.size + 3 ≤ w1.heap.size) := upper3 hB
    replace hB := next3 hB hb2
    obtain ⟨kC2, kN2, kR2⟩ := laid3 hB
    replace hM := hM.mono (base' := w.heap.size) (by have := HLb.out; omega)
    have ht := put3_touch w2 (w.heap.size + 1 + 1) (.slice M.aU M.nU M.cU) (.int .i64 M.lo) (.slice M.aP M.nP M.cP)
    have HM : Hid (OwnCn (put3 w2 (w.heap.size + 1 + 1) (.slice M.aU M.nU M.cU) (.int .i64 M.lo) (.slice M.aP M.nP M.cP)) w.heap.size M) := touch3 hM kR2
    have HB : Hid (Below w.heap.size w (put3 w2 (w.heap.size + 1 + 1) (.slice M.aU M.nU M.cU) (.int .i64 M.lo) (.slice M.aP M.nP M.cP))) := (under3 hB).trans (ht.below (under3 hB).size (fun x hx => by simp at hx; omega))
    have cB := blk_cell (put3_blk kR2 (.slice M.aU M.nU M.cU) (.int .i64 M.lo) (.slice M.aP M.nP M.cP))
    have cC := blk_cell ((ht.block _ (blk_lt kC2) (fun hx => by have := List.mem_singleton.1 hx; omega)).trans kC2)
    have cN := blk_cell ((ht.block _ (blk_lt kN2) (fun hx => by have := List.mem_singleton.1 hx; omega)).trans kN2)
    have cR := blk_cell kR2
    have fR := blk_free kR2
    have s1 := blk_cell kC2
    have s2 := blk_cell kN2
    clear hM hb2 hAM ht kC2 kN2 kR2 hB
    unfold put3 at cB cC cN
    dsimp only [Cnt.cells]
    clear cb cn
    go_wp2_with fail
    exact bodyPost_ret (v := .tuple #[.agg M.cells, .bool ok]) (by simp [results, Try.results8, go_sem, cB, Cnt.cells]) rfl ⟨M, rfl, HM.out, HB.out, by rw [addN_port]; exact HAM.out⟩
  · clear hip
    have HE : Hid (ok = true ↔ Cnt.Ok C (N.addL cells)) := by
      rw [Hid, HO.out, addN_lossy hne]
      exact ⟨fun k => k.2, fun k => ⟨HFo.out, k⟩⟩
    have cb := blk_cell (laid3 hB).1
    have cn := blk_cell (laid3 hB).2.1
    have Hne : Hid (prio ≠ 2) := hne
    clear hne
    go_wp2_with fail
    refine (sChangedL_any C N port prio Hne.out cells _ HFo.out.ok (HR.out.up (under3 hB)) (by omega) (by omega) ok HE.out).mono ?_
    rintro e w2 ⟨M, rfl, hM, hb2, hAM⟩
    have HAM : Hid (AlikeC (orZero (N.addL cells) ok) M) := hAM
    have HLb : Hid (w.heap.size + 3 ≤ w1.heap.size) := upper3 hB
    replace hB := next3 hB hb2
    obtain ⟨kC2, kN2, kR2⟩ := laid3 hB
    replace hM := hM.mono (base' := w.heap.size) (by have := HLb.out; omega)
    have ht := put3_touch w2 (w.heap.size + 1 + 1) (.slice M.aU M.nU M.cU) (.int .i64 M.lo) (.slice M.aP M.nP M.cP)
    have HM : Hid (OwnCn (put3 w2 (w.heap.size + 1 + 1) (.slice M.aU M.nU M.cU) (.int .i64 M.lo) (.slice M.aP M.nP M.cP)) w.heap.size M) := touch3 hM kR2
    have HB : Hid (Below w.heap.size w (put3 w2 (w.heap.size + 1 + 1) (.slice M.aU M.nU M.cU) (.int .i64 M.lo) (.slice M.aP M.nP M.cP))) := (under3 hB).trans (ht.below (under3 hB).size (fun x hx => by simp at hx; omega))
    have cB := blk_cell (put3_blk kR2 (.slice M.aU M.nU M.cU) (.int .i64 M.lo) (.slice M.aP M.nP M.cP))
    have cC := blk_cell ((ht.block _ (blk_lt kC2) (fun hx => by have := List.mem_singleton.1 hx; omega)).trans kC2)
    have cN := blk_cell ((ht.block _ (blk_lt kN2) (fun hx => by have := List.mem_singleton.1 hx; omega)).trans kN2)
    have cR := blk_cell kR2
    have fR := blk_free kR2
    have s1 := blk_cell kC2
    have s2 := blk_cell kN2
    clear hM hb2 hAM ht kC2 kN2 kR2 hB
    unfold put3 at cB cC cN
    dsimp only [Cnt.cells]
    clear cb cn
    go_wp2_with fail
    exact bodyPost_ret (v := .tuple #[.agg M.cells, .bool ok]) (by simp [results, Try.results8, go_sem, cB, Cnt.cells]) rfl ⟨M, rfl, HM.out, HB.out, by rw [addN_lossy Hne.out]; exact HAM.out⟩
set_option maxHeartbeats 4000000 in
theorem iAdmitted_any (C : Cfg) (N : Cnt) (port prio cells : Int) (w : World) (hf : N.Fit) (h : RdCnt w N) (ok : Bool) (hok : ok = true ↔ formP C N port prio cells ∧ Cnt.Ok C (addN N port prio cells)) :
    Calls Try.prog 7 #[.agg C.cells, .agg N.cells, .int .i64 port, .int .i64 prio, .int .i64 cells] w fun e w' => ∃ M : Cnt, e = .returned (.tuple #[.agg M.cells, .bool ok]) ∧ OwnCn w' w.heap.size M ∧ Below w.heap.size w w' ∧ AlikeC (orZero (addN N port prio cells) ok) M := by
  obtain ⟨b, hb⟩ := ok_decC (formP C N port prio cells)
  have HO : Hid (ok = true ↔ formP C N port prio cells ∧ Cnt.Ok C (addN N port prio cells)) := hok
  have HR : Hid (RdCnt w N) := h
  have HF : Hid N.Fit := hf
  have HCb : Hid (b = true ↔ formP C N port prio cells) := hb
  have HB0 : Hid (Below (w.heap.size + 3) (((w.alloc (.cells #[.int .i64 C.p, .int .i64 C.c, .int .i64 C.xo, .int .i64 C.xn, .int .i64 C.hd, .int .i64 C.lo, .int .i64 C.dl] 25)).alloc (.cells #[.slice N.aU N.nU N.cU, .int .i64 N.lo, .slice N.aP N.nP N.cP] 29)).alloc (.cells #[.slice none 0 0, .int .i64 0, .slice none 0 0] 29)) (((w.alloc (.cells #[.int .i64 C.p, .int .i64 C.c, .int .i64 C.xo, .int .i64 C.xn, .int .i64 C.hd, .int .i64 C.lo, .int .i64 C.dl] 25)).alloc (.cells #[.slice N.aU N.nU N.cU, .int .i64 N.lo, .slice N.aP N.nP N.cP] 29)).alloc (.cells #[.slice none 0 0, .int .i64 0, .slice none 0 0] 29))) := Below.refl _ _
  clear hok h hf hb
  unfold Cfg.cells
  rw [show N.cells = #[.slice N.aU N.nU N.cU, .int .i64 N.lo, .slice N.aP N.nP N.cP] from rfl]
  go_enter Try.func7, Try.ntmps7
  go_wp2_with fail
  refine (iForm_any C N port prio cells _ HF.out (HR.out.up (under3 HB0.out)) b HCb.out).mono ?_
  rintro e w1 ⟨rfl, hb1⟩
  have hB := next3 HB0.out hb1
  clear hb1
  cases b
  · have HE : Hid (ok = false) := by
      show ok = false
      rw [Bool.eq_false_iff]
      intro e
      have := HCb.out.2 (HO.out.1 e).1
      cases this
    obtain ⟨kC2, kN2, kR2⟩ := laid3 hB
    have ht := put3_touch w1 (w.heap.size + 1 + 1) (.slice none 0 0) (.int .i64 0) (.slice none 0 0)
    have HB : Hid (Below w.heap.size w (put3 w1 (w.heap.size + 1 + 1) (.slice none 0 0) (.int .i64 0) (.slice none 0 0))) := (under3 hB).trans (ht.below (under3 hB).size (fun x hx => by simp at hx; omega))
    have cB := blk_cell (put3_blk kR2 (.slice none 0 0) (.int .i64 0) (.slice none 0 0))
    have cR := blk_cell kR2
    have fR := blk_free kR2
    clear ht kC2 kN2 kR2 hB
    unfold put3 at cB
    go_wp2_with fail
    have e := HE.out
    subst e
    exact bodyPost_ret (v := .tuple #[.agg #[.slice none 0 0, .int .i64 0, .slice none 0 0], .bool false]) (by simp [results, Try.results7, go_sem, cB]) rfl ⟨zeroC, rfl, zeroC_own _ _, HB.out, AlikeC.refl _⟩
  have HFo : Hid (formP C N port prio cells) := HCb.out.1 rfl
  clear HCb
  have hc1 := HFo.out.cells.1
  have hc2 := HFo.out.cells.2
  obtain ⟨i, hip⟩ : ∃ i : Nat, port = (i : Int) := ⟨port.toNat, by have := HFo.out.port; omega⟩
  by_cases hne : prio = 2
  · subst hne
    subst hip
    have HE : Hid (ok = true ↔ Cnt.Ok C (N.addU i cells)) := by
      rw [Hid, HO.out, addN_port]
      exact ⟨fun k => k.2, fun k => ⟨HFo.out, k⟩⟩
    have cb := blk_cell (laid3 hB).1
    have cn := blk_cell (laid3 hB).2.1
    go_wp2_with fail
    refine wp_region_held_drew (S := fun w' => (∀ o, w'.cell? ⟨w.heap.size, o, none⟩ = (#[.int .i64 C.p, .int .i64 C.c, .int .i64 C.xo, .int .i64 C.xn, .int .i64 C.hd, .int .i64 C.lo, .int .i64 C.dl] : Array Value)[o]?) ∧ (∀ o, w'.cell? ⟨w.heap.size + 1, o, none⟩ = (#[.slice N.aU N.nU N.cU, .int .i64 N.lo, .slice N.aP N.nP N.cP] : Array Value)[o]?)) (by kernel_rfl) ⟨cb, cn⟩ (fun hHeld => ?_)
    refine takeD (i := 0) (some 20) (v := ?_) rfl rfl (by kernel_rfl) (by kernel_rfl) (by kernel_rfl) (fun _ _ _ h => h) (by kernel_rfl) ?_ (by assumption) ?_
    rotate_left
    · intro wx hSw
      obtain ⟨hS1, hS2⟩ := hSw
      go_simp
      try (with_reducible rfl)
    try simp only [Act.put, List.setIfInBounds_toArray, List.set_cons_zero, List.set_cons_succ]
    refine takeD (i := 1) (some 21) (v := ?_) rfl rfl (by kernel_rfl) (by kernel_rfl) (by kernel_rfl) (fun _ _ _ h => h) (by kernel_rfl) ?_ (by assumption) ?_
    rotate_left
    · intro wx hSw
      obtain ⟨hS1, hS2⟩ := hSw
      go_simp
      try (with_reducible rfl)
    try simp only [Act.put, List.setIfInBounds_toArray, List.set_cons_zero, List.set_cons_succ]
    refine takeD (i := 2) (some 22) (v := ?_) rfl rfl (by kernel_rfl) (by kernel_rfl) (by kernel_rfl) (fun _ _ _ h => h) (by kernel_rfl) ?_ (by assumption) ?_
    rotate_left
    · intro wx hSw
      obtain ⟨hS1, hS2⟩ := hSw
      go_simp
      try (with_reducible rfl)
    try simp only [Act.put, List.setIfInBounds_toArray, List.set_cons_zero, List.set_cons_succ]
    refine takeD (i := 3) (some 23) (v := ?_) rfl rfl (by kernel_rfl) (by kernel_rfl) (by kernel_rfl) (fun _ _ _ h => h) (by kernel_rfl) ?_ (by assumption) ?_
    rotate_left
    · intro wx hSw
      obtain ⟨hS1, hS2⟩ := hSw
      go_simp
      try (with_reducible rfl)
    try simp only [Act.put, List.setIfInBounds_toArray, List.set_cons_zero, List.set_cons_succ]
    refine takeD (i := 5) (some 25) (v := ?_) rfl rfl (by kernel_rfl) (by kernel_rfl) (by kernel_rfl) (fun _ _ _ h => h) (by kernel_rfl) ?_ (by assumption) ?_
    rotate_left
    · intro wx hSw
      obtain ⟨hS1, hS2⟩ := hSw
      go_simp
      try (with_reducible rfl)
    try simp only [Act.put, List.setIfInBounds_toArray, List.set_cons_zero, List.set_cons_succ]
    refine wpAnyH_ready (rs := [4]) (by kernel_rfl) (by simp) ?_
    refine AllReadyH.cons rfl (fun K hK => ?_) AllReadyH.nil
    go_simp
    refine (limitFor_port _ _).mono ?_
    rintro e w' ⟨rfl, hw⟩
    rw [hw]
    clear hw w'
    go_wp2_with fail
    refine hK.out _ _ ⟨cb, cn⟩ (fun hHeld => ?_)
    clear hK K
    try simp only [Act.put, List.setIfInBounds_toArray, List.set_cons_zero, List.set_cons_succ]
    refine wpAnyH_ready (rs := [6]) (by kernel_rfl) (by simp) ?_
    refine AllReadyH.cons rfl (fun K hK => ?_) AllReadyH.nil
    go_simp
    replace hB := hB.drew
    refine (iChangedP_any C N i cells _ HFo.out.ok (HR.out.up (under3 hB)) (by have := HFo.out.port; have := HFo.out.ok.nU; omega) (by omega) (by omega) ok HE.out).mono ?_
    rintro e w2 ⟨M, rfl, hM, hb2, hAM⟩
    have HAM : Hid (AlikeC (orZero (N.addU i cells) ok) M) := hAM
    have HLb : Hid (w.heap.size + 3 ≤ w1.drew.heap.size) := upper3 hB
    replace hB := next3 hB hb2
    obtain ⟨kC2, kN2, kR2⟩ := laid3 hB
    replace hM := hM.mono (base' := w.heap.size) (by have := HLb.out; omega)
    have ht := put3_touch w2 (w.heap.size + 1 + 1) (.slice M.aU M.nU M.cU) (.int .i64 M.lo) (.slice M.aP M.nP M.cP)
    have HM : Hid (OwnCn (put3 w2 (w.heap.size + 1 + 1) (.slice M.aU M.nU M.cU) (.int .i64 M.lo) (.slice M.aP M.nP M.cP)) w.heap.size M) := touch3 hM kR2
    have HB : Hid (Below w.heap.size w (put3 w2 (w.heap.size + 1 + 1) (.slice M.aU M.nU M.cU) (.int .i64 M.lo) (.slice M.aP M.nP M.cP))) := (under3 hB).trans (ht.below (under3 hB).size (fun x hx => by simp at hx; omega))
    have cB := blk_cell (put3_blk kR2 (.slice M.aU M.nU M.cU) (.int .i64 M.lo) (.slice M.aP M.nP M.cP))
    have cC := blk_cell ((ht.block _ (blk_lt kC2) (fun hx => by have := List.mem_singleton.1 hx; omega)).trans kC2)
    have cN := blk_cell ((ht.block _ (blk_lt kN2) (fun hx => by have := List.mem_singleton.1 hx; omega)).trans kN2)
    have cR := blk_cell kR2
    have fR := blk_free kR2
    have s1 := blk_cell kC2
    have s2 := blk_cell kN2
    clear hM hb2 hAM ht kC2 kN2 kR2 hB
    unfold put3 at cB cC cN
    dsimp only [Cnt.cells]
    clear cb cn
    go_wp2_with fail
    refine hK.out _ _ ⟨s1, s2⟩ (fun hHeld => ?_)
    clear hK K
    try simp only [Act.put, List.setIfInBounds_toArray, List.set_cons_zero, List.set_cons_succ]
    refine takeD (i := 7) (some 27) (v := ?_) rfl rfl (by kernel_rfl) (by kernel_rfl) (by kernel_rfl) (fun _ _ _ h => h) (by kernel_rfl) ?_ (by assumption) ?_
    rotate_left
    · intro wx hSw
      obtain ⟨hS1, hS2⟩ := hSw
      go_simp
      try (with_reducible rfl)
    try simp only [Act.put, List.setIfInBounds_toArray, List.set_cons_zero, List.set_cons_succ]
    refine takeD (i := 8) (some 28) (v := ?_) rfl rfl (by kernel_rfl) (by kernel_rfl) (by kernel_rfl) (fun _ _ _ h => h) (by kernel_rfl) ?_ (by assumption) ?_
    rotate_left
    · intro wx hSw
      obtain ⟨hS1, hS2⟩ := hSw
      go_simp
      try (with_reducible rfl)
    try simp only [Act.put, List.setIfInBounds_toArray, List.set_cons_zero, List.set_cons_succ]
    refine wpAnyH_ready (rs := [9]) (by kernel_rfl) (by simp) ?_
    refine AllReadyH.cons rfl (fun K hK => ?_) AllReadyH.nil
    go_simp
    refine hK.out _ _ ⟨cC, cN⟩ (fun hHeld => ?_)
    clear hK K
    try simp only [Act.put, List.setIfInBounds_toArray, List.set_cons_zero, List.set_cons_succ]
    refine wpAnyH_ready (rs := [10]) (by kernel_rfl) (by simp) ?_
    refine AllReadyH.cons rfl (fun K hK => ?_) AllReadyH.nil
    go_simp
    refine hK.out _ _ ⟨cC, cN⟩ (fun hHeld => ?_)
    clear hK K
    try simp only [Act.put, List.setIfInBounds_toArray, List.set_cons_zero, List.set_cons_succ]
    refine wpAnyH_done (by kernel_rfl) ?_ _
    clear cC cN cR fR s1 s2 hHeld
    go_wp2_with fail
    exact bodyPost_ret (v := .tuple #[.agg M.cells, .bool ok]) (by simp [results, Try.results7, go_sem, cB, Cnt.cells]) rfl ⟨M, rfl, HM.out, HB.out, by rw [addN_port]; exact HAM.out⟩
  · clear hip
    have HE : Hid (ok = true ↔ Cnt.Ok C (N.addL cells)) := by
      rw [Hid, HO.out, addN_lossy hne]
      exact ⟨fun k => k.2, fun k => ⟨HFo.out, k⟩⟩
    have cb := blk_cell (laid3 hB).1
    have cn := blk_cell (laid3 hB).2.1
    have Hne : Hid (prio ≠ 2) := hne
    clear hne
    go_wp2_with fail
    refine wp_region_held_drew (S := fun w' => (∀ o, w'.cell? ⟨w.heap.size, o, none⟩ = (#[.int .i64 C.p, .int .i64 C.c, .int .i64 C.xo, .int .i64 C.xn, .int .i64 C.hd, .int .i64 C.lo, .int .i64 C.dl] : Array Value)[o]?) ∧ (∀ o, w'.cell? ⟨w.heap.size + 1, o, none⟩ = (#[.slice N.aU N.nU N.cU, .int .i64 N.lo, .slice N.aP N.nP N.cP] : Array Value)[o]?)) (by kernel_rfl) ⟨cb, cn⟩ (fun hHeld => ?_)
    refine takeD (i := 0) (some 20) (v := ?_) rfl rfl (by kernel_rfl) (by kernel_rfl) (by kernel_rfl) (fun _ _ _ h => h) (by kernel_rfl) ?_ (by assumption) ?_
    rotate_left
    · intro wx hSw
      obtain ⟨hS1, hS2⟩ := hSw
      go_simp
      try (with_reducible rfl)
    try simp only [Act.put, List.setIfInBounds_toArray, List.set_cons_zero, List.set_cons_succ]
    refine takeD (i := 1) (some 21) (v := ?_) rfl rfl (by kernel_rfl) (by kernel_rfl) (by kernel_rfl) (fun _ _ _ h => h) (by kernel_rfl) ?_ (by assumption) ?_
    rotate_left
    · intro wx hSw
      obtain ⟨hS1, hS2⟩ := hSw
      go_simp
      try (with_reducible rfl)
    try simp only [Act.put, List.setIfInBounds_toArray, List.set_cons_zero, List.set_cons_succ]
    refine takeD (i := 2) (some 22) (v := ?_) rfl rfl (by kernel_rfl) (by kernel_rfl) (by kernel_rfl) (fun _ _ _ h => h) (by kernel_rfl) ?_ (by assumption) ?_
    rotate_left
    · intro wx hSw
      obtain ⟨hS1, hS2⟩ := hSw
      go_simp
      try (with_reducible rfl)
    try simp only [Act.put, List.setIfInBounds_toArray, List.set_cons_zero, List.set_cons_succ]
    refine takeD (i := 3) (some 23) (v := ?_) rfl rfl (by kernel_rfl) (by kernel_rfl) (by kernel_rfl) (fun _ _ _ h => h) (by kernel_rfl) ?_ (by assumption) ?_
    rotate_left
    · intro wx hSw
      obtain ⟨hS1, hS2⟩ := hSw
      go_simp
      try (with_reducible rfl)
    try simp only [Act.put, List.setIfInBounds_toArray, List.set_cons_zero, List.set_cons_succ]
    refine takeD (i := 5) (some 25) (v := ?_) rfl rfl (by kernel_rfl) (by kernel_rfl) (by kernel_rfl) (fun _ _ _ h => h) (by kernel_rfl) ?_ (by assumption) ?_
    rotate_left
    · intro wx hSw
      obtain ⟨hS1, hS2⟩ := hSw
      go_simp
      try (with_reducible rfl)
    try simp only [Act.put, List.setIfInBounds_toArray, List.set_cons_zero, List.set_cons_succ]
    refine wpAnyH_ready (rs := [4]) (by kernel_rfl) (by simp) ?_
    refine AllReadyH.cons rfl (fun K hK => ?_) AllReadyH.nil
    go_simp
    refine (limitFor_lossy _ _ _ Hne.out).mono ?_
    rintro e w' ⟨rfl, hw⟩
    rw [hw]
    clear hw w'
    go_wp2_with fail
    refine hK.out _ _ ⟨cb, cn⟩ (fun hHeld => ?_)
    clear hK K
    try simp only [Act.put, List.setIfInBounds_toArray, List.set_cons_zero, List.set_cons_succ]
    refine wpAnyH_ready (rs := [6]) (by kernel_rfl) (by simp) ?_
    refine AllReadyH.cons rfl (fun K hK => ?_) AllReadyH.nil
    go_simp
    replace hB := hB.drew
    refine (iChangedL_any C N cells _ HFo.out.ok (HR.out.up (under3 hB)) (by omega) (by omega) ok HE.out).mono ?_
    rintro e w2 ⟨M, rfl, hM, hb2, hAM⟩
    have HAM : Hid (AlikeC (orZero (N.addL cells) ok) M) := hAM
    have HLb : Hid (w.heap.size + 3 ≤ w1.drew.heap.size) := upper3 hB
    replace hB := next3 hB hb2
    obtain ⟨kC2, kN2, kR2⟩ := laid3 hB
    replace hM := hM.mono (base' := w.heap.size) (by have := HLb.out; omega)
    have ht := put3_touch w2 (w.heap.size + 1 + 1) (.slice M.aU M.nU M.cU) (.int .i64 M.lo) (.slice M.aP M.nP M.cP)
    have HM : Hid (OwnCn (put3 w2 (w.heap.size + 1 + 1) (.slice M.aU M.nU M.cU) (.int .i64 M.lo) (.slice M.aP M.nP M.cP)) w.heap.size M) := touch3 hM kR2
    have HB : Hid (Below w.heap.size w (put3 w2 (w.heap.size + 1 + 1) (.slice M.aU M.nU M.cU) (.int .i64 M.lo) (.slice M.aP M.nP M.cP))) := (under3 hB).trans (ht.below (under3 hB).size (fun x hx => by simp at hx; omega))
    have cB := blk_cell (put3_blk kR2 (.slice M.aU M.nU M.cU) (.int .i64 M.lo) (.slice M.aP M.nP M.cP))
    have cC := blk_cell ((ht.block _ (blk_lt kC2) (fun hx => by have := List.mem_singleton.1 hx; omega)).trans kC2)
    have cN := blk_cell ((ht.block _ (blk_lt kN2) (fun hx => by have := List.mem_singleton.1 hx; omega)).trans kN2)
    have cR := blk_cell kR2
    have fR := blk_free kR2
    have s1 := blk_cell kC2
    have s2 := blk_cell kN2
    clear hM hb2 hAM ht kC2 kN2 kR2 hB
    unfold put3 at cB cC cN
    dsimp only [Cnt.cells]
    clear cb cn
    go_wp2_with fail
    refine hK.out _ _ ⟨s1, s2⟩ (fun hHeld => ?_)
    clear hK K
    try simp only [Act.put, List.setIfInBounds_toArray, List.set_cons_zero, List.set_cons_succ]
    refine takeD (i := 7) (some 27) (v := ?_) rfl rfl (by kernel_rfl) (by kernel_rfl) (by kernel_rfl) (fun _ _ _ h => h) (by kernel_rfl) ?_ (by assumption) ?_
    rotate_left
    · intro wx hSw
      obtain ⟨hS1, hS2⟩ := hSw
      go_simp
      try (with_reducible rfl)
    try simp only [Act.put, List.setIfInBounds_toArray, List.set_cons_zero, List.set_cons_succ]
    refine takeD (i := 8) (some 28) (v := ?_) rfl rfl (by kernel_rfl) (by kernel_rfl) (by kernel_rfl) (fun _ _ _ h => h) (by kernel_rfl) ?_ (by assumption) ?_
    rotate_left
    · intro wx hSw
      obtain ⟨hS1, hS2⟩ := hSw
      go_simp
      try (with_reducible rfl)
    try simp only [Act.put, List.setIfInBounds_toArray, List.set_cons_zero, List.set_cons_succ]
    refine wpAnyH_ready (rs := [9]) (by kernel_rfl) (by simp) ?_
    refine AllReadyH.cons rfl (fun K hK => ?_) AllReadyH.nil
    go_simp
    refine hK.out _ _ ⟨cC, cN⟩ (fun hHeld => ?_)
    clear hK K
    try simp only [Act.put, List.setIfInBounds_toArray, List.set_cons_zero, List.set_cons_succ]
    refine wpAnyH_ready (rs := [10]) (by kernel_rfl) (by simp) ?_
    refine AllReadyH.cons rfl (fun K hK => ?_) AllReadyH.nil
    go_simp
    refine hK.out _ _ ⟨cC, cN⟩ (fun hHeld => ?_)
    clear hK K
    try simp only [Act.put, List.setIfInBounds_toArray, List.set_cons_zero, List.set_cons_succ]
    refine wpAnyH_done (by kernel_rfl) ?_ _
    clear cC cN cR fR s1 s2 hHeld
    go_wp2_with fail
    exact bodyPost_ret (v := .tuple #[.agg M.cells, .bool ok]) (by simp [results, Try.results7, go_sem, cB, Cnt.cells]) rfl ⟨M, rfl, HM.out, HB.out, by rw [addN_lossy Hne.out]; exact HAM.out⟩
set_option maxHeartbeats 4000000 in
theorem sReleased_any (C : Cfg) (N : Cnt) (port prio cells : Int) (w : World) (hf : N.Fit) (h : RdCnt w N) (ok : Bool) (hok : ok = true ↔ formP C N port prio cells ∧ Cnt.Ok C (addN N port prio (-cells))) :
    Calls Try.prog 10 #[.agg C.cells, .agg N.cells, .int .i64 port, .int .i64 prio, .int .i64 cells] w fun e w' => ∃ M : Cnt, e = .returned (.tuple #[.agg M.cells, .bool ok]) ∧ OwnCn w' w.heap.size M ∧ Below w.heap.size w w' ∧ AlikeC (orZero (addN N port prio (-cells)) ok) M := by
  obtain ⟨b, hb⟩ := ok_decC (formP C N port prio cells)
  have HO : Hid (ok = true ↔ formP C N port prio cells ∧ Cnt.Ok C (addN N port prio (-cells))) := hok
  have HR : Hid (RdCnt w N) := h
  have HF : Hid N.Fit := hf
  have HCb : Hid (b = true ↔ formP C N port prio cells) := hb
  have HB0 : Hid (Below (w.heap.size + 3) (((w.alloc (.cells #[.int .i64 C.p, .int .i64 C.c, .int .i64 C.xo, .int .i64 C.xn, .int .i64 C.hd, .int .i64 C.lo, .int .i64 C.dl] 25)).alloc (.cells #[.slice N.aU N.nU N.cU, .int .i64 N.lo, .slice N.aP N.nP N.cP] 29)).alloc (.cells #[.slice none 0 0, .int .i64 0, .slice none 0 0] 29)) (((w.alloc (.cells #[.int .i64 C.p, .int .i64 C.c, .int .i64 C.xo, .int .i64 C.xn, .int .i64 C.hd, .int .i64 C.lo, .int .i64 C.dl] 25)).alloc (.cells #[.slice N.aU N.nU N.cU, .int .i64 N.lo, .slice N.aP N.nP N.cP] 29)).alloc (.cells #[.slice none 0 0, .int .i64 0, .slice none 0 0] 29))) := Below.refl _ _
  clear hok h hf hb
  unfold Cfg.cells
  rw [show N.cells = #[.slice N.aU N.nU N.cU, .int .i64 N.lo, .slice N.aP N.nP N.cP] from rfl]
  go_enter Try.func10, Try.ntmps10
  go_wp2_with fail
  refine (sForm_any C N port prio cells _ HF.out (HR.out.up (under3 HB0.out)) b HCb.out).mono ?_
  rintro e w1 ⟨rfl, hb1⟩
  have hB := next3 HB0.out hb1
  clear hb1
  cases b
  · have HE : Hid (ok = false) := by
      show ok = false
      rw [Bool.eq_false_iff]
      intro e
      have := HCb.out.2 (HO.out.1 e).1
      cases this
    obtain ⟨kC2, kN2, kR2⟩ := laid3 hB
    have ht := put3_touch w1 (w.heap.size + 1 + 1) (.slice none 0 0) (.int .i64 0) (.slice none 0 0)
    have HB : Hid (Below w.heap.size w (put3 w1 (w.heap.size + 1 + 1) (.slice none 0 0) (.int .i64 0) (.slice none 0 0))) := (under3 hB).trans (ht.below (under3 hB).size (fun x hx => by simp at hx; omega))
    have cB := blk_cell (put3_blk kR2 (.slice none 0 0) (.int .i64 0) (.slice none 0 0))
    have cR := blk_cell kR2
    have fR := blk_free kR2
    clear ht kC2 kN2 kR2 hB
    unfold put3 at cB
    go_wp2_with fail
    have e := HE.out
    subst e
    exact bodyPost_ret (v := .tuple #[.agg #[.slice none 0 0, .int .i64 0, .slice none 0 0], .bool false]) (by simp [results, Try.results10, go_sem, cB]) rfl ⟨zeroC, rfl, zeroC_own _ _, HB.out, AlikeC.refl _⟩
  have HFo : Hid (formP C N port prio cells) := HCb.out.1 rfl
  clear HCb
  have hc1 := HFo.out.cells.1
  have hc2 := HFo.out.cells.2
  have e9 : IntKind.i64.wrap (-cells) = -cells := wrapC _ (by omega) (by omega)
  obtain ⟨i, hip⟩ : ∃ i : Nat, port = (i : Int) := ⟨port.toNat, by have := HFo.out.port; omega⟩
  by_cases hne : prio = 2
  · subst hne
    subst hip
    have HE : Hid (ok = true ↔ Cnt.Ok C (N.addU i (-cells))) := by
      rw [Hid, HO.out, addN_port]
      exact ⟨fun k => k.2, fun k => ⟨HFo.out, k⟩⟩
    have cb := blk_cell (laid3 hB).1
    have cn := blk_cell (laid3 hB).2.1
    go_wp2_with fail
    refine (sChangedP_any C N i (-cells) _ HFo.out.ok (HR.out.up (under3 hB)) (by have := HFo.out.port; have := HFo.out.ok.nU; omega) (by omega) (by omega) ok HE.out).mono ?_
    rintro e w2 ⟨M, rfl, hM, hb2, hAM⟩
    have HAM : Hid (AlikeC (orZero (N.addU i (-cells)) ok) M) := hAM
    have HLb : Hid (w.heap.size + 3 ≤ w1.heap.size) := upper3 hB
    replace hB := next3 hB hb2
    obtain ⟨kC2, kN2, kR2⟩ := laid3 hB
    replace hM := hM.mono (base' := w.heap.size) (by have := HLb.out; omega)
    have ht := put3_touch w2 (w.heap.size + 1 + 1) (.slice M.aU M.nU M.cU) (.int .i64 M.lo) (.slice M.aP M.nP M.cP)
    have HM : Hid (OwnCn (put3 w2 (w.heap.size + 1 + 1) (.slice M.aU M.nU M.cU) (.int .i64 M.lo) (.slice M.aP M.nP M.cP)) w.heap.size M) := touch3 hM kR2
    have HB : Hid (Below w.heap.size w (put3 w2 (w.heap.size + 1 + 1) (.slice M.aU M.nU M.cU) (.int .i64 M.lo) (.slice M.aP M.nP M.cP))) := (under3 hB).trans (ht.below (under3 hB).size (fun x hx => by simp at hx; omega))
    have cB := blk_cell (put3_blk kR2 (.slice M.aU M.nU M.cU) (.int .i64 M.lo) (.slice M.aP M.nP M.cP))
    have cC := blk_cell ((ht.block _ (blk_lt kC2) (fun hx => by have := List.mem_singleton.1 hx; omega)).trans kC2)
    have cN := blk_cell ((ht.block _ (blk_lt kN2) (fun hx => by have := List.mem_singleton.1 hx; omega)).trans kN2)
    have cR := blk_cell kR2
    have fR := blk_free kR2
    have s1 := blk_cell kC2
    have s2 := blk_cell kN2
    clear hM hb2 hAM ht kC2 kN2 kR2 hB
    unfold put3 at cB cC cN
    dsimp only [Cnt.cells]
    clear cb cn
    go_wp2_with fail
    exact bodyPost_ret (v := .tuple #[.agg M.cells, .bool ok]) (by simp [results, Try.results10, go_sem, cB, Cnt.cells]) rfl ⟨M, rfl, HM.out, HB.out, by rw [addN_port]; exact HAM.out⟩
  · clear hip
    have HE : Hid (ok = true ↔ Cnt.Ok C (N.addL (-cells))) := by
      rw [Hid, HO.out, addN_lossy hne]
      exact ⟨fun k => k.2, fun k => ⟨HFo.out, k⟩⟩
    have cb := blk_cell (laid3 hB).1
    have cn := blk_cell (laid3 hB).2.1
    have Hne : Hid (prio ≠ 2) := hne
    clear hne
    go_wp2_with fail
    refine (sChangedL_any C N port prio Hne.out (-cells) _ HFo.out.ok (HR.out.up (under3 hB)) (by omega) (by omega) ok HE.out).mono ?_
    rintro e w2 ⟨M, rfl, hM, hb2, hAM⟩
    have HAM : Hid (AlikeC (orZero (N.addL (-cells)) ok) M) := hAM
    have HLb : Hid (w.heap.size + 3 ≤ w1.heap.size) := upper3 hB
    replace hB := next3 hB hb2
    obtain ⟨kC2, kN2, kR2⟩ := laid3 hB
    replace hM := hM.mono (base' := w.heap.size) (by have := HLb.out; omega)
    have ht := put3_touch w2 (w.heap.size + 1 + 1) (.slice M.aU M.nU M.cU) (.int .i64 M.lo) (.slice M.aP M.nP M.cP)
    have HM : Hid (OwnCn (put3 w2 (w.heap.size + 1 + 1) (.slice M.aU M.nU M.cU) (.int .i64 M.lo) (.slice M.aP M.nP M.cP)) w.heap.size M) := touch3 hM kR2
    have HB : Hid (Below w.heap.size w (put3 w2 (w.heap.size + 1 + 1) (.slice M.aU M.nU M.cU) (.int .i64 M.lo) (.slice M.aP M.nP M.cP))) := (under3 hB).trans (ht.below (under3 hB).size (fun x hx => by simp at hx; omega))
    have cB := blk_cell (put3_blk kR2 (.slice M.aU M.nU M.cU) (.int .i64 M.lo) (.slice M.aP M.nP M.cP))
    have cC := blk_cell ((ht.block _ (blk_lt kC2) (fun hx => by have := List.mem_singleton.1 hx; omega)).trans kC2)
    have cN := blk_cell ((ht.block _ (blk_lt kN2) (fun hx => by have := List.mem_singleton.1 hx; omega)).trans kN2)
    have cR := blk_cell kR2
    have fR := blk_free kR2
    have s1 := blk_cell kC2
    have s2 := blk_cell kN2
    clear hM hb2 hAM ht kC2 kN2 kR2 hB
    unfold put3 at cB cC cN
    dsimp only [Cnt.cells]
    clear cb cn
    go_wp2_with fail
    exact bodyPost_ret (v := .tuple #[.agg M.cells, .bool ok]) (by simp [results, Try.results10, go_sem, cB, Cnt.cells]) rfl ⟨M, rfl, HM.out, HB.out, by rw [addN_lossy Hne.out]; exact HAM.out⟩
set_option maxHeartbeats 4000000 in
theorem iReleased_any (C : Cfg) (N : Cnt) (port prio cells : Int) (w : World) (hf : N.Fit) (h : RdCnt w N) (ok : Bool) (hok : ok = true ↔ formP C N port prio cells ∧ Cnt.Ok C (addN N port prio (-cells))) :
    Calls Try.prog 9 #[.agg C.cells, .agg N.cells, .int .i64 port, .int .i64 prio, .int .i64 cells] w fun e w' => ∃ M : Cnt, e = .returned (.tuple #[.agg M.cells, .bool ok]) ∧ OwnCn w' w.heap.size M ∧ Below w.heap.size w w' ∧ AlikeC (orZero (addN N port prio (-cells)) ok) M := by
  obtain ⟨b, hb⟩ := ok_decC (formP C N port prio cells)
  have HO : Hid (ok = true ↔ formP C N port prio cells ∧ Cnt.Ok C (addN N port prio (-cells))) := hok
  have HR : Hid (RdCnt w N) := h
  have HF : Hid N.Fit := hf
  have HCb : Hid (b = true ↔ formP C N port prio cells) := hb
  have HB0 : Hid (Below (w.heap.size + 3) (((w.alloc (.cells #[.int .i64 C.p, .int .i64 C.c, .int .i64 C.xo, .int .i64 C.xn, .int .i64 C.hd, .int .i64 C.lo, .int .i64 C.dl] 25)).alloc (.cells #[.slice N.aU N.nU N.cU, .int .i64 N.lo, .slice N.aP N.nP N.cP] 29)).alloc (.cells #[.slice none 0 0, .int .i64 0, .slice none 0 0] 29)) (((w.alloc (.cells #[.int .i64 C.p, .int .i64 C.c, .int .i64 C.xo, .int .i64 C.xn, .int .i64 C.hd, .int .i64 C.lo, .int .i64 C.dl] 25)).alloc (.cells #[.slice N.aU N.nU N.cU, .int .i64 N.lo, .slice N.aP N.nP N.cP] 29)).alloc (.cells #[.slice none 0 0, .int .i64 0, .slice none 0 0] 29))) := Below.refl _ _
  clear hok h hf hb
  unfold Cfg.cells
  rw [show N.cells = #[.slice N.aU N.nU N.cU, .int .i64 N.lo, .slice N.aP N.nP N.cP] from rfl]
  go_enter Try.func9, Try.ntmps9
  go_wp2_with fail
  refine (iForm_any C N port prio cells _ HF.out (HR.out.up (under3 HB0.out)) b HCb.out).mono ?_
  rintro e w1 ⟨rfl, hb1⟩
  have hB := next3 HB0.out hb1
  clear hb1
  cases b
  · have HE : Hid (ok = false) := by
      show ok = false
      rw [Bool.eq_false_iff]
      intro e
      have := HCb.out.2 (HO.out.1 e).1
      cases this
    obtain ⟨kC2, kN2, kR2⟩ := laid3 hB
    have ht := put3_touch w1 (w.heap.size + 1 + 1) (.slice none 0 0) (.int .i64 0) (.slice none 0 0)
    have HB : Hid (Below w.heap.size w (put3 w1 (w.heap.size + 1 + 1) (.slice none 0 0) (.int .i64 0) (.slice none 0 0))) := (under3 hB).trans (ht.below (under3 hB).size (fun x hx => by simp at hx; omega))
    have cB := blk_cell (put3_blk kR2 (.slice none 0 0) (.int .i64 0) (.slice none 0 0))
    have cR := blk_cell kR2
    have fR := blk_free kR2
    clear ht kC2 kN2 kR2 hB
    unfold put3 at cB
    go_wp2_with fail
    have e := HE.out
    subst e
    exact bodyPost_ret (v := .tuple #[.agg #[.slice none 0 0, .int .i64 0, .slice none 0 0], .bool false]) (by simp [results, Try.results9, go_sem, cB]) rfl ⟨zeroC, rfl, zeroC_own _ _, HB.out, AlikeC.refl _⟩
  have HFo : Hid (formP C N port prio cells) := HCb.out.1 rfl
  clear HCb
  have hc1 := HFo.out.cells.1
  have hc2 := HFo.out.cells.2
  have e9 : IntKind.i64.wrap (-cells) = -cells := wrapC _ (by omega) (by omega)
  obtain ⟨i, hip⟩ : ∃ i : Nat, port = (i : Int) := ⟨port.toNat, by have := HFo.out.port; omega⟩
  by_cases hne : prio = 2
  · subst hne
    subst hip
    have HE : Hid (ok = true ↔ Cnt.Ok C (N.addU i (-cells))) := by
      rw [Hid, HO.out, addN_port]
      exact ⟨fun k => k.2, fun k => ⟨HFo.out, k⟩⟩
    have cb := blk_cell (laid3 hB).1
    have cn := blk_cell (laid3 hB).2.1
    go_wp2_with fail
    refine wp_region_held_drew (S := fun w' => (∀ o, w'.cell? ⟨w.heap.size, o, none⟩ = (#[.int .i64 C.p, .int .i64 C.c, .int .i64 C.xo, .int .i64 C.xn, .int .i64 C.hd, .int .i64 C.lo, .int .i64 C.dl] : Array Value)[o]?) ∧ (∀ o, w'.cell? ⟨w.heap.size + 1, o, none⟩ = (#[.slice N.aU N.nU N.cU, .int .i64 N.lo, .slice N.aP N.nP N.cP] : Array Value)[o]?)) (by kernel_rfl) ⟨cb, cn⟩ (fun hHeld => ?_)
    refine takeD (i := 0) (some 20) (v := ?_) rfl rfl (by kernel_rfl) (by kernel_rfl) (by kernel_rfl) (fun _ _ _ h => h) (by kernel_rfl) ?_ (by assumption) ?_
    rotate_left
    · intro wx hSw
      obtain ⟨hS1, hS2⟩ := hSw
      go_simp
      try (with_reducible rfl)
    try simp only [Act.put, List.setIfInBounds_toArray, List.set_cons_zero, List.set_cons_succ]
    refine takeD (i := 1) (some 21) (v := ?_) rfl rfl (by kernel_rfl) (by kernel_rfl) (by kernel_rfl) (fun _ _ _ h => h) (by kernel_rfl) ?_ (by assumption) ?_
    rotate_left
    · intro wx hSw
      obtain ⟨hS1, hS2⟩ := hSw
      go_simp
      try (with_reducible rfl)
    try simp only [Act.put, List.setIfInBounds_toArray, List.set_cons_zero, List.set_cons_succ]
    refine takeD (i := 2) (some 22) (v := ?_) rfl rfl (by kernel_rfl) (by kernel_rfl) (by kernel_rfl) (fun _ _ _ h => h) (by kernel_rfl) ?_ (by assumption) ?_
    rotate_left
    · intro wx hSw
      obtain ⟨hS1, hS2⟩ := hSw
      go_simp
      try (with_reducible rfl)
    try simp only [Act.put, List.setIfInBounds_toArray, List.set_cons_zero, List.set_cons_succ]
    refine takeD (i := 3) (some 23) (v := ?_) rfl rfl (by kernel_rfl) (by kernel_rfl) (by kernel_rfl) (fun _ _ _ h => h) (by kernel_rfl) ?_ (by assumption) ?_
    rotate_left
    · intro wx hSw
      obtain ⟨hS1, hS2⟩ := hSw
      go_simp
      try (with_reducible rfl)
    try simp only [Act.put, List.setIfInBounds_toArray, List.set_cons_zero, List.set_cons_succ]
    refine takeD (i := 5) (some 25) (v := ?_) rfl rfl (by kernel_rfl) (by kernel_rfl) (by kernel_rfl) (fun _ _ _ h => h) (by kernel_rfl) ?_ (by assumption) ?_
    rotate_left
    · intro wx hSw
      obtain ⟨hS1, hS2⟩ := hSw
      go_simp
      try (with_reducible rfl)
    try simp only [Act.put, List.setIfInBounds_toArray, List.set_cons_zero, List.set_cons_succ]
    refine takeD (i := 6) (some 26) (v := ?_) rfl rfl (by kernel_rfl) (by kernel_rfl) (by kernel_rfl) (fun _ _ _ h => h) (by kernel_rfl) ?_ (by assumption) ?_
    rotate_left
    · intro wx hSw
      obtain ⟨hS1, hS2⟩ := hSw
      go_simp
      try (with_reducible rfl)
    try simp only [Act.put, List.setIfInBounds_toArray, List.set_cons_zero, List.set_cons_succ]
    refine wpAnyH_ready (rs := [4]) (by kernel_rfl) (by simp) ?_
    refine AllReadyH.cons rfl (fun K hK => ?_) AllReadyH.nil
    go_simp
    refine (limitFor_port _ _).mono ?_
    rintro e w' ⟨rfl, hw⟩
    rw [hw]
    clear hw w'
    go_wp2_with fail
    refine hK.out _ _ ⟨cb, cn⟩ (fun hHeld => ?_)
    clear hK K
    try simp only [Act.put, List.setIfInBounds_toArray, List.set_cons_zero, List.set_cons_succ]
    refine wpAnyH_ready (rs := [7]) (by kernel_rfl) (by simp) ?_
    refine AllReadyH.cons rfl (fun K hK => ?_) AllReadyH.nil
    go_simp
    replace hB := hB.drew
    refine (iChangedP_any C N i (-cells) _ HFo.out.ok (HR.out.up (under3 hB)) (by have := HFo.out.port; have := HFo.out.ok.nU; omega) (by omega) (by omega) ok HE.out).mono ?_
    rintro e w2 ⟨M, rfl, hM, hb2, hAM⟩
    have HAM : Hid (AlikeC (orZero (N.addU i (-cells)) ok) M) := hAM
    have HLb : Hid (w.heap.size + 3 ≤ w1.drew.heap.size) := upper3 hB
    replace hB := next3 hB hb2
    obtain ⟨kC2, kN2, kR2⟩ := laid3 hB
    replace hM := hM.mono (base' := w.heap.size) (by have := HLb.out; omega)
    have ht := put3_touch w2 (w.heap.size + 1 + 1) (.slice M.aU M.nU M.cU) (.int .i64 M.lo) (.slice M.aP M.nP M.cP)
    have HM : Hid (OwnCn (put3 w2 (w.heap.size + 1 + 1) (.slice M.aU M.nU M.cU) (.int .i64 M.lo) (.slice M.aP M.nP M.cP)) w.heap.size M) := touch3 hM kR2
    have HB : Hid (Below w.heap.size w (put3 w2 (w.heap.size + 1 + 1) (.slice M.aU M.nU M.cU) (.int .i64 M.lo) (.slice M.aP M.nP M.cP))) := (under3 hB).trans (ht.below (under3 hB).size (fun x hx => by simp at hx; omega))
    have cB := blk_cell (put3_blk kR2 (.slice M.aU M.nU M.cU) (.int .i64 M.lo) (.slice M.aP M.nP M.cP))
    have cC := blk_cell ((ht.block _ (blk_lt kC2) (fun hx => by have := List.mem_singleton.1 hx; omega)).trans kC2)
    have cN := blk_cell ((ht.block _ (blk_lt kN2) (fun hx => by have := List.mem_singleton.1 hx; omega)).trans kN2)
    have cR := blk_cell kR2
    have fR := blk_free kR2
    have s1 := blk_cell kC2
    have s2 := blk_cell kN2
    clear hM hb2 hAM ht kC2 kN2 kR2 hB
    unfold put3 at cB cC cN
    dsimp only [Cnt.cells]
    clear cb cn
    go_wp2_with fail
    refine hK.out _ _ ⟨s1, s2⟩ (fun hHeld => ?_)
    clear hK K
    try simp only [Act.put, List.setIfInBounds_toArray, List.set_cons_zero, List.set_cons_succ]
    refine takeD (i := 8) (some 28) (v := ?_) rfl rfl (by kernel_rfl) (by kernel_rfl) (by kernel_rfl) (fun _ _ _ h => h) (by kernel_rfl) ?_ (by assumption) ?_
    rotate_left
    · intro wx hSw
      obtain ⟨hS1, hS2⟩ := hSw
      go_simp
      try (with_reducible rfl)
    try simp only [Act.put, List.setIfInBounds_toArray, List.set_cons_zero, List.set_cons_succ]
    refine takeD (i := 9) (some 29) (v := ?_) rfl rfl (by kernel_rfl) (by kernel_rfl) (by kernel_rfl) (fun _ _ _ h => h) (by kernel_rfl) ?_ (by assumption) ?_
    rotate_left
    · intro wx hSw
      obtain ⟨hS1, hS2⟩ := hSw
      go_simp
      try (with_reducible rfl)
    try simp only [Act.put, List.setIfInBounds_toArray, List.set_cons_zero, List.set_cons_succ]
    refine wpAnyH_ready (rs := [10]) (by kernel_rfl) (by simp) ?_
    refine AllReadyH.cons rfl (fun K hK => ?_) AllReadyH.nil
    go_simp
    refine hK.out _ _ ⟨cC, cN⟩ (fun hHeld => ?_)
    clear hK K
    try simp only [Act.put, List.setIfInBounds_toArray, List.set_cons_zero, List.set_cons_succ]
    refine wpAnyH_ready (rs := [11]) (by kernel_rfl) (by simp) ?_
    refine AllReadyH.cons rfl (fun K hK => ?_) AllReadyH.nil
    go_simp
    refine hK.out _ _ ⟨cC, cN⟩ (fun hHeld => ?_)
    clear hK K
    try simp only [Act.put, List.setIfInBounds_toArray, List.set_cons_zero, List.set_cons_succ]
    refine wpAnyH_done (by kernel_rfl) ?_ _
    clear cC cN cR fR s1 s2 hHeld
    go_wp2_with fail
    exact bodyPost_ret (v := .tuple #[.agg M.cells, .bool ok]) (by simp [results, Try.results9, go_sem, cB, Cnt.cells]) rfl ⟨M, rfl, HM.out, HB.out, by rw [addN_port]; exact HAM.out⟩
  · clear hip
    have HE : Hid (ok = true ↔ Cnt.Ok C (N.addL (-cells))) := by
      rw [Hid, HO.out, addN_lossy hne]
      exact ⟨fun k => k.2, fun k => ⟨HFo.out, k⟩⟩
    have cb := blk_cell (laid3 hB).1
    have cn := blk_cell (laid3 hB).2.1
    have Hne : Hid (prio ≠ 2) := hne
    clear hne
    go_wp2_with fail
    refine wp_region_held_drew (S := fun w' => (∀ o, w'.cell? ⟨w.heap.size, o, none⟩ = (#[.int .i64 C.p, .int .i64 C.c, .int .i64 C.xo, .int .i64 C.xn, .int .i64 C.hd, .int .i64 C.lo, .int .i64 C.dl] : Array Value)[o]?) ∧ (∀ o, w'.cell? ⟨w.heap.size + 1, o, none⟩ = (#[.slice N.aU N.nU N.cU, .int .i64 N.lo, .slice N.aP N.nP N.cP] : Array Value)[o]?)) (by kernel_rfl) ⟨cb, cn⟩ (fun hHeld => ?_)
    refine takeD (i := 0) (some 20) (v := ?_) rfl rfl (by kernel_rfl) (by kernel_rfl) (by kernel_rfl) (fun _ _ _ h => h) (by kernel_rfl) ?_ (by assumption) ?_
    rotate_left
    · intro wx hSw
      obtain ⟨hS1, hS2⟩ := hSw
      go_simp
      try (with_reducible rfl)
    try simp only [Act.put, List.setIfInBounds_toArray, List.set_cons_zero, List.set_cons_succ]
    refine takeD (i := 1) (some 21) (v := ?_) rfl rfl (by kernel_rfl) (by kernel_rfl) (by kernel_rfl) (fun _ _ _ h => h) (by kernel_rfl) ?_ (by assumption) ?_
    rotate_left
    · intro wx hSw
      obtain ⟨hS1, hS2⟩ := hSw
      go_simp
      try (with_reducible rfl)
    try simp only [Act.put, List.setIfInBounds_toArray, List.set_cons_zero, List.set_cons_succ]
    refine takeD (i := 2) (some 22) (v := ?_) rfl rfl (by kernel_rfl) (by kernel_rfl) (by kernel_rfl) (fun _ _ _ h => h) (by kernel_rfl) ?_ (by assumption) ?_
    rotate_left
    · intro wx hSw
      obtain ⟨hS1, hS2⟩ := hSw
      go_simp
      try (with_reducible rfl)
    try simp only [Act.put, List.setIfInBounds_toArray, List.set_cons_zero, List.set_cons_succ]
    refine takeD (i := 3) (some 23) (v := ?_) rfl rfl (by kernel_rfl) (by kernel_rfl) (by kernel_rfl) (fun _ _ _ h => h) (by kernel_rfl) ?_ (by assumption) ?_
    rotate_left
    · intro wx hSw
      obtain ⟨hS1, hS2⟩ := hSw
      go_simp
      try (with_reducible rfl)
    try simp only [Act.put, List.setIfInBounds_toArray, List.set_cons_zero, List.set_cons_succ]
    refine takeD (i := 5) (some 25) (v := ?_) rfl rfl (by kernel_rfl) (by kernel_rfl) (by kernel_rfl) (fun _ _ _ h => h) (by kernel_rfl) ?_ (by assumption) ?_
    rotate_left
    · intro wx hSw
      obtain ⟨hS1, hS2⟩ := hSw
      go_simp
      try (with_reducible rfl)
    try simp only [Act.put, List.setIfInBounds_toArray, List.set_cons_zero, List.set_cons_succ]
    refine takeD (i := 6) (some 26) (v := ?_) rfl rfl (by kernel_rfl) (by kernel_rfl) (by kernel_rfl) (fun _ _ _ h => h) (by kernel_rfl) ?_ (by assumption) ?_
    rotate_left
    · intro wx hSw
      obtain ⟨hS1, hS2⟩ := hSw
      go_simp
      try (with_reducible rfl)
    try simp only [Act.put, List.setIfInBounds_toArray, List.set_cons_zero, List.set_cons_succ]
    refine wpAnyH_ready (rs := [4]) (by kernel_rfl) (by simp) ?_
    refine AllReadyH.cons rfl (fun K hK => ?_) AllReadyH.nil
    go_simp
    refine (limitFor_lossy _ _ _ Hne.out).mono ?_
    rintro e w' ⟨rfl, hw⟩
    rw [hw]
    clear hw w'
    go_wp2_with fail
    refine hK.out _ _ ⟨cb, cn⟩ (fun hHeld => ?_)
    clear hK K
    try simp only [Act.put, List.setIfInBounds_toArray, List.set_cons_zero, List.set_cons_succ]
    refine wpAnyH_ready (rs := [7]) (by kernel_rfl) (by simp) ?_
    refine AllReadyH.cons rfl (fun K hK => ?_) AllReadyH.nil
    go_simp
    replace hB := hB.drew
    refine (iChangedL_any C N (-cells) _ HFo.out.ok (HR.out.up (under3 hB)) (by omega) (by omega) ok HE.out).mono ?_
    rintro e w2 ⟨M, rfl, hM, hb2, hAM⟩
    have HAM : Hid (AlikeC (orZero (N.addL (-cells)) ok) M) := hAM
    have HLb : Hid (w.heap.size + 3 ≤ w1.drew.heap.size) := upper3 hB
    replace hB := next3 hB hb2
    obtain ⟨kC2, kN2, kR2⟩ := laid3 hB
    replace hM := hM.mono (base' := w.heap.size) (by have := HLb.out; omega)
    have ht := put3_touch w2 (w.heap.size + 1 + 1) (.slice M.aU M.nU M.cU) (.int .i64 M.lo) (.slice M.aP M.nP M.cP)
    have HM : Hid (OwnCn (put3 w2 (w.heap.size + 1 + 1) (.slice M.aU M.nU M.cU) (.int .i64 M.lo) (.slice M.aP M.nP M.cP)) w.heap.size M) := touch3 hM kR2
    have HB : Hid (Below w.heap.size w (put3 w2 (w.heap.size + 1 + 1) (.slice M.aU M.nU M.cU) (.int .i64 M.lo) (.slice M.aP M.nP M.cP))) := (under3 hB).trans (ht.below (under3 hB).size (fun x hx => by simp at hx; omega))
    have cB := blk_cell (put3_blk kR2 (.slice M.aU M.nU M.cU) (.int .i64 M.lo) (.slice M.aP M.nP M.cP))
    have cC := blk_cell ((ht.block _ (blk_lt kC2) (fun hx => by have := List.mem_singleton.1 hx; omega)).trans kC2)
    have cN := blk_cell ((ht.block _ (blk_lt kN2) (fun hx => by have := List.mem_singleton.1 hx; omega)).trans kN2)
    have cR := blk_cell kR2
    have fR := blk_free kR2
    have s1 := blk_cell kC2
    have s2 := blk_cell kN2
    clear hM hb2 hAM ht kC2 kN2 kR2 hB
    unfold put3 at cB cC cN
    dsimp only [Cnt.cells]
    clear cb cn
    go_wp2_with fail
    refine hK.out _ _ ⟨s1, s2⟩ (fun hHeld => ?_)
    clear hK K
    try simp only [Act.put, List.setIfInBounds_toArray, List.set_cons_zero, List.set_cons_succ]
    refine takeD (i := 8) (some 28) (v := ?_) rfl rfl (by kernel_rfl) (by kernel_rfl) (by kernel_rfl) (fun _ _ _ h => h) (by kernel_rfl) ?_ (by assumption) ?_
    rotate_left
    · intro wx hSw
      obtain ⟨hS1, hS2⟩ := hSw
      go_simp
      try (with_reducible rfl)
    try simp only [Act.put, List.setIfInBounds_toArray, List.set_cons_zero, List.set_cons_succ]
    refine takeD (i := 9) (some 29) (v := ?_) rfl rfl (by kernel_rfl) (by kernel_rfl) (by kernel_rfl) (fun _ _ _ h => h) (by kernel_rfl) ?_ (by assumption) ?_
    rotate_left
    · intro wx hSw
      obtain ⟨hS1, hS2⟩ := hSw
      go_simp
      try (with_reducible rfl)
    try simp only [Act.put, List.setIfInBounds_toArray, List.set_cons_zero, List.set_cons_succ]
    refine wpAnyH_ready (rs := [10]) (by kernel_rfl) (by simp) ?_
    refine AllReadyH.cons rfl (fun K hK => ?_) AllReadyH.nil
    go_simp
    refine hK.out _ _ ⟨cC, cN⟩ (fun hHeld => ?_)
    clear hK K
    try simp only [Act.put, List.setIfInBounds_toArray, List.set_cons_zero, List.set_cons_succ]
    refine wpAnyH_ready (rs := [11]) (by kernel_rfl) (by simp) ?_
    refine AllReadyH.cons rfl (fun K hK => ?_) AllReadyH.nil
    go_simp
    refine hK.out _ _ ⟨cC, cN⟩ (fun hHeld => ?_)
    clear hK K
    try simp only [Act.put, List.setIfInBounds_toArray, List.set_cons_zero, List.set_cons_succ]
    refine wpAnyH_done (by kernel_rfl) ?_ _
    clear cC cN cR fR s1 s2 hHeld
    go_wp2_with fail
    exact bodyPost_ret (v := .tuple #[.agg M.cells, .bool ok]) (by simp [results, Try.results9, go_sem, cB, Cnt.cells]) rfl ⟨M, rfl, HM.out, HB.out, by rw [addN_lossy Hne.out]; exact HAM.out⟩
end Go.Proofs.Ytpldaohflojkmaa
