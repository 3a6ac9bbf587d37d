/- At every configuration and counts CountsOk answers as the specification does, and writes into no argument: the law FnExactCountsOk returns true for every argument, under no condition. -/
import Derived.Test.YtalbkpofiobmiaaRows
import Derived.Test.YtalbkpofiobmiaaCnF
import Derived.Test.YtalbkpofiobmiaaCnD
import Derived.Test.YtalbkpofiobmiaaLiftC
import Derived.ProofKit
import Derived.OpenShut
import Derived.ShutString
import Derived.ChangeOld
import Derived.Below
namespace Go.Proofs.Ytalbkpofiobmiaa
open Go.ChangeShapes Go.WideShapes Go.ChangeAt Go.RowKit
set_option linter.unusedVariables false

set_option maxHeartbeats 4000000 in
theorem countsOk_law (C : Cfg) (N : Cnt) (w : World) (hf : N.Fit) (h : RdCnt w N) :
    Calls Try.prog 4 #[.agg C.cells, .agg N.cells] w fun e w' => e = .returned (.bool true) ∧ Below w.heap.size w w' := by
  obtain ⟨ok, hok⟩ := ok_decC (Cnt.Ok C N)
  have HO : Hid (ok = true ↔ Cnt.Ok C N) := hok
  have HR : Hid (RdCnt w N) := h
  have HF : Hid N.Fit := hf
  have hbb : (ok != ok) = false := by cases ok <;> rfl
  have HB0 : Hid (Below (w.heap.size + 2) ((w.alloc (.cells #[.int .i64 C.p, .int .i64 C.c, .int .i64 C.xo, .int .i64 C.xn, .int .i64 C.hd, .int .i64 C.lo, .int .i64 C.dl] 23)).alloc (.cells #[.slice N.aU N.nU N.cU, .int .i64 N.lo, .slice N.aP N.nP N.cP] 31)) ((w.alloc (.cells #[.int .i64 C.p, .int .i64 C.c, .int .i64 C.xo, .int .i64 C.xn, .int .i64 C.hd, .int .i64 C.lo, .int .i64 C.dl] 23)).alloc (.cells #[.slice N.aU N.nU N.cU, .int .i64 N.lo, .slice N.aP N.nP N.cP] 31))) := Below.refl _ _
  clear h hf hok
  unfold Cfg.cells Cnt.cells
  go_enter Try.func4, Try.ntmps4
  go_wp2_with fail
  refine (szCounts_any N _ HF.out).mono ?_
  rintro e w1 ⟨⟨r, rfl, hr⟩, hb⟩
  have hB := next2 HB0.out hb
  clear hb
  rcases hr with rfl | ⟨r0, hs⟩
  · have B := under2 hB
    go_wp2_with fail
    go_ret
    exact ⟨rfl, B⟩
  have HS : Hid N.Small := hs
  clear hs
  have cb := (boxed2 hB).1
  have cn := (boxed2 hB).2
  have hr0 : ¬ r < 0 := by omega
  go_wp2_with fail
  refine wp_region_held_drew (S := fun w' => (∀ o, w'.cell? ⟨w.heap.size, o, none⟩ = (#[.int .i64 C.p, .int .i64 C.c, .int .i64 C.xo, .int .i64 C.xn, .int .i64 C.hd, .int .i64 C.lo, .int .i64 C.dl] : Array Value)[o]?) ∧ (∀ o, w'.cell? ⟨w.heap.size + 1, o, none⟩ = (#[.slice N.aU N.nU N.cU, .int .i64 N.lo, .slice N.aP N.nP N.cP] : Array Value)[o]?)) (by kernel_rfl) ⟨cb, cn⟩ (fun hHeld => ?_)
  refine takeD (i := 0) (some 14) (v := ?_) rfl rfl (by kernel_rfl) (by kernel_rfl) (by kernel_rfl) (fun _ _ _ h => h) (by kernel_rfl) ?_ (by assumption) ?_
  rotate_left
  · intro wx hSw
    obtain ⟨hS1, hS2⟩ := hSw
    go_simp
    try (with_reducible rfl)
  try simp only [Act.put, List.setIfInBounds_toArray, List.set_cons_zero, List.set_cons_succ]
  refine takeD (i := 2) (some 16) (v := ?_) rfl rfl (by kernel_rfl) (by kernel_rfl) (by kernel_rfl) (fun _ _ _ h => h) (by kernel_rfl) ?_ (by assumption) ?_
  rotate_left
  · intro wx hSw
    obtain ⟨hS1, hS2⟩ := hSw
    go_simp
    try (with_reducible rfl)
  try simp only [Act.put, List.setIfInBounds_toArray, List.set_cons_zero, List.set_cons_succ]
  refine wpAnyH_ready (rs := [1]) (by kernel_rfl) (by simp) ?_
  refine AllReadyH.cons rfl (fun K hK => ?_) AllReadyH.nil
  go_simp
  have hd : Below w1.heap.size w1 w1.drew := (Below.refl _ _).drew
  replace hB := next2 hB hd
  replace cb := (boxed2 hB).1
  replace cn := (boxed2 hB).2
  clear hd
  refine (toConfig_any C _).mono ?_
  rintro e wc ⟨rfl, hb⟩
  replace hB := next2 hB hb
  replace cb := (boxed2 hB).1
  replace cn := (boxed2 hB).2
  clear hb
  unfold Cfg.cells
  go_wp2_with fail
  refine hK.out _ _ ⟨cb, cn⟩ (fun hHeld => ?_)
  clear hK K
  try simp only [Act.put, List.setIfInBounds_toArray, List.set_cons_zero, List.set_cons_succ]
  refine wpAnyH_ready (rs := [3]) (by kernel_rfl) (by simp) ?_
  refine AllReadyH.cons rfl (fun K hK => ?_) AllReadyH.nil
  go_simp
  refine (toCounts_any N _ HS.out (HR.out.up (under2 hB))).mono ?_
  rintro e wn ⟨gU1, gP1, rfl, j1, hb⟩
  replace hB := next2 hB hb
  replace cb := (boxed2 hB).1
  replace cn := (boxed2 hB).2
  clear hb
  dsimp only [Cnt.copy, Cnt.cells]
  go_wp2_with fail
  refine hK.out _ _ ⟨cb, cn⟩ (fun hHeld => ?_)
  clear hK K
  try simp only [Act.put, List.setIfInBounds_toArray, List.set_cons_zero, List.set_cons_succ]
  refine wpAnyH_ready (rs := [4]) (by kernel_rfl) (by simp) ?_
  refine AllReadyH.cons rfl (fun K hK => ?_) AllReadyH.nil
  go_simp
  refine (sCountsOk_any C (N.copy gU1 gP1) _ (copy_smallC HS.out).fit j1.rd ok (HO.out.trans (copy_alike N gU1 gP1).ok.symm)).mono ?_
  rintro e ws ⟨rfl, hb⟩
  replace hB := next2 hB hb
  replace cb := (boxed2 hB).1
  replace cn := (boxed2 hB).2
  clear hb
  go_wp2_with fail
  refine hK.out _ _ ⟨cb, cn⟩ (fun hHeld => ?_)
  clear hK K
  try simp only [Act.put, List.setIfInBounds_toArray, List.set_cons_zero, List.set_cons_succ]
  refine wpAnyH_ready (rs := [5]) (by kernel_rfl) (by simp) ?_
  refine AllReadyH.cons rfl (fun K hK => ?_) AllReadyH.nil
  go_simp
  refine hK.out _ _ ⟨cb, cn⟩ (fun hHeld => ?_)
  clear hK K
  try simp only [Act.put, List.setIfInBounds_toArray, List.set_cons_zero, List.set_cons_succ]
  refine wpAnyH_done (by kernel_rfl) ?_ _
  clear hHeld
  go_wp2_with fail
  refine (toCounts_any N _ HS.out (HR.out.up (under2 hB))).mono ?_
  rintro e wx ⟨gU, gP, rfl, hX, hb⟩
  replace hB := next2 hB hb
  replace cb := (boxed2 hB).1
  replace cn := (boxed2 hB).2
  clear hb
  have hA := (Below.refl wx.heap.size wx).alloc (Nat.le_refl _) (.cells #[.slice (some ⟨gU, 0, none⟩) N.nU N.nU, .int .i64 N.lo, .slice (some ⟨gP, 0, none⟩) N.nP N.nP] 34)
  have kX := blk_new wx (.cells #[.slice (some ⟨gU, 0, none⟩) N.nU N.nU, .int .i64 N.lo, .slice (some ⟨gP, 0, none⟩) N.nP N.nP] 34)
  have cX := blk_cell kX
  replace hX := hX.up hA
  replace hB := next2 hB hA
  replace cb := (boxed2 hB).1
  replace cn := (boxed2 hB).2
  clear hA
  dsimp only [Cnt.copy, Cnt.cells]
  go_wp2_with fail
  refine wp_region_held_drew (S := fun w' => (∀ o, w'.cell? ⟨w.heap.size, o, none⟩ = (#[.int .i64 C.p, .int .i64 C.c, .int .i64 C.xo, .int .i64 C.xn, .int .i64 C.hd, .int .i64 C.lo, .int .i64 C.dl] : Array Value)[o]?) ∧ (∀ o, w'.cell? ⟨w.heap.size + 1, o, none⟩ = (#[.slice N.aU N.nU N.cU, .int .i64 N.lo, .slice N.aP N.nP N.cP] : Array Value)[o]?) ∧ ∀ o, w'.cell? ⟨wx.heap.size, o, none⟩ = (#[.slice (some ⟨gU, 0, none⟩) N.nU N.nU, .int .i64 N.lo, .slice (some ⟨gP, 0, none⟩) N.nP N.nP] : Array Value)[o]?) (by kernel_rfl) ⟨cb, cn, cX⟩ (fun hHeld => ?_)
  refine takeD (i := 0) (some 21) (v := ?_) rfl rfl (by kernel_rfl) (by kernel_rfl) (by kernel_rfl) (fun _ _ _ h => h) (by kernel_rfl) ?_ (by assumption) ?_
  rotate_left
  · intro wx hSw
    obtain ⟨hS1, hS2, hS3⟩ := hSw
    go_simp
    try (with_reducible rfl)
  try simp only [Act.put, List.setIfInBounds_toArray, List.set_cons_zero, List.set_cons_succ]
  refine takeD (i := 2) (some 23) (v := ?_) rfl rfl (by kernel_rfl) (by kernel_rfl) (by kernel_rfl) (fun _ _ _ h => h) (by kernel_rfl) ?_ (by assumption) ?_
  rotate_left
  · intro wx hSw
    obtain ⟨hS1, hS2, hS3⟩ := hSw
    go_simp
    try (with_reducible rfl)
  try simp only [Act.put, List.setIfInBounds_toArray, List.set_cons_zero, List.set_cons_succ]
  refine wpAnyH_ready (rs := [1]) (by kernel_rfl) (by simp) ?_
  refine AllReadyH.cons rfl (fun K hK => ?_) AllReadyH.nil
  go_simp
  have hd : Below (wx.alloc (.cells #[.slice (some ⟨gU, 0, none⟩) N.nU N.nU, .int .i64 N.lo, .slice (some ⟨gP, 0, none⟩) N.nP N.nP] 34)).heap.size (wx.alloc (.cells #[.slice (some ⟨gU, 0, none⟩) N.nU N.nU, .int .i64 N.lo, .slice (some ⟨gP, 0, none⟩) N.nP N.nP] 34)) (wx.alloc (.cells #[.slice (some ⟨gU, 0, none⟩) N.nU N.nU, .int .i64 N.lo, .slice (some ⟨gP, 0, none⟩) N.nP N.nP] 34)).drew := (Below.refl _ _).drew
  replace hB := next2 hB hd
  replace cb := (boxed2 hB).1
  replace cn := (boxed2 hB).2
  replace hX := hX.up hd
  replace kX := (hd.block _ (blk_lt kX)).trans kX
  replace cX := blk_cell kX
  clear hd
  refine (toConfig_any C _).mono ?_
  rintro e wc ⟨rfl, hb⟩
  replace hB := next2 hB hb
  replace cb := (boxed2 hB).1
  replace cn := (boxed2 hB).2
  replace hX := hX.up hb
  replace kX := (hb.block _ (blk_lt kX)).trans kX
  replace cX := blk_cell kX
  clear hb
  unfold Cfg.cells
  go_wp2_with fail
  refine hK.out _ _ ⟨cb, cn, cX⟩ (fun hHeld => ?_)
  clear hK K
  try simp only [Act.put, List.setIfInBounds_toArray, List.set_cons_zero, List.set_cons_succ]
  refine wpAnyH_ready (rs := [3]) (by kernel_rfl) (by simp) ?_
  refine AllReadyH.cons rfl (fun K hK => ?_) AllReadyH.nil
  go_simp
  refine (iCountsOk_any C (N.copy gU gP) _ (copy_smallC HS.out).fit hX.rd ok (HO.out.trans (copy_alike N gU gP).ok.symm)).mono ?_
  rintro e wi ⟨rfl, hb⟩
  replace hB := next2 hB hb
  replace cb := (boxed2 hB).1
  replace cn := (boxed2 hB).2
  replace hX := hX.up hb
  replace kX := (hb.block _ (blk_lt kX)).trans kX
  replace cX := blk_cell kX
  clear hb
  go_wp2_with fail
  refine hK.out _ _ ⟨cb, cn, cX⟩ (fun hHeld => ?_)
  clear hK K
  try simp only [Act.put, List.setIfInBounds_toArray, List.set_cons_zero, List.set_cons_succ]
  refine wpAnyH_ready (rs := [4]) (by kernel_rfl) (by simp) ?_
  refine AllReadyH.cons rfl (fun K hK => ?_) AllReadyH.nil
  go_simp
  refine hK.out _ _ ⟨cb, cn, cX⟩ (fun hHeld => ?_)
  clear hK K
  try simp only [Act.put, List.setIfInBounds_toArray, List.set_cons_zero, List.set_cons_succ]
  refine wpAnyH_done (by kernel_rfl) ?_ _
  clear hHeld
  go_wp2_with fail
  refine wp_region_held_drew (S := fun w' => (∀ o, w'.cell? ⟨w.heap.size, o, none⟩ = (#[.int .i64 C.p, .int .i64 C.c, .int .i64 C.xo, .int .i64 C.xn, .int .i64 C.hd, .int .i64 C.lo, .int .i64 C.dl] : Array Value)[o]?) ∧ (∀ o, w'.cell? ⟨w.heap.size + 1, o, none⟩ = (#[.slice N.aU N.nU N.cU, .int .i64 N.lo, .slice N.aP N.nP N.cP] : Array Value)[o]?) ∧ ∀ o, w'.cell? ⟨wx.heap.size, o, none⟩ = (#[.slice (some ⟨gU, 0, none⟩) N.nU N.nU, .int .i64 N.lo, .slice (some ⟨gP, 0, none⟩) N.nP N.nP] : Array Value)[o]?) (by kernel_rfl) ⟨cb, cn, cX⟩ (fun hHeld => ?_)
  refine takeD (i := 0) (some 28) (v := ?_) rfl rfl (by kernel_rfl) (by kernel_rfl) (by kernel_rfl) (fun _ _ _ h => h) (by kernel_rfl) ?_ (by assumption) ?_
  rotate_left
  · intro wx hSw
    obtain ⟨hS1, hS2, hS3⟩ := hSw
    go_simp
    try (with_reducible rfl)
  try simp only [Act.put, List.setIfInBounds_toArray, List.set_cons_zero, List.set_cons_succ]
  refine takeD (i := 1) (some 29) (v := ?_) rfl rfl (by kernel_rfl) (by kernel_rfl) (by kernel_rfl) (fun _ _ _ h => h) (by kernel_rfl) ?_ (by assumption) ?_
  rotate_left
  · intro wx hSw
    obtain ⟨hS1, hS2, hS3⟩ := hSw
    go_simp
    try (with_reducible rfl)
  try simp only [Act.put, List.setIfInBounds_toArray, List.set_cons_zero, List.set_cons_succ]
  refine wpAnyH_ready (rs := [2]) (by kernel_rfl) (by simp) ?_
  refine AllReadyH.cons rfl (fun K hK => ?_) AllReadyH.nil
  go_simp
  have hd : Below wi.heap.size wi wi.drew := (Below.refl _ _).drew
  replace hB := next2 hB hd
  replace cb := (boxed2 hB).1
  replace cn := (boxed2 hB).2
  replace hX := hX.up hd
  replace kX := (hd.block _ (blk_lt kX)).trans kX
  replace cX := blk_cell kX
  clear hd
  refine (toCounts_any N _ HS.out (HR.out.up (under2 hB))).mono ?_
  rintro e wn ⟨gU2, gP2, rfl, j2, hb⟩
  replace hB := next2 hB hb
  replace cb := (boxed2 hB).1
  replace cn := (boxed2 hB).2
  replace hX := hX.up hb
  replace kX := (hb.block _ (blk_lt kX)).trans kX
  replace cX := blk_cell kX
  clear hb
  dsimp only [Cnt.copy, Cnt.cells]
  go_wp2_with fail
  refine hK.out _ _ ⟨cb, cn, cX⟩ (fun hHeld => ?_)
  clear hK K
  try simp only [Act.put, List.setIfInBounds_toArray, List.set_cons_zero, List.set_cons_succ]
  refine wpAnyH_ready (rs := [3]) (by kernel_rfl) (by simp) ?_
  refine AllReadyH.cons rfl (fun K hK => ?_) AllReadyH.nil
  go_simp
  refine (eqCounts_any (N.copy gU gP) (N.copy gU2 gP2) _ (copy_smallC HS.out) hX.rd j2.rd ((copy_alike N gU gP).symm.trans (copy_alike N gU2 gP2))).mono ?_
  rintro e we ⟨rfl, hb⟩
  clear j2
  replace hB := next2 hB hb
  replace cb := (boxed2 hB).1
  replace cn := (boxed2 hB).2
  replace hX := hX.up hb
  replace kX := (hb.block _ (blk_lt kX)).trans kX
  replace cX := blk_cell kX
  clear hb
  go_wp2_with fail
  refine hK.out _ _ ⟨cb, cn, cX⟩ (fun hHeld => ?_)
  clear hK K
  try simp only [Act.put, List.setIfInBounds_toArray, List.set_cons_zero, List.set_cons_succ]
  refine takeD (i := 4) (some 32) (v := ?_) rfl rfl (by kernel_rfl) (by kernel_rfl) (by kernel_rfl) (fun _ _ _ h => h) (by kernel_rfl) ?_ (by assumption) ?_
  rotate_left
  · intro wx hSw
    obtain ⟨hS1, hS2, hS3⟩ := hSw
    go_simp
    try (with_reducible rfl)
  try simp only [Act.put, List.setIfInBounds_toArray, List.set_cons_zero, List.set_cons_succ]
  refine wpAnyH_done (by kernel_rfl) ?_ _
  clear hHeld
  have B := under2 hB
  go_wp2_with fail
  go_ret
  exact ⟨rfl, B⟩

set_option maxRecDepth 100000 in
theorem countsOk_lifted (os : Os) (started : os.Started) (H : Type) (enc : TypeId × Value → H) :
    ReturnsInHanded {} Try.checked os 4 .any (Rows.fnExactCountsOkSpec.pre6 enc Try.prog Try.f4 Rows.fnExactCountsOkRow.domain false) (Rows.fnExactCountsOkSpec.post enc Try.prog Try.f4 false true false false) := by
  refine returnsInHanded_of_change (C := Try.checked) ownOkC started (by kernel_rfl) Try.func4
    (ChangeSpec.witness6 (enc := enc) (C := Try.checked) false ⟨#[], #[.agg #[.int .i64 0, .int .i64 0, .int .i64 0, .int .i64 0, .int .i64 0, .int .i64 0, .int .i64 0], .agg #[.slice none 0 0, .int .i64 0, .slice none 0 0]], []⟩ 8 (by kernel_rfl) (by kernel_rfl) (by kernel_rfl) (by kernel_rfl)) ?_
  intro W base args ds gs before hval0 hW hcnd _
  have hval : ∀ (j : Nat) t v, Try.f4.params[j]? = some t → args[j]? = some v → Value.okWide Try.prog W .any base t v := hval0
  have hW' := hW
  obtain ⟨p, q, hA0, hV, rfl, hfz, hnd⟩ := hW
  have hA : DataW.TrodAll enc Try.prog W 0 (fun _ => true) true Try.f4.params.toList args.toList ds p := hA0
  rw [Try.params4] at hA hval
  obtain ⟨v0, vs0, d0, ds0, p0, q0, hargs, rfl, rfl, h0, r0⟩ := trodAll_cons hA
  obtain ⟨v1, vs1, d1, ds1, p1, q1, rfl, rfl, rfl, h1, r1⟩ := trodAll_cons r0
  obtain ⟨rfl, rfl, rfl⟩ := trodAll_nil r1
  obtain rfl : args = #[v0, v1] := by cases args; simp_all
  obtain ⟨rfl, rfl⟩ := trodVars_none hV
  have k0 := h0
  have lt0 : ∀ x ∈ p0, x.block < W.heap.size := by obtain ⟨m, hm⟩ := k0; exact DataW.trod_lt m _ _ _ hm
  obtain ⟨C0, rfl⟩ := open_config (hval 0 23 v0 rfl rfl) h0
  have k1 := h1
  have lt1 : ∀ x ∈ p1, x.block < W.heap.size := by obtain ⟨m, hm⟩ := k1; exact DataW.trod_lt m _ _ _ hm
  obtain ⟨N1, rfl, f1, rr1⟩ := open_counts (hval 1 31 v1 rfl rfl) h1
  clear hA0 hval0
  refine (countsOk_law C0 N1 W f1 rr1).mono fun e W' ⟨he, bel⟩ => ?_
  subst he
  exact ⟨_, rfl, _, _, _, [], _, [], hW', trodAll_mk1 (shut_bool Try.underlying4 _), (trodAll_cons_mk (Below.trod laidOutC (by kernel_rfl) (of_decide_eq_true (by kernel_rfl)) k0 bel lt0) (trodAll_cons_mk (Below.trod laidOutC (by kernel_rfl) (of_decide_eq_true (by kernel_rfl)) k1 bel lt1) trodAll_mk0)), rfl, bel.frame _, fun h => by cases h⟩

theorem countsOk_holds : Rows.FnExactCountsOkSaid :=
  OpenClaim.holds_of_wide 4 Try.f4 rfl rfl rfl rfl rfl rfl rfl ⟨rfl, rfl, rfl, rfl, rfl⟩ rfl rfl rfl rfl rfl (by kernel_rfl) Try.func4 (by kernel_rfl)
    (of_decide_eq_true (by kernel_rfl)) (by unfold Func.isWrapper; first | (rw [if_pos (by decide +kernel)]; kernel_rfl) | (rw [if_neg (by decide +kernel)]; exact ⟨rfl, rfl⟩))
    (fun os started H enc _ => countsOk_lifted os started H enc)
#print axioms countsOk_holds
end Go.Proofs.Ytalbkpofiobmiaa
