/- At every configuration CountsNew answers as the specification does, and its answer owns its memory: the law FnExactCountsNew returns true for every argument, under no condition. -/
import Derived.Test.YtalbkpofiobmiaaRows
import Derived.Test.YtalbkpofiobmiaaCnNew
import Derived.Test.YtalbkpofiobmiaaLiftC
import Derived.ProofKit
import Derived.OpenShut
import Derived.ShutString
import Derived.ChangeOld
import Derived.Below
namespace Go.Proofs.Ytalbkpofiobmiaa
open Go.ChangeShapes Go.WideShapes Go.ChangeAt Go.RowKit
set_option linter.unusedVariables false

set_option maxHeartbeats 4000000 in
theorem countsNew_law (C : Cfg) (w : World) :
    Calls Try.prog 5 #[.agg C.cells] w fun e w' => e = .returned (.bool true) ∧ Below w.heap.size w w' := by
  obtain ⟨n, hn4, hpn⟩ : ∃ n : Nat, n ≤ 4 ∧ (2 ≤ C.p ∧ C.p ≤ 4 → C.p = (n : Int)) := by
    by_cases h : 2 ≤ C.p ∧ C.p ≤ 4
    · exact ⟨C.p.toNat, by omega, fun _ => by omega⟩
    · exact ⟨0, by omega, fun k => absurd k h⟩
  obtain ⟨ok, hok⟩ := ok_decC C.Ok
  have HO : Hid (ok = true ↔ C.Ok) := hok
  have HPn : Hid (2 ≤ C.p ∧ C.p ≤ 4 → C.p = (n : Int)) := hpn
  have hbb : (ok != ok) = false := by cases ok <;> rfl
  have hB : Below (w.heap.size + 1) (w.alloc (.cells #[.int .i64 C.p, .int .i64 C.c, .int .i64 C.xo, .int .i64 C.xn, .int .i64 C.hd, .int .i64 C.lo, .int .i64 C.dl] 23)) (w.alloc (.cells #[.int .i64 C.p, .int .i64 C.c, .int .i64 C.xo, .int .i64 C.xn, .int .i64 C.hd, .int .i64 C.lo, .int .i64 C.dl] 23)) := Below.refl _ _
  have cb := boxed hB
  clear hok hpn
  unfold Cfg.cells
  go_enter Try.func5, Try.ntmps5
  go_wp2_with fail
  refine (toConfig_any C _).mono ?_
  rintro e wt ⟨rfl, hb⟩
  replace hB := next hB hb
  replace cb := boxed hB
  clear hb
  unfold Cfg.cells
  go_wp2_with fail
  refine (sCountsNew_any C n _ HPn.out ok HO.out).mono ?_
  rintro e w2 ⟨RW, rfl, hW, hb, hAW⟩
  have HAW : Hid (AlikeC (newC n ok) RW) := hAW
  have HW0 : Hid (OwnCn w2 wt.heap.size RW) := hW
  replace hB := next hB hb
  replace cb := boxed hB
  clear hb
  clear hAW
  have hA := (Below.refl w2.heap.size w2).alloc (Nat.le_refl _) (.cells #[.slice RW.aU RW.nU RW.cU, .int .i64 RW.lo, .slice RW.aP RW.nP RW.cP] 34)
  have kW := blk_new w2 (.cells #[.slice RW.aU RW.nU RW.cU, .int .i64 RW.lo, .slice RW.aP RW.nP RW.cP] 34)
  have HEA : Hid ((w2.alloc (.cells #[.slice RW.aU RW.nU RW.cU, .int .i64 RW.lo, .slice RW.aP RW.nP RW.cP] 34)).heap.size = w2.heap.size + 1) := by rw [Hid]; simp
  replace hW := hW.up hA
  replace hB := next hB hA
  replace cb := boxed hB
  clear hA
  dsimp only [Cnt.cells]
  go_wp2_with fail
  generalize w2.alloc (.cells #[.slice RW.aU RW.nU RW.cU, .int .i64 RW.lo, .slice RW.aP RW.nP RW.cP] 34) = wa at *
  refine (toConfig_any C _).mono ?_
  rintro e wt2 ⟨rfl, hb⟩
  have HTmp : Hid (wa.heap.size ≤ wt2.heap.size) := hb.size
  have HBt : Hid (w.heap.size + 1 ≤ wa.heap.size) := upper hB
  replace hW := hW.up hb
  replace kW := (hb.block _ (blk_lt kW)).trans kW
  replace hB := next hB hb
  replace cb := boxed hB
  clear hb
  unfold Cfg.cells
  go_wp2_with fail
  have HwA : Hid (wa.heap.size ≤ wt2.heap.size) := HTmp.out
  refine (iCountsNew_any C n _ HPn.out ok HO.out).mono ?_
  rintro e w4 ⟨RG, rfl, hG, hb, hAG⟩
  have HAG : Hid (AlikeC (newC n ok) RG) := hAG
  have HG0 : Hid (OwnCn w4 wt2.heap.size RG) := hG
  have l34 : Hid (wt2.heap.size ≤ w4.heap.size) := hb.size
  replace hW := hW.up hb
  replace kW := (hb.block _ (blk_lt kW)).trans kW
  replace hB := next hB hb
  replace cb := boxed hB
  clear hb
  clear hAG
  have hA := (Below.refl w4.heap.size w4).alloc (Nat.le_refl _) (.cells #[.slice RG.aU RG.nU RG.cU, .int .i64 RG.lo, .slice RG.aP RG.nP RG.cP] 34)
  have kG := blk_new w4 (.cells #[.slice RG.aU RG.nU RG.cU, .int .i64 RG.lo, .slice RG.aP RG.nP RG.cP] 34)
  replace hG := hG.up hA
  replace hW := hW.up hA
  replace kW := (hA.block _ (blk_lt kW)).trans kW
  replace hB := next hB hA
  replace cb := boxed hB
  clear hA
  have cW := blk_cell kW
  dsimp only [Cnt.cells]
  go_wp2_with fail
  generalize w4.alloc (.cells #[.slice RG.aU RG.nU RG.cU, .int .i64 RG.lo, .slice RG.aP RG.nP RG.cP] 34) = wb at *
  have HGW : Hid (AlikeC RG RW) := HAG.out.symm.trans HAW.out
  have HGs : Hid RG.Small := HAG.out.small (newC_small hn4)
  refine (eqCounts_any RG RW _ HGs.out hG.rd hW.rd HGW.out).mono ?_
  rintro e w5 ⟨rfl, hb⟩
  clear cW
  replace hW := hW.up hb
  replace hG := hG.up hb
  replace kW := (hb.block _ (blk_lt kW)).trans kW
  replace kG := (hb.block _ (blk_lt kG)).trans kG
  replace hB := next hB hb
  replace cb := boxed hB
  clear hb
  have cG := blk_cell kG
  go_wp2_with fail
  refine (markCounts_any RG 1 wt2.heap.size _ hG HGs.out (by omega) (by have := blk_lt kG; have := l34.out; omega)).mono ?_
  rintro e w10 ⟨T, rfl, hM, hT, hTb⟩
  have hTb := hTb w4 HG0.out
  have eA := HEA.out
  have eW := HwA.out
  have hW10 := hW.touchHi HW0.out hT (fun x hx => by have := (hTb x hx).1; omega)
  have kW10 := (hT.block _ (blk_lt kW) (fun hx => by have := (hTb _ hx).1; omega)).trans kW
  have kG10 := (hT.block _ (blk_lt kG) (fun hx => by have := (hTb _ hx).2; omega)).trans kG
  have hB10 := hB.trans (hT.below (upper hB) (fun x hx => by have := (hTb x hx).1; have := HBt.out; omega))
  clear hW hG kW kG cG hT hTb hB eA eW cb
  have cG := blk_cell kG10
  have cb := boxed hB10
  generalize hKK : ((RG.total 1 : Nat) : Int) = KK at *
  have hk1 : ¬ KK < 0 := by omega
  have hk2 : (KK != KK) = false := by simp
  go_wp2_with fail
  refine (heldCounts_any RG 1 wt2.heap.size _ hM HGs.out (by omega)).mono ?_
  rintro e w11 ⟨rfl, hb⟩
  rw [hKK]
  have hW := hW10
  have kW := kW10
  have kG := kG10
  have hB := hB10
  clear hW10 kW10 kG10 hB10 cG
  replace hW := hW.up hb
  replace hM := hM.up hb
  replace kW := (hb.block _ (blk_lt kW)).trans kW
  replace kG := (hb.block _ (blk_lt kG)).trans kG
  replace hB := next hB hb
  replace cb := boxed hB
  clear hb
  go_wp2_with fail
  refine (toConfig_any C _).mono ?_
  rintro e wt3 ⟨rfl, hb⟩
  replace hW := hW.up hb
  replace hM := hM.up hb
  replace kW := (hb.block _ (blk_lt kW)).trans kW
  replace kG := (hb.block _ (blk_lt kG)).trans kG
  replace hB := next hB hb
  replace cb := boxed hB
  clear hb
  unfold Cfg.cells
  go_wp2_with fail
  refine (iCountsNew_any C n _ HPn.out ok HO.out).mono ?_
  rintro e w13 ⟨RH, rfl, hH, hb, hAH⟩
  have HHW : Hid (AlikeC RH RW) := hAH.symm.trans HAW.out
  have HHs : Hid RH.Small := hAH.small (newC_small hn4)
  replace hW := hW.up hb
  replace hM := hM.up hb
  replace kW := (hb.block _ (blk_lt kW)).trans kW
  replace kG := (hb.block _ (blk_lt kG)).trans kG
  replace hB := next hB hb
  replace cb := boxed hB
  clear hb
  clear hAH
  have hA := (Below.refl w13.heap.size w13).alloc (Nat.le_refl _) (.cells #[.slice RH.aU RH.nU RH.cU, .int .i64 RH.lo, .slice RH.aP RH.nP RH.cP] 34)
  replace hH := hH.up hA
  replace hW := hW.up hA
  replace hM := hM.up hA
  replace kW := (hA.block _ (blk_lt kW)).trans kW
  replace kG := (hA.block _ (blk_lt kG)).trans kG
  replace hB := next hB hA
  replace cb := boxed hB
  clear hA
  have cW := blk_cell kW
  dsimp only [Cnt.cells]
  go_wp2_with fail
  generalize w13.alloc (.cells #[.slice RH.aU RH.nU RH.cU, .int .i64 RH.lo, .slice RH.aP RH.nP RH.cP] 34) = wd at *
  refine (eqCounts_any RH RW _ HHs.out hH.rd hW.rd HHW.out).mono ?_
  rintro e w14 ⟨rfl, hb⟩
  clear cW hH
  replace hW := hW.up hb
  replace hM := hM.up hb
  replace kW := (hb.block _ (blk_lt kW)).trans kW
  replace kG := (hb.block _ (blk_lt kG)).trans kG
  replace hB := next hB hb
  replace cb := boxed hB
  clear hb
  have cG := blk_cell kG
  go_wp2_with fail
  refine (heldCounts_any RG 1 wt2.heap.size _ hM HGs.out (by omega)).mono ?_
  rintro e w16 ⟨rfl, hb⟩
  rw [hKK]
  have B := under (next hB hb)
  clear hb hM kG cG cb hB
  go_wp2_with fail
  go_ret
  exact ⟨rfl, B⟩

set_option maxRecDepth 100000 in
theorem countsNew_lifted (os : Os) (started : os.Started) (H : Type) (enc : TypeId × Value → H) :
    ReturnsInHanded {} Try.checked os 5 .any (Rows.fnExactCountsNewSpec.pre6 enc Try.prog Try.f5 Rows.fnExactCountsNewRow.domain false) (Rows.fnExactCountsNewSpec.post enc Try.prog Try.f5 false true false false) := by
  refine returnsInHanded_of_change (C := Try.checked) ownOkC started (by kernel_rfl) Try.func5
    (ChangeSpec.witness6 (enc := enc) (C := Try.checked) false ⟨#[], #[.agg #[.int .i64 0, .int .i64 0, .int .i64 0, .int .i64 0, .int .i64 0, .int .i64 0, .int .i64 0]], []⟩ 8 (by kernel_rfl) (by kernel_rfl) (by kernel_rfl) (by kernel_rfl)) ?_
  intro W base args ds gs before hval0 hW hcnd _
  have hval : ∀ (j : Nat) t v, Try.f5.params[j]? = some t → args[j]? = some v → Value.okWide Try.prog W .any base t v := hval0
  have hW' := hW
  obtain ⟨p, q, hA0, hV, rfl, hfz, hnd⟩ := hW
  have hA : DataW.TrodAll enc Try.prog W 0 (fun _ => true) true Try.f5.params.toList args.toList ds p := hA0
  rw [Try.params5] at hA hval
  obtain ⟨v0, vs0, d0, ds0, p0, q0, hargs, rfl, rfl, h0, r0⟩ := trodAll_cons hA
  obtain ⟨rfl, rfl, rfl⟩ := trodAll_nil r0
  obtain rfl : args = #[v0] := by cases args; simp_all
  obtain ⟨rfl, rfl⟩ := trodVars_none hV
  have k0 := h0
  have lt0 : ∀ x ∈ p0, x.block < W.heap.size := by obtain ⟨m, hm⟩ := k0; exact DataW.trod_lt m _ _ _ hm
  obtain ⟨C0, rfl⟩ := open_config (hval 0 23 v0 rfl rfl) h0
  clear hA0 hval0
  refine (countsNew_law C0 W).mono fun e W' ⟨he, bel⟩ => ?_
  subst he
  exact ⟨_, rfl, _, _, _, [], _, [], hW', trodAll_mk1 (shut_bool Try.underlying4 _), (trodAll_cons_mk (Below.trod laidOutC (by kernel_rfl) (of_decide_eq_true (by kernel_rfl)) k0 bel lt0) trodAll_mk0), rfl, bel.frame _, fun h => by cases h⟩

theorem countsNew_holds : Rows.FnExactCountsNewSaid :=
  OpenClaim.holds_of_wide 5 Try.f5 rfl rfl rfl rfl rfl rfl rfl ⟨rfl, rfl, rfl, rfl, rfl⟩ rfl rfl rfl rfl rfl (by kernel_rfl) Try.func5 (by kernel_rfl)
    (of_decide_eq_true (by kernel_rfl)) (by unfold Func.isWrapper; first | (rw [if_pos (by decide +kernel)]; kernel_rfl) | (rw [if_neg (by decide +kernel)]; exact ⟨rfl, rfl⟩))
    (fun os started H enc _ => countsNew_lifted os started H enc)
#print axioms countsNew_holds
end Go.Proofs.Ytalbkpofiobmiaa
