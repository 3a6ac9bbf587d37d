/- At every configuration SwitchNew answers as the specification does, and its answer owns its memory: the law FnExactSwitchNew returns true for every argument, under no condition. -/
import Derived.Test.YtclibohnmjkliaaRows
import Derived.Test.YtclibohnmjkliaaSwNS
import Derived.Test.YtclibohnmjkliaaSwNI
import Derived.Test.YtclibohnmjkliaaSwL
import Derived.Test.YtclibohnmjkliaaLiftC
import Derived.ProofKit
import Derived.OpenShut
import Derived.ShutString
import Derived.ChangeOld
import Derived.Below
namespace Go.Proofs.Ytclibohnmjkliaa
open Go.ChangeShapes Go.WideShapes Go.ChangeAt Go.RowKit
set_option linter.unusedVariables false

theorem Sw.cells_one (S : Sw) : S.cells.all (·.oneCell') = true := by simp [Sw.cells, Value.oneCell']
/-- a box that was made and filled -/
theorem filled (w : World) (cs : Array Value) : Below w.heap.size w ((w.alloc (.cells #[.int .i64 0, .int .i64 0, .int .i64 0, .int .i64 0, .int .i64 0, .int .i64 0, .int .i64 0, .int .i64 0, .int .i64 0, .slice none 0 0, .slice none 0 0, .int .i64 0, .slice none 0 0, .slice none 0 0, .slice none 0 0, .int .i64 0, .int .i64 0] 33)).setRow w.heap.size cs) ∧ ((w.alloc (.cells #[.int .i64 0, .int .i64 0, .int .i64 0, .int .i64 0, .int .i64 0, .int .i64 0, .int .i64 0, .int .i64 0, .int .i64 0, .slice none 0 0, .slice none 0 0, .int .i64 0, .slice none 0 0, .slice none 0 0, .slice none 0 0, .int .i64 0, .int .i64 0] 33)).setRow w.heap.size cs).heap[w.heap.size]? = some (.cells cs 33 (0, 0)) := by
  have h1 := (Below.refl w.heap.size w).alloc (Nat.le_refl _) (.cells #[.int .i64 0, .int .i64 0, .int .i64 0, .int .i64 0, .int .i64 0, .int .i64 0, .int .i64 0, .int .i64 0, .int .i64 0, .slice none 0 0, .slice none 0 0, .int .i64 0, .slice none 0 0, .slice none 0 0, .slice none 0 0, .int .i64 0, .int .i64 0] 33)
  exact ⟨h1.trans ((setRow_touch _ _ _).below h1.size (fun x hx => by simp at hx; omega)), setRow_blk (blk_new _ _)⟩
set_option maxRecDepth 100000 in
set_option maxHeartbeats 8000000 in
theorem switchNew_law (C : Cfg) (w : World) :
    Calls Try.prog 3 #[.agg C.cells] w fun e w' => e = .returned (.bool true) ∧ Below w.heap.size w w' := by
  obtain ⟨n, hn4, hpn⟩ : ∃ n : Nat, n ≤ 4 ∧ (2 ≤ C.p ∧ C.p ≤ 4 → C.p = (n : Int)) := by
    by_cases h : 2 ≤ C.p ∧ C.p ≤ 4
    · exact ⟨C.p.toNat, by omega, fun _ => by omega⟩
    · exact ⟨0, by omega, fun k => absurd k h⟩
  obtain ⟨ok, hok⟩ := ok_decC C.Ok
  have HO : Hid (ok = true ↔ C.Ok) := hok
  have HPn : Hid (2 ≤ C.p ∧ C.p ≤ 4 → C.p = (n : Int)) := hpn
  have hbb : (ok != ok) = false := by cases ok <;> rfl
  have hB : Below (w.heap.size + 1) (w.alloc (.cells #[.int .i64 C.p, .int .i64 C.c, .int .i64 C.xo, .int .i64 C.xn, .int .i64 C.hd, .int .i64 C.lo, .int .i64 C.dl] 23)) (w.alloc (.cells #[.int .i64 C.p, .int .i64 C.c, .int .i64 C.xo, .int .i64 C.xn, .int .i64 C.hd, .int .i64 C.lo, .int .i64 C.dl] 23)) := Below.refl _ _
  have cb := boxed hB
  clear hok hpn
  unfold Cfg.cells
  go_enter Try.func3, Try.ntmps3
  go_wp2_with fail
  refine (toConfig_any C _).mono ?_
  rintro e wt ⟨rfl, hb⟩
  replace hB := next hB hb
  replace cb := boxed hB
  clear hb
  unfold Cfg.cells
  go_wp2_with fail
  refine (sSwitchNew_any C n _ HPn.out ok HO.out).mono ?_
  rintro e w2 ⟨SW, rfl, hW, hb⟩
  replace hB := next hB hb
  clear hb
  have hA := (filled w2 SW.cells).1
  have HW : Hid (NewS ((w2.alloc (.cells #[.int .i64 0, .int .i64 0, .int .i64 0, .int .i64 0, .int .i64 0, .int .i64 0, .int .i64 0, .int .i64 0, .int .i64 0, .slice none 0 0, .slice none 0 0, .int .i64 0, .slice none 0 0, .slice none 0 0, .slice none 0 0, .int .i64 0, .int .i64 0] 33)).setRow w2.heap.size SW.cells) wt.heap.size C n ok SW) := hW.up hA
  have HKW : Hid (((w2.alloc (.cells #[.int .i64 0, .int .i64 0, .int .i64 0, .int .i64 0, .int .i64 0, .int .i64 0, .int .i64 0, .int .i64 0, .int .i64 0, .slice none 0 0, .slice none 0 0, .int .i64 0, .slice none 0 0, .slice none 0 0, .slice none 0 0, .int .i64 0, .int .i64 0] 33)).setRow w2.heap.size SW.cells).heap[w2.heap.size]? = some (.cells SW.cells 33 (0, 0))) := (filled w2 SW.cells).2
  have K0 : Hid ((w2.alloc (.cells #[.int .i64 0, .int .i64 0, .int .i64 0, .int .i64 0, .int .i64 0, .int .i64 0, .int .i64 0, .int .i64 0, .int .i64 0, .slice none 0 0, .slice none 0 0, .int .i64 0, .slice none 0 0, .slice none 0 0, .slice none 0 0, .int .i64 0, .int .i64 0] 33)).heap[w2.heap.size]? = some (.cells #[.int .i64 0, .int .i64 0, .int .i64 0, .int .i64 0, .int .i64 0, .int .i64 0, .int .i64 0, .int .i64 0, .int .i64 0, .slice none 0 0, .slice none 0 0, .int .i64 0, .slice none 0 0, .slice none 0 0, .slice none 0 0, .int .i64 0, .int .i64 0] 33 (0, 0))) := blk_new _ _
  replace hB := next hB hA
  replace cb := boxed hB
  clear hA hW
  go_wp2_with (refine wpList_stS rfl (.tmp 3) (.tmp 15) rfl w2.heap.size rfl SW.cells rfl #[.int .i64 0, .int .i64 0, .int .i64 0, .int .i64 0, .int .i64 0, .int .i64 0, .int .i64 0, .int .i64 0, .int .i64 0, .slice none 0 0, .slice none 0 0, .int .i64 0, .slice none 0 0, .slice none 0 0, .slice none 0 0, .int .i64 0, .int .i64 0] K0.out rfl rfl SW.cells_one ?_)
  clear K0
  generalize ((w2.alloc (.cells #[.int .i64 0, .int .i64 0, .int .i64 0, .int .i64 0, .int .i64 0, .int .i64 0, .int .i64 0, .int .i64 0, .int .i64 0, .slice none 0 0, .slice none 0 0, .int .i64 0, .slice none 0 0, .slice none 0 0, .slice none 0 0, .int .i64 0, .int .i64 0] 33)).setRow w2.heap.size SW.cells) = wa at *
  have BW : Below wa.heap.size wa wa := Below.refl _ _
  refine (toConfig_any C _).mono ?_
  rintro e wt2 ⟨rfl, hb⟩
  have HTmp : Hid (wa.heap.size ≤ wt2.heap.size) := hb.size
  have HBt : Hid (w.heap.size + 1 ≤ wa.heap.size) := upper hB
  replace BW := BW.trans (hb.mono BW.size)
  replace hB := next hB hb
  replace cb := boxed hB
  clear hb
  unfold Cfg.cells
  go_wp2_with fail
  refine (iSwitchNew_any C n _ HPn.out ok HO.out).mono ?_
  rintro e w4 ⟨SG, rfl, hG, hb⟩
  have HG0 : Hid (NewS w4 wt2.heap.size C n ok SG) := hG
  have l34 : Hid (wt2.heap.size ≤ w4.heap.size) := hb.size
  replace BW := BW.trans (hb.mono BW.size)
  replace hB := next hB hb
  replace cb := boxed hB
  clear hb
  have hb := (filled w4 SG.cells).1
  have kG := (filled w4 SG.cells).2
  have K0 : Hid ((w4.alloc (.cells #[.int .i64 0, .int .i64 0, .int .i64 0, .int .i64 0, .int .i64 0, .int .i64 0, .int .i64 0, .int .i64 0, .int .i64 0, .slice none 0 0, .slice none 0 0, .int .i64 0, .slice none 0 0, .slice none 0 0, .slice none 0 0, .int .i64 0, .int .i64 0] 33)).heap[w4.heap.size]? = some (.cells #[.int .i64 0, .int .i64 0, .int .i64 0, .int .i64 0, .int .i64 0, .int .i64 0, .int .i64 0, .int .i64 0, .int .i64 0, .slice none 0 0, .slice none 0 0, .int .i64 0, .slice none 0 0, .slice none 0 0, .slice none 0 0, .int .i64 0, .int .i64 0] 33 (0, 0))) := blk_new _ _
  replace hG := hG.up hb
  replace BW := BW.trans (hb.mono BW.size)
  replace hB := next hB hb
  replace cb := boxed hB
  clear hb
  have KW := (BW.block _ (blk_lt HKW.out)).trans HKW.out
  have HKG : Hid (((w4.alloc (.cells #[.int .i64 0, .int .i64 0, .int .i64 0, .int .i64 0, .int .i64 0, .int .i64 0, .int .i64 0, .int .i64 0, .int .i64 0, .slice none 0 0, .slice none 0 0, .int .i64 0, .slice none 0 0, .slice none 0 0, .slice none 0 0, .int .i64 0, .int .i64 0] 33)).setRow w4.heap.size SG.cells).heap[w4.heap.size]? = some (.cells SG.cells 33 (0, 0))) := kG
  have HKW2 : Hid (((w4.alloc (.cells #[.int .i64 0, .int .i64 0, .int .i64 0, .int .i64 0, .int .i64 0, .int .i64 0, .int .i64 0, .int .i64 0, .int .i64 0, .slice none 0 0, .slice none 0 0, .int .i64 0, .slice none 0 0, .slice none 0 0, .slice none 0 0, .int .i64 0, .int .i64 0] 33)).setRow w4.heap.size SG.cells).heap[w2.heap.size]? = some (.cells SW.cells 33 (0, 0))) := KW
  clear KW
  go_wp2_with (first | refine wpList_stS rfl (.tmp 5) (.tmp 21) rfl w4.heap.size rfl SG.cells rfl #[.int .i64 0, .int .i64 0, .int .i64 0, .int .i64 0, .int .i64 0, .int .i64 0, .int .i64 0, .int .i64 0, .int .i64 0, .slice none 0 0, .slice none 0 0, .int .i64 0, .slice none 0 0, .slice none 0 0, .slice none 0 0, .int .i64 0, .int .i64 0] K0.out rfl rfl SG.cells_one ?_ | refine wpList_ldS rfl (.tmp 5) rfl w4.heap.size rfl SG.cells HKG.out rfl ?_ | refine wpList_ldS rfl (.tmp 3) rfl w2.heap.size rfl SW.cells HKW2.out rfl ?_)
  clear K0 HKG HKW2
  generalize ((w4.alloc (.cells #[.int .i64 0, .int .i64 0, .int .i64 0, .int .i64 0, .int .i64 0, .int .i64 0, .int .i64 0, .int .i64 0, .int .i64 0, .slice none 0 0, .slice none 0 0, .int .i64 0, .slice none 0 0, .slice none 0 0, .slice none 0 0, .int .i64 0, .int .i64 0] 33)).setRow w4.heap.size SG.cells) = wb at *
  refine (eqSwitch_any SG SW _ HG0.out.small.1 hG.rd (HW.out.up BW).rd (HG0.out.alike HW.out)).mono ?_
  rintro e w5 ⟨rfl, hb⟩
  replace hG := hG.up hb
  replace kG := (hb.block _ (blk_lt kG)).trans kG
  replace BW := BW.trans (hb.mono BW.size)
  replace hB := next hB hb
  replace cb := boxed hB
  clear hb
  have HKG : Hid (w5.heap[w4.heap.size]? = some (.cells SG.cells 33 (0, 0))) := kG
  go_wp2_with (refine wpList_ldS rfl (.tmp 5) rfl w4.heap.size rfl SG.cells HKG.out rfl ?_)
  clear HKG
  refine (markNew_any SG _ hG (by have := blk_lt kG; have := l34.out; omega)).mono ?_
  rintro e w10 ⟨T, rfl, hM, hT, hTb⟩
  have hTb := hTb w4 HG0.out
  have eW := HTmp.out
  have eB := HBt.out
  have kG10 := (hT.block _ (blk_lt kG) (fun hx => by have := (hTb _ hx).2; omega)).trans kG
  have hB10 := hB.trans (hT.below (upper hB) (fun x hx => by have := (hTb x hx).1; omega))
  have BW10 := BW.trans (hT.below BW.size (fun x hx => by have := (hTb x hx).1; omega))
  clear hG kG hT hTb hB eB eW cb BW
  have HKG : Hid (w10.heap[w4.heap.size]? = some (.cells SG.cells 33 (0, 0))) := kG10
  have cb := boxed hB10
  generalize hKK : ((SG.total 1 : Nat) : Int) = KK at *
  have hk1 : ¬ KK < 0 := by omega
  have hk2 : (KK != KK) = false := by simp
  go_wp2_with (refine wpList_ldS rfl (.tmp 5) rfl w4.heap.size rfl SG.cells HKG.out rfl ?_)
  clear HKG
  refine (heldNew_any SG _ w4 hM HG0.out).mono ?_
  rintro e w11 ⟨rfl, hb⟩
  rw [hKK]
  have kG := kG10
  have hB := hB10
  have BW := BW10
  clear kG10 hB10 BW10
  replace hM := hM.up hb
  replace kG := (hb.block _ (blk_lt kG)).trans kG
  replace BW := BW.trans (hb.mono BW.size)
  replace hB := next hB hb
  replace cb := boxed hB
  clear hb
  go_wp2_with fail
  refine (toConfig_any C _).mono ?_
  rintro e wt3 ⟨rfl, hb⟩
  replace hM := hM.up hb
  replace kG := (hb.block _ (blk_lt kG)).trans kG
  replace BW := BW.trans (hb.mono BW.size)
  replace hB := next hB hb
  replace cb := boxed hB
  clear hb
  unfold Cfg.cells
  go_wp2_with fail
  refine (iSwitchNew_any C n _ HPn.out ok HO.out).mono ?_
  rintro e w13 ⟨SH, rfl, hH, hb⟩
  have HHs : Hid (SH.Small ∧ AlikeS SH SW) := ⟨hH.small.1, hH.alike HW.out⟩
  replace hM := hM.up hb
  replace kG := (hb.block _ (blk_lt kG)).trans kG
  replace BW := BW.trans (hb.mono BW.size)
  replace hB := next hB hb
  replace cb := boxed hB
  clear hb
  have hb := (filled w13 SH.cells).1
  have K0 : Hid ((w13.alloc (.cells #[.int .i64 0, .int .i64 0, .int .i64 0, .int .i64 0, .int .i64 0, .int .i64 0, .int .i64 0, .int .i64 0, .int .i64 0, .slice none 0 0, .slice none 0 0, .int .i64 0, .slice none 0 0, .slice none 0 0, .slice none 0 0, .int .i64 0, .int .i64 0] 33)).heap[w13.heap.size]? = some (.cells #[.int .i64 0, .int .i64 0, .int .i64 0, .int .i64 0, .int .i64 0, .int .i64 0, .int .i64 0, .int .i64 0, .int .i64 0, .slice none 0 0, .slice none 0 0, .int .i64 0, .slice none 0 0, .slice none 0 0, .slice none 0 0, .int .i64 0, .int .i64 0] 33 (0, 0))) := blk_new _ _
  have HKH : Hid (((w13.alloc (.cells #[.int .i64 0, .int .i64 0, .int .i64 0, .int .i64 0, .int .i64 0, .int .i64 0, .int .i64 0, .int .i64 0, .int .i64 0, .slice none 0 0, .slice none 0 0, .int .i64 0, .slice none 0 0, .slice none 0 0, .slice none 0 0, .int .i64 0, .int .i64 0] 33)).setRow w13.heap.size SH.cells).heap[w13.heap.size]? = some (.cells SH.cells 33 (0, 0))) := (filled w13 SH.cells).2
  replace hH := hH.up hb
  replace hM := hM.up hb
  replace kG := (hb.block _ (blk_lt kG)).trans kG
  replace BW := BW.trans (hb.mono BW.size)
  replace hB := next hB hb
  replace cb := boxed hB
  clear hb
  have HKW2 : Hid (((w13.alloc (.cells #[.int .i64 0, .int .i64 0, .int .i64 0, .int .i64 0, .int .i64 0, .int .i64 0, .int .i64 0, .int .i64 0, .int .i64 0, .slice none 0 0, .slice none 0 0, .int .i64 0, .slice none 0 0, .slice none 0 0, .slice none 0 0, .int .i64 0, .int .i64 0] 33)).setRow w13.heap.size SH.cells).heap[w2.heap.size]? = some (.cells SW.cells 33 (0, 0))) := (BW.block _ (blk_lt HKW.out)).trans HKW.out
  go_wp2_with (first | refine wpList_stS rfl (.tmp 9) (.tmp 47) rfl w13.heap.size rfl SH.cells rfl #[.int .i64 0, .int .i64 0, .int .i64 0, .int .i64 0, .int .i64 0, .int .i64 0, .int .i64 0, .int .i64 0, .int .i64 0, .slice none 0 0, .slice none 0 0, .int .i64 0, .slice none 0 0, .slice none 0 0, .slice none 0 0, .int .i64 0, .int .i64 0] K0.out rfl rfl SH.cells_one ?_ | refine wpList_ldS rfl (.tmp 9) rfl w13.heap.size rfl SH.cells HKH.out rfl ?_ | refine wpList_ldS rfl (.tmp 3) rfl w2.heap.size rfl SW.cells HKW2.out rfl ?_)
  clear K0 HKH HKW2
  generalize ((w13.alloc (.cells #[.int .i64 0, .int .i64 0, .int .i64 0, .int .i64 0, .int .i64 0, .int .i64 0, .int .i64 0, .int .i64 0, .int .i64 0, .slice none 0 0, .slice none 0 0, .int .i64 0, .slice none 0 0, .slice none 0 0, .slice none 0 0, .int .i64 0, .int .i64 0] 33)).setRow w13.heap.size SH.cells) = wd at *
  refine (eqSwitch_any SH SW _ HHs.out.1 hH.rd (HW.out.up BW).rd HHs.out.2).mono ?_
  rintro e w14 ⟨rfl, hb⟩
  clear hH
  replace hM := hM.up hb
  replace kG := (hb.block _ (blk_lt kG)).trans kG
  replace BW := BW.trans (hb.mono BW.size)
  replace hB := next hB hb
  replace cb := boxed hB
  clear hb
  have HKG : Hid (w14.heap[w4.heap.size]? = some (.cells SG.cells 33 (0, 0))) := kG
  go_wp2_with (refine wpList_ldS rfl (.tmp 5) rfl w4.heap.size rfl SG.cells HKG.out rfl ?_)
  clear HKG
  refine (heldNew_any SG _ w4 hM HG0.out).mono ?_
  rintro e w16 ⟨rfl, hb⟩
  rw [hKK]
  have B := under (next hB hb)
  clear hb hM kG cb hB
  go_wp2_with fail
  go_ret
  exact ⟨rfl, B⟩

set_option maxRecDepth 100000 in
theorem switchNew_lifted (os : Os) (started : os.Started) (H : Type) (enc : TypeId × Value → H) :
    ReturnsInHanded {} Try.checked os 3 .any (Rows.fnExactSwitchNewSpec.pre6 enc Try.prog Try.f3 Rows.fnExactSwitchNewRow.domain false) (Rows.fnExactSwitchNewSpec.post enc Try.prog Try.f3 false true false false) := by
  refine returnsInHanded_of_change (C := Try.checked) ownOkC started (by kernel_rfl) Try.func3
    (ChangeSpec.witness6 (enc := enc) (C := Try.checked) false ⟨#[], #[.agg #[.int .i64 0, .int .i64 0, .int .i64 0, .int .i64 0, .int .i64 0, .int .i64 0, .int .i64 0]], []⟩ 8 (by kernel_rfl) (by kernel_rfl) (by kernel_rfl) (by kernel_rfl)) ?_
  intro W base args ds gs before hval0 hW hcnd _
  have hval : ∀ (j : Nat) t v, Try.f3.params[j]? = some t → args[j]? = some v → Value.okWide Try.prog W .any base t v := hval0
  have hW' := hW
  obtain ⟨p, q, hA0, hV, rfl, hfz, hnd⟩ := hW
  have hA : DataW.TrodAll enc Try.prog W 0 (fun _ => true) true Try.f3.params.toList args.toList ds p := hA0
  rw [Try.params3] at hA hval
  obtain ⟨v0, vs0, d0, ds0, p0, q0, hargs, rfl, rfl, h0, r0⟩ := trodAll_cons hA
  obtain ⟨rfl, rfl, rfl⟩ := trodAll_nil r0
  obtain rfl : args = #[v0] := by cases args; simp_all
  obtain ⟨rfl, rfl⟩ := trodVars_none hV
  have k0 := h0
  have lt0 : ∀ x ∈ p0, x.block < W.heap.size := by obtain ⟨m, hm⟩ := k0; exact DataW.trod_lt m _ _ _ hm
  obtain ⟨C0, rfl⟩ := open_config (hval 0 23 v0 rfl rfl) h0
  clear hA0 hval0
  refine (switchNew_law C0 W).mono fun e W' ⟨he, bel⟩ => ?_
  subst he
  exact ⟨_, rfl, _, _, _, [], _, [], hW', trodAll_mk1 (shut_bool Try.underlying4 _), (trodAll_cons_mk (Below.trod laidOutC (by kernel_rfl) (of_decide_eq_true (by kernel_rfl)) k0 bel lt0) trodAll_mk0), rfl, bel.frame _, fun h => by cases h⟩

theorem switchNew_holds : Rows.FnExactSwitchNewSaid :=
  OpenClaim.holds_of_wide 3 Try.f3 rfl rfl rfl rfl rfl rfl rfl ⟨rfl, rfl, rfl, rfl, rfl⟩ rfl rfl rfl rfl rfl (by kernel_rfl) Try.func3 (by kernel_rfl)
    (of_decide_eq_true (by kernel_rfl)) (by unfold Func.isWrapper; first | (rw [if_pos (by decide +kernel)]; kernel_rfl) | (rw [if_neg (by decide +kernel)]; exact ⟨rfl, rfl⟩))
    (fun os started H enc _ => switchNew_lifted os started H enc)
#print axioms switchNew_holds
end Go.Proofs.Ytclibohnmjkliaa
