/- At every fabric FabricOk answers as the specification does, and writes into no argument: the law FnExactFabricOk returns true for every argument, under no condition. -/
import Derived.Test.YtfkpncopkgidfaaGreatF24
import Derived.Test.YtfkpncopkgidfaaGreatF29
import Derived.Test.YtfkpncopkgidfaaGreatF30
import Derived.Test.YtfkpncopkgidfaaGreatRows
import Derived.Below
import Derived.ChangeOld
import Derived.OpenShut
import Derived.ProofKit
import Derived.ShutString
namespace Go.Proofs.YtfkpncopkgidfaaGreat
open Go.ChangeShapes Go.WideShapes Go.ChangeAt Go.RowKit
set_option linter.unusedVariables false
theorem infoFbL : (Tryz.prog.info? 36).map (·.size) = some 20 := by kernel_rfl
theorem box20 {w wi : World} {S : Fab} {t : TypeId} (h : Below (w.heap.size + 1) (w.alloc (.cells S.cells t)) wi) : ∀ j, j < 20 → wi.cell? ⟨w.heap.size, 0 + j, none⟩ = S.cells[j]? := fun j _ => by
 rw [Nat.zero_add]
 exact boxed h j
theorem blk20 {w : World} {g : Nat} {S : Fab} {t : TypeId} (h : w.heap[g]? = some (.cells S.cells t (0, 0))) : ∀ j, j < 20 → w.cell? ⟨g, 0 + j, none⟩ = S.cells[j]? := fun j _ => by
 rw [Nat.zero_add]
 exact blk_cell h j
set_option maxRecDepth 100000 in
set_option maxHeartbeats 4000000 in
theorem fabricOk_law (S : Fab) (w : World) (hf : S.Fit) (h : RdFb w S) :
  Calls Tryz.prog 3 #[.agg S.cells] w fun e w' => e = .returned (.bool true) ∧ Below w.heap.size w w' := by
 obtain ⟨ok, hok⟩ := ok_decS S.Ok
 have HO : Hid (ok = true ↔ S.Ok) := hok
 have HR : Hid (RdFb w S) := h
 have HF : Hid S.Fit := hf
 have hbb : (ok != ok) = false := by cases ok <;> rfl
 obtain ⟨W, eW⟩ : ∃ W, w.alloc (.cells S.cells 36) = W := ⟨_, rfl⟩
 have HB : Hid (Below (w.heap.size + 1) (w.alloc (.cells S.cells 36)) W) := by rw [eW]; exact Below.refl _ _
 have HL : Hid (∀ j, j < 20 → W.cell? ⟨w.heap.size, 0 + j, none⟩ = S.cells[j]?) := box20 HB.out
 clear h hf hok
 go_enter Tryz.func3, Tryz.ntmps3
 go_wp2_with (refine wpList_ldT rfl 36 20 _ Tryz.underlying36 rfl infoFbL (.tmp 1) rfl w.heap.size 0 rfl S.cells rfl HL.out ?_)
 clear eW HL
 refine (szFabric_any S _ HF.out (HR.out.up (under HB.out))).mono ?_
 rintro e w1 ⟨⟨r, rfl, hr⟩, hb⟩
 replace HB : Hid (Below (w.heap.size + 1) (w.alloc (.cells S.cells 36)) w1) := next HB.out hb
 clear hb
 rcases hr with rfl | ⟨r0, hs⟩
 ·
  have B := under HB.out
  go_wp2_with fail
  go_ret
  exact ⟨rfl, B⟩
 have HS : Hid S.Small := hs
 have hr0 : ¬ r < 0 := by omega
 clear hs
 have HL : Hid (∀ j, j < 20 → w1.cell? ⟨w.heap.size, 0 + j, none⟩ = S.cells[j]?) := box20 HB.out
 go_wp2_with (refine wpList_ldT rfl 36 20 _ Tryz.underlying36 rfl infoFbL (.tmp 1) rfl w.heap.size 0 rfl S.cells rfl HL.out ?_)
 clear HL
 refine (toFabric_any S _ HS.out (HR.out.up (under HB.out))).mono ?_
 rintro e w2 ⟨S2, rfl, ha2, ho2, hb⟩
 replace HB : Hid (Below (w.heap.size + 1) (w.alloc (.cells S.cells 36)) w2) := next HB.out hb
 have H2 : Hid (S2.Small ∧ RdFb w2 S2 ∧ (ok = true ↔ S2.Ok)) := ⟨ha2.small HS.out, ho2.rd, HO.out.trans ha2.ok.symm⟩
 clear hb ha2 ho2
 go_wp2_with fail
 refine (sFabricOk_any S2 _ H2.out.1 H2.out.2.1 ok H2.out.2.2).mono ?_
 rintro e w3 ⟨rfl, hb⟩
 replace HB : Hid (Below (w.heap.size + 1) (w.alloc (.cells S.cells 36)) w3) := next HB.out hb
 clear hb H2
 have HL : Hid (∀ j, j < 20 → w3.cell? ⟨w.heap.size, 0 + j, none⟩ = S.cells[j]?) := box20 HB.out
 go_wp2_with (refine wpList_ldT rfl 36 20 _ Tryz.underlying36 rfl infoFbL (.tmp 1) rfl w.heap.size 0 rfl S.cells rfl HL.out ?_)
 clear HL
 refine (toFabric_any S _ HS.out (HR.out.up (under HB.out))).mono ?_
 rintro e w4 ⟨S4, rfl, ha4, ho4, hb⟩
 replace HB : Hid (Below (w.heap.size + 1) (w.alloc (.cells S.cells 36)) w4) := next HB.out hb
 have H4 : Hid (S4.Small ∧ AlikeF S S4 ∧ RdFb w4 S4 ∧ (ok = true ↔ S4.Ok)) := ⟨ha4.small HS.out, ha4, ho4.rd, HO.out.trans ha4.ok.symm⟩
 clear hb ha4 ho4
 have HG : Hid ((w4.alloc (.cells #[.int .i64 0, .int .i64 0, .int .i64 0, .int .i64 0, .int .i64 0, .int .i64 0, .int .i64 0, .int .i64 0, .int .i64 0, .slice none 0 0, .slice none 0 0, .int .i64 0, .slice none 0 0, .slice none 0 0, .slice none 0 0, .int .i64 0, .int .i64 0, .slice none 0 0, .slice none 0 0, .slice none 0 0] 49)).heap[w4.heap.size]? = some (.cells #[.int .i64 0, .int .i64 0, .int .i64 0, .int .i64 0, .int .i64 0, .int .i64 0, .int .i64 0, .int .i64 0, .int .i64 0, .slice none 0 0, .slice none 0 0, .int .i64 0, .slice none 0 0, .slice none 0 0, .slice none 0 0, .int .i64 0, .int .i64 0, .slice none 0 0, .slice none 0 0, .slice none 0 0] 49 (0, 0))) := blk_new _ _
 go_wp2_with (refine wpList_stA rfl 49 (.tmp 5) (.tmp 16) rfl w4.heap.size 0 rfl (.agg S4.cells) rfl 20 rfl 49 _ HG.out infoFb20 (Nat.le_of_ble_eq_true rfl) (Fab.oneC _) ?_)
 intro W5 hP
 replace hP : Put _ W5 w4.heap.size S4.cells 49 := hP.cast rfl
 have hA : Below w4.heap.size w4 W5 := ((Below.refl _ _).alloc (Nat.le_refl _) _).trans (hP.to.below (by simp) (fun x hx => by simp at hx; omega))
 have HK : Hid (W5.heap[w4.heap.size]? = some (.cells S4.cells 49 (0, 0))) := hP.blk
 clear hP HG
 replace HB : Hid (Below (w.heap.size + 1) (w.alloc (.cells S.cells 36)) W5) := next HB.out hA
 replace H4 : Hid (S4.Small ∧ AlikeF S S4 ∧ RdFb W5 S4 ∧ (ok = true ↔ S4.Ok)) := ⟨H4.out.1, H4.out.2.1, H4.out.2.2.1.up hA, H4.out.2.2.2⟩
 clear hA
 have HL : Hid (∀ j, j < 20 → W5.cell? ⟨w4.heap.size, 0 + j, none⟩ = S4.cells[j]?) := blk20 HK.out
 go_wp2_with (refine wpList_ldT rfl 49 20 _ Tryz.underlying49 rfl infoFb20 (.tmp 5) rfl w4.heap.size 0 rfl S4.cells rfl HL.out ?_)
 clear HL
 refine (iFabricOk_any S4 _ H4.out.1 H4.out.2.2.1 ok H4.out.2.2.2).mono ?_
 rintro e w6 ⟨rfl, hb⟩
 replace HB : Hid (Below (w.heap.size + 1) (w.alloc (.cells S.cells 36)) w6) := next HB.out hb
 replace HK : Hid (w6.heap[w4.heap.size]? = some (.cells S4.cells 49 (0, 0))) := (hb.block _ (blk_lt HK.out)).trans HK.out
 replace H4 : Hid (S4.Small ∧ AlikeF S S4 ∧ RdFb w6 S4 ∧ (ok = true ↔ S4.Ok)) := ⟨H4.out.1, H4.out.2.1, H4.out.2.2.1.up hb, H4.out.2.2.2⟩
 clear hb
 have hd : Below w6.heap.size w6 w6.drew := (Below.refl _ _).drew
 go_wp2_with fail
 replace HB : Hid (Below (w.heap.size + 1) (w.alloc (.cells S.cells 36)) w6.drew) := next HB.out hd
 replace HK : Hid (w6.drew.heap[w4.heap.size]? = some (.cells S4.cells 49 (0, 0))) := (hd.block _ (blk_lt HK.out)).trans HK.out
 replace H4 : Hid (S4.Small ∧ AlikeF S S4 ∧ RdFb w6.drew S4 ∧ (ok = true ↔ S4.Ok)) := ⟨H4.out.1, H4.out.2.1, H4.out.2.2.1.up hd, H4.out.2.2.2⟩
 clear hd
 refine wp_region_held_drew (S := fun w' => (∀ j, j < 20 → w'.cell? ⟨w4.heap.size, 0 + j, none⟩ = S4.cells[j]?) ∧ (∀ j, j < 20 → w'.cell? ⟨w.heap.size, 0 + j, none⟩ = S.cells[j]?)) (by kernel_rfl) ⟨blk20 HK.out, box20 HB.out⟩ (fun hHeld => ?_)
 refine tC 0 22 (v := .agg S4.cells) ?_ ?_
 ·
  intro wx hSw
  exact run_ldT 49 20 _ Tryz.underlying49 rfl infoFb20 (.tmp 5) rfl w4.heap.size 0 rfl S4.cells rfl hSw.1
 try simp only [Act.put, PZ]
 refine tC 1 23 (v := .agg S.cells) ?_ ?_
 ·
  intro wx hSw
  exact run_ldT 36 20 _ Tryz.underlying36 rfl infoFbL (.tmp 1) rfl w.heap.size 0 rfl S.cells rfl hSw.2
 try simp only [Act.put, PZ]
 refine wpAnyH_ready (rs := [2]) (by kernel_rfl) (by simp) ?_
 refine AllReadyH.cons rfl (fun K hK => ?_) AllReadyH.nil
 go_simp
 refine (toFabric_any S _ HS.out (HR.out.up (under HB.out))).mono ?_
 rintro e w7 ⟨S7, rfl, ha7, ho7, hb⟩
 replace HB : Hid (Below (w.heap.size + 1) (w.alloc (.cells S.cells 36)) w7) := next HB.out hb
 replace HK : Hid (w7.heap[w4.heap.size]? = some (.cells S4.cells 49 (0, 0))) := (hb.block _ (blk_lt HK.out)).trans HK.out
 have H7 : Hid (S4.Small ∧ RdFb w7 S4 ∧ RdFb w7 S7 ∧ AlikeF S4 S7) := ⟨H4.out.1, H4.out.2.2.1.up hb, ho7.rd, H4.out.2.1.symm.trans ha7⟩
 clear hb ha7 ho7 H4
 go_wp2_with fail
 refine hK.out _ _ ⟨blk20 HK.out, box20 HB.out⟩ (fun hHeld => ?_)
 clear hK K
 try simp only [Act.put, PZ]
 refine wpAnyH_ready (rs := [3]) (by kernel_rfl) (by simp) ?_
 refine AllReadyH.cons rfl (fun K hK => ?_) AllReadyH.nil
 go_simp
 refine (eqFabric_any S4 S7 _ H7.out.1 H7.out.2.1 H7.out.2.2.1 H7.out.2.2.2).mono ?_
 rintro e w8 ⟨rfl, hb⟩
 replace HB : Hid (Below (w.heap.size + 1) (w.alloc (.cells S.cells 36)) w8) := next HB.out hb
 replace HK : Hid (w8.heap[w4.heap.size]? = some (.cells S4.cells 49 (0, 0))) := (hb.block _ (blk_lt HK.out)).trans HK.out
 clear hb H7
 go_wp2_with fail
 refine hK.out _ _ ⟨blk20 HK.out, box20 HB.out⟩ (fun hHeld => ?_)
 clear hK K
 try simp only [Act.put, PZ]
 refine tP 4 26 ?_
 try simp only [Act.put, PZ]
 refine wpAnyH_done (by kernel_rfl) ?_ _
 clear hHeld HK
 have B := under HB.out
 go_wp2_with fail
 go_ret
 exact ⟨rfl, B⟩
set_option maxRecDepth 100000 in
theorem fabricOk_lifted (os : Os) (started : os.Started) (H : Type) (enc : TypeId × Value → H) :
  ReturnsInHanded {} Tryz.checked os 3 .any (Rows.fnExactFabricOkSpec.pre6 enc Tryz.prog Tryz.f3 Rows.fnExactFabricOkRow.domain false) (Rows.fnExactFabricOkSpec.post enc Tryz.prog Tryz.f3 false true false false) := by
 refine returnsInHanded_of_change (C := Tryz.checked) ownOkC started (by kernel_rfl) Tryz.func3
  (ChangeSpec.witness6 (enc := enc) (C := Tryz.checked) false ⟨#[], #[.agg #[.int .i64 0, .int .i64 0, .int .i64 0, .int .i64 0, .int .i64 0, .int .i64 0, .int .i64 0, .int .i64 0, .int .i64 0, .slice none 0 0, .slice none 0 0, .int .i64 0, .slice none 0 0, .slice none 0 0, .slice none 0 0, .int .i64 0, .int .i64 0, .slice none 0 0, .slice none 0 0, .slice none 0 0]], []⟩ 8 (by kernel_rfl) (by kernel_rfl) (by kernel_rfl) (by kernel_rfl)) ?_
 intro W base args ds gs before hval0 hW hcnd _
 have hval : ∀ (j : Nat) t v, Tryz.f3.params[j]? = some t → args[j]? = some v → Value.okWide Tryz.prog W .any base t v := hval0
 have hW' := hW
 obtain ⟨p, q, hA0, hV, rfl, hfz, hnd⟩ := hW
 have hA : DataW.TrodAll enc Tryz.prog W 0 (fun _ => true) true Tryz.f3.params.toList args.toList ds p := hA0
 rw [Tryz.params3] at hA hval
 obtain ⟨v0, vs0, d0, ds0, p0, q0, hargs, rfl, rfl, h0, r0⟩ := trodAll_cons hA
 obtain ⟨rfl, rfl, rfl⟩ := trodAll_nil r0
 obtain rfl : args = #[v0] := by cases args; simp_all
 obtain ⟨rfl, rfl⟩ := trodVars_none hV
 have k0 := h0
 have lt0 : ∀ x ∈ p0, x.block < W.heap.size := by obtain ⟨m, hm⟩ := k0; exact DataW.trod_lt m _ _ _ hm
 obtain ⟨S0, rfl, f0, r0⟩ := open_fabric (hval 0 36 v0 rfl rfl) h0
 clear hA0 hval0
 refine (fabricOk_law S0 W f0 r0).mono fun e W' ⟨he, bel⟩ => ?_
 subst he
 exact ⟨_, rfl, _, _, _, [], _, [], hW', trodAll_mk1 (shut_bool Tryz.underlying4 _), (trodAll_cons_mk (Below.trod laidOutC (by kernel_rfl) (of_decide_eq_true (by kernel_rfl)) k0 bel lt0) trodAll_mk0), rfl, bel.frame _, fun h => by cases h⟩
theorem fabricOk_holds : Rows.FnExactFabricOkSaid :=
 OpenClaim.holds_of_wide 3 Tryz.f3 rfl rfl rfl rfl rfl rfl rfl ⟨rfl, rfl, rfl, rfl, rfl⟩ rfl rfl rfl rfl rfl (by kernel_rfl) Tryz.func3 (by kernel_rfl)
  (of_decide_eq_true (by kernel_rfl)) (by unfold Func.isWrapper; first | (rw [if_pos (by decide +kernel)]; kernel_rfl) | (rw [if_neg (by decide +kernel)]; exact ⟨rfl, rfl⟩))
  (fun os started H enc _ => fabricOk_lifted os started H enc)
#print axioms fabricOk_holds
end Go.Proofs.YtfkpncopkgidfaaGreat
