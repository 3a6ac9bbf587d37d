/- At every configuration and frames FabricNew answers as the specification does, writes into no argument, and its answer owns its memory: the law FnExactFabricNew returns true for every argument, under no condition. -/
import Derived.Test.YtfkpncopkgidfaaGreatN38
import Derived.Test.YtfkpncopkgidfaaGreatN39
import Derived.Test.YtfkpncopkgidfaaGreatRows
import Derived.Below
import Derived.ChangeOld
import Derived.OpenShut
import Derived.ProofKit
import Derived.ShutString
namespace Go.Proofs.YtfkpncopkgidfaaGreat
open Go.ChangeShapes Go.WideShapes Go.ChangeAt Go.RowKit
set_option linter.unusedVariables false
theorem sumL_ext {f g : Nat → Nat} : ∀ {n : Nat}, (∀ i, i < n → f i = g i) → sumL f n = sumL g n := by
 intro n h
 induction n with
 | zero => rfl
 | succ n ih =>
  show sumL f n + f n = sumL g n + g n
  rw [ih (fun i hi => h i (by omega)), h n (by omega)]
theorem Alike.totF {a b : Rnd} (h : Alike a b) : b.tot = a.tot := by unfold Rnd.tot; rw [h.nQ, h.nD, h.l, h.nS]
theorem AlikeL.totF {a b : Lng} (h : AlikeL a b) : b.tot = a.tot := by unfold Lng.tot; rw [h.nT, h.l, h.nU, h.r.totF]
theorem AlikeG.totF {A B : Swg} (h : AlikeG A B) : B.tot = A.tot := by
 unfold Swg.tot
 rw [h.nE, h.n.nU, h.n.nP, h.nK, h.nL, sumL_ext (fun i hi => (h.l i hi).totF)]
theorem mEnd_le {S : Swg} (h : S.tot ≤ 2000000) : S.mEnd 1 ≤ 23000000 := by
 have h1 := cnt_le h
 unfold Swg.tot at h
 show 1 + S.nE * 3 + S.N.nU + S.N.nP + S.nK * 8 + cntL S.L S.nL ≤ 23000000
 omega
theorem hM_eq {m : Nat} {H : Nat → Hst} {L : Nat → Nat} : ∀ n, (∀ i, i < n → (H i).nO = L i ∧ (H i).nG = 0) → hM m H n = m + n + 5 * sumL L n := by
 intro n
 induction n with
 | zero => intro _; rfl
 | succ n ih =>
  intro h
  have h1 := ih (fun i hi => h i (by omega))
  have h2 := h n (by omega)
  show hM m H n + 1 + (H n).nO * 5 + (H n).nG * 5 = m + (n + 1) + 5 * (sumL L n + L n)
  omega
structure Gd (F : Fab) : Prop where
 s : F.Small
 t : F.S.tot ≤ 2000000
 m : F.mk9 ≤ 40000000
 u : F.nU = 0
 d : F.nD = 0
theorem newG_tot {C : Cfg} {n : Nat} (h : n ≤ 4) : (newG C n).tot ≤ 1000 := by
 have : n = 0 ∨ n = 1 ∨ n = 2 ∨ n = 3 ∨ n = 4 := by omega
 rcases this with rfl | rfl | rfl | rfl | rfl <;> exact Nat.le_of_ble_eq_true rfl
theorem zeroF_small : zeroF.Small :=
 ⟨⟨Nat.zero_le _, ⟨Nat.zero_le _, Nat.zero_le _⟩, Nat.zero_le _, fun i hi => absurd hi (Nat.not_lt_zero _), Nat.zero_le _, fun i hi => absurd hi (Nat.not_lt_zero _)⟩, Nat.zero_le _, fun i hi => absurd hi (Nat.not_lt_zero _), Nat.zero_le _, fun i hi => absurd hi (Nat.not_lt_zero _), Nat.zero_le _, fun i hi => absurd hi (Nat.not_lt_zero _)⟩
theorem gd_of {C : Cfg} {n : Nat} {R : Rws} {ok : Bool} {F : Fab} (hn : ok = true → n ≤ 4) (hs : R.Small) (h : AlikeF (if ok = true then newF C n R else zeroF) F) : Gd F := by
 cases ok
 ·
  rw [if_neg (by simp)] at h
  have e : F.nH = 0 := h.nH
  have ht : F.S.tot ≤ 2000000 := by
   rw [h.s.totF]
   exact Nat.le_of_ble_eq_true rfl
  refine ⟨h.small zeroF_small, ht, ?_, h.nU, h.nD⟩
  have := mEnd_le ht
  unfold Fab.mk9
  rw [e]
  show F.S.mEnd 1 ≤ _
  omega
 ·
  rw [if_pos rfl] at h
  have h4 := hn rfl
  have e : F.nH = R.n := h.nH
  have ht : F.S.tot ≤ 2000000 := by
   rw [h.s.totF]
   have := newG_tot (C := C) h4
   show (newG C n).tot ≤ _
   omega
  refine ⟨h.small (newF_small h4 hs), ht, ?_, h.nU, h.nD⟩
  have h1 := mEnd_le ht
  have h2 := hs.s
  have h3 := hs.n
  unfold Fab.mk9
  rw [e, hM_eq (L := R.L) R.n (fun i hi => ⟨(h.h i hi).nO, (h.h i hi).nG⟩)]
  omega
theorem copy_smallR {R : Rws} {g : Nat} {G : Nat → Nat} (h : R.Small) : (R.copy g G).Small := ⟨h.n, h.l, h.b, h.s⟩
theorem infoCfL : (Tryz.prog.info? 23).map (·.size) = some 7 := by kernel_rfl
theorem box7 {w wi : World} {C : Cfg} {t : TypeId} (h : Below (w.heap.size + 1) (w.alloc (.cells C.cells t)) wi) : ∀ j, j < 7 → wi.cell? ⟨w.heap.size, 0 + j, none⟩ = C.cells[j]? := fun j _ => by
 rw [Nat.zero_add]
 exact boxed h j
theorem nextB {u w1 w2 : World} {b : Nat} (h : Below b u w1) (hb : Below w1.heap.size w1 w2) (hs : b ≤ w1.heap.size) : Below b u w2 := h.trans (hb.mono hs)
set_option maxRecDepth 100000 in
set_option maxHeartbeats 8000000 in
theorem fabricNew_law (C : Cfg) (R : Rws) (w : World) (hf : R.Fit) (h : RdRws w R) :
  Calls Tryz.prog 4 #[.agg C.cells, .slice R.a R.n R.c] w fun e w' => e = .returned (.bool true) ∧ Below w.heap.size w w' := by
 have HR : Hid (RdRws w R) := h
 have HF : Hid R.Fit := hf
 obtain ⟨n, hp⟩ : ∃ n : Nat, 2 ≤ C.p ∧ C.p ≤ 4 → C.p = (n : Int) := ⟨C.p.toNat, fun h => by omega⟩
 have HP : Hid (2 ≤ C.p ∧ C.p ≤ 4 → C.p = (n : Int)) := hp
 obtain ⟨ok, hok⟩ := ok_decS (C.Ok ∧ (newF C n R).Ok)
 have HO : Hid (ok = true ↔ C.Ok ∧ (newF C n R).Ok) := hok
 have hbb : (ok != ok) = false := by cases ok <;> rfl
 have HN4 : Hid (ok = true → n ≤ 4) := fun e => by
  have h1 := (HO.out.1 e).1.num.p
  have h2 := HP.out h1
  omega
 obtain ⟨W, eW⟩ : ∃ W, w.alloc (.cells C.cells 23) = W := ⟨_, rfl⟩
 have HB : Hid (Below (w.heap.size + 1) (w.alloc (.cells C.cells 23)) W) := by rw [eW]; exact Below.refl _ _
 clear h hf hok hp
 go_enter Tryz.func4, Tryz.ntmps4
 go_wp2_with fail
 clear eW
 refine (szRws_any R _ HF.out (HR.out.up (under HB.out))).mono ?_
 rintro e w1 ⟨⟨r, rfl, hr⟩, hb⟩
 replace HB : Hid (Below (w.heap.size + 1) (w.alloc (.cells C.cells 23)) w1) := next HB.out hb
 clear hb
 rcases hr with rfl | ⟨r0, hs⟩
 ·
  have B := under HB.out
  go_wp2_with fail
  go_ret
  exact ⟨rfl, B⟩
 have HS : Hid R.Small := hs
 have hr0 : ¬ r < 0 := by omega
 clear hs
 obtain ⟨M, eM⟩ : ∃ M, (if ok = true then newF C n R else zeroF) = M := ⟨_, rfl⟩
 have HGd : Hid (∀ F, AlikeF M F → Gd F) := fun F h => gd_of HN4.out HS.out (by rw [eM]; exact h)
 have HEM : Hid ((if ok = true then newF C n R else zeroF) = M) := eM
 clear eM
 have HL : Hid (∀ j, j < 7 → w1.cell? ⟨w.heap.size, 0 + j, none⟩ = C.cells[j]?) := box7 HB.out
 go_wp2_with (refine wpList_ldT rfl 23 7 _ Tryz.underlying23 rfl infoCfL (.tmp 2) rfl w.heap.size 0 rfl C.cells rfl HL.out ?_)
 clear HL
 refine (toConfig_any C _).mono ?_
 rintro e w2 ⟨rfl, hb⟩
 replace HB : Hid (Below (w.heap.size + 1) (w.alloc (.cells C.cells 23)) w2) := next HB.out hb
 clear hb
 go_wp2_with fail
 refine (toRws_any R _ HS.out (HR.out.up (under HB.out))).mono ?_
 rintro e w3 ⟨G0, rfl, hl⟩
 have hb : Below w2.heap.size w2 w3 := hl.b
 have HX0 : Hid (RdRws w3 (R.copy w2.heap.size G0)) := hl.rd
 clear hl
 replace HB : Hid (Below (w.heap.size + 1) (w.alloc (.cells C.cells 23)) w3) := next HB.out hb
 clear hb
 go_wp2_with fail
 refine (sFabricNew_any C n (R.copy w2.heap.size G0) _ HP.out (copy_smallR HS.out) HX0.out ok HO.out).mono ?_
 rintro e w4 ⟨FS, rfl, aS, rS, hb⟩
 have HAS : Hid (AlikeF M FS) := by rw [Hid, ← HEM.out]; exact aS
 have HRS : Hid (RdFb w4 FS) := rS
 clear aS rS HX0
 replace HB : Hid (Below (w.heap.size + 1) (w.alloc (.cells C.cells 23)) w4) := next HB.out hb
 clear hb
 obtain ⟨U4, eU⟩ : ∃ U, w4.alloc (.cells FS.cells 49) = U := ⟨_, rfl⟩
 have hb : Below w4.heap.size w4 U4 := by rw [← eU]; exact (Below.refl _ _).alloc (Nat.le_refl _) _
 have HKS : Hid (U4.heap[w4.heap.size]? = some (.cells FS.cells 49 (0, 0))) := by rw [Hid, ← eU]; exact blk_new _ _
 replace HRS : Hid (RdFb U4 FS) := HRS.out.up hb
 replace HB : Hid (Below (w.heap.size + 1) (w.alloc (.cells C.cells 23)) U4) := next HB.out hb
 clear hb
 go_wp2_with (refine wpList_stNew 49 20 infoFb20 rfl (.tmp 6) (.tmp 27) rfl FS.cells _ rfl rfl rfl rfl rfl (Fab.oneC _) (eU ▸ ?_))
 clear eU
 have H4w : Hid (w.heap.size + 1 ≤ U4.heap.size) := upper HB.out
 generalize w4.heap.size = gS at *
 have H4 : Hid (Below U4.heap.size U4 U4) := Below.refl _ _
 refine (toRws_any R _ HS.out (HR.out.up (under HB.out))).mono ?_
 rintro e w5 ⟨G1, rfl, hl⟩
 have HX : Hid (LaidR U4 R G1 R.n w5) := hl
 have hb : Below U4.heap.size U4 w5 := hl.b
 clear hl
 replace HB : Hid (Below (w.heap.size + 1) (w.alloc (.cells C.cells 23)) w5) := next HB.out hb
 replace H4 : Hid (Below U4.heap.size U4 w5) := hb
 clear hb
 have HL5 : Hid (U4.heap.size ≤ w5.heap.size ∧ ∀ i, i < R.n → U4.heap.size < G1 i ∧ G1 i < w5.heap.size) := ⟨H4.out.size, HX.out.low⟩
 have HL : Hid (∀ j, j < 7 → w5.cell? ⟨w.heap.size, 0 + j, none⟩ = C.cells[j]?) := box7 HB.out
 go_wp2_with (refine wpList_ldT rfl 23 7 _ Tryz.underlying23 rfl infoCfL (.tmp 2) rfl w.heap.size 0 rfl C.cells rfl HL.out ?_)
 clear HL
 refine (toConfig_any C _).mono ?_
 rintro e w6 ⟨rfl, hb⟩
 have h56 : w5.heap.size ≤ w6.heap.size := hb.size
 replace HB : Hid (Below (w.heap.size + 1) (w.alloc (.cells C.cells 23)) w6) := next HB.out hb
 replace H4 : Hid (Below U4.heap.size U4 w6) := H4.out.trans (hb.mono H4.out.size)
 replace HX : Hid (LaidR U4 R G1 R.n w6) := HX.out.up hb
 clear hb
 have HX6 : Hid (RdRws w6 (R.copy U4.heap.size G1)) := HX.out.rd
 have HL65 : Hid (w5.heap.size ≤ w6.heap.size) := h56
 go_wp2_with fail
 refine (iFabricNew_any C n (R.copy U4.heap.size G1) _ HP.out (copy_smallR HS.out) HX6.out ok HO.out).mono ?_
 rintro e w7 ⟨FG, rfl, aG, oG, hb⟩
 have HAG : Hid (AlikeF M FG) := by rw [Hid, ← HEM.out]; exact aG
 have HG : Hid (OwnFz w7 w6.heap.size FG) := oG
 have HL7 : Hid (w6.heap.size ≤ w7.heap.size) := hb.size
 clear aG oG HX6
 replace HB : Hid (Below (w.heap.size + 1) (w.alloc (.cells C.cells 23)) w7) := next HB.out hb
 replace H4 : Hid (Below U4.heap.size U4 w7) := H4.out.trans (hb.mono H4.out.size)
 replace HX : Hid (LaidR U4 R G1 R.n w7) := HX.out.up hb
 clear hb
 obtain ⟨U7, eU⟩ : ∃ U, w7.alloc (.cells FG.cells 49) = U := ⟨_, rfl⟩
 have hb : Below w7.heap.size w7 U7 := by rw [← eU]; exact (Below.refl _ _).alloc (Nat.le_refl _) _
 have HK : Hid (U7.heap[w7.heap.size]? = some (.cells FG.cells 49 (0, 0))) := by rw [Hid, ← eU]; exact blk_new _ _
 replace HG : Hid (OwnFz U7 w6.heap.size FG) := HG.out.up hb
 replace HB : Hid (Below (w.heap.size + 1) (w.alloc (.cells C.cells 23)) U7) := next HB.out hb
 replace H4 : Hid (Below U4.heap.size U4 U7) := H4.out.trans (hb.mono H4.out.size)
 replace HX : Hid (LaidR U4 R G1 R.n U7) := HX.out.up hb
 clear hb
 have HGg : Hid (Gd FG) := HGd.out FG HAG.out
 have HGs : Hid (Gd FS) := HGd.out FS HAS.out
 clear h56
 have HL1 : Hid (∀ j, j < 20 → U7.cell? ⟨w7.heap.size, 0 + j, none⟩ = FG.cells[j]?) := blkT HK.out 20
 have HL2 : Hid (∀ j, j < 20 → U7.cell? ⟨gS, 0 + j, none⟩ = FS.cells[j]?) := blkT ((H4.out.block _ (blk_lt HKS.out)).trans HKS.out) 20
 go_wp2_with (first | refine wpList_stNew 49 20 infoFb20 rfl (.tmp 9) (.tmp 36) rfl FG.cells _ rfl rfl rfl rfl rfl (Fab.oneC _) (eU ▸ ?_) | refine wpList_ldT rfl 49 20 _ Tryz.underlying49 rfl infoFb20 (.tmp 9) rfl w7.heap.size 0 rfl FG.cells rfl HL1.out ?_ | refine wpList_ldT rfl 49 20 _ Tryz.underlying49 rfl infoFb20 (.tmp 6) rfl gS 0 rfl FS.cells rfl HL2.out ?_)
 clear HL1 HL2
 refine (eqFabric_any FG FS _ HGg.out.s HG.out.rd (HRS.out.up H4.out) (HAG.out.symm.trans HAS.out)).mono ?_
 rintro e w8 ⟨rfl, hb⟩
 replace HB : Hid (Below (w.heap.size + 1) (w.alloc (.cells C.cells 23)) w8) := next HB.out hb
 replace H4 : Hid (Below U4.heap.size U4 w8) := H4.out.trans (hb.mono H4.out.size)
 replace HX : Hid (LaidR U4 R G1 R.n w8) := HX.out.up hb
 replace HG : Hid (OwnFz w8 w6.heap.size FG) := HG.out.up hb
 replace HK : Hid (w8.heap[w7.heap.size]? = some (.cells FG.cells 49 (0, 0))) := (hb.block _ (blk_lt HK.out)).trans HK.out
 clear hb
 clear eU
 generalize w6.heap.size = b6 at *
 generalize w7.heap.size = gG at *
 go_wp2_with fail
 refine (toRws_any R _ HS.out (HR.out.up (under HB.out))).mono ?_
 rintro e w9 ⟨G2, rfl, hl⟩
 have hb : Below w8.heap.size w8 w9 := hl.b
 have HX2 : Hid (RdRws w9 (R.copy w8.heap.size G2)) := hl.rd
 clear hl
 replace HB : Hid (Below (w.heap.size + 1) (w.alloc (.cells C.cells 23)) w9) := next HB.out hb
 replace H4 : Hid (Below U4.heap.size U4 w9) := H4.out.trans (hb.mono H4.out.size)
 replace HX : Hid (LaidR U4 R G1 R.n w9) := HX.out.up hb
 replace HG : Hid (OwnFz w9 b6 FG) := HG.out.up hb
 replace HK : Hid (w9.heap[gG]? = some (.cells FG.cells 49 (0, 0))) := (hb.block _ (blk_lt HK.out)).trans HK.out
 clear hb
 go_wp2_with fail
 refine (eqRws_any (R.copy U4.heap.size G1) (R.copy w8.heap.size G2) _ (copy_smallR HS.out) HX.out.rd HX2.out rfl rfl rfl).mono ?_
 rintro e w10 ⟨rfl, hb⟩
 replace HB : Hid (Below (w.heap.size + 1) (w.alloc (.cells C.cells 23)) w10) := next HB.out hb
 replace H4 : Hid (Below U4.heap.size U4 w10) := H4.out.trans (hb.mono H4.out.size)
 replace HX : Hid (LaidR U4 R G1 R.n w10) := HX.out.up hb
 replace HG : Hid (OwnFz w10 b6 FG) := HG.out.up hb
 replace HK : Hid (w10.heap[gG]? = some (.cells FG.cells 49 (0, 0))) := (hb.block _ (blk_lt HK.out)).trans HK.out
 clear hb
 clear HX2
 go_wp2_with fail
 refine (markRws_any U4 R G1 _ HS.out HX.out).mono ?_
 rintro e w11 ⟨q, rfl, hto⟩
 have hlo : ∀ x ∈ rwB R.n G1, U4.heap.size ≤ x ∧ x < w5.heap.size := fun x hx => by
  obtain ⟨i, hi, e⟩ := rwB_mem.1 hx
  have h9 := HL5.out.2 i hi
  omega
 have h4s : w.heap.size + 1 ≤ U4.heap.size := H4w.out
 replace HB : Hid (Below (w.heap.size + 1) (w.alloc (.cells C.cells 23)) w11) := HB.out.trans (hto.below (Nat.le_trans h4s H4.out.size) (fun x hx => Nat.le_trans h4s (hlo x hx).1))
 replace H4 : Hid (Below U4.heap.size U4 w11) := H4.out.trans (hto.below H4.out.size (fun x hx => (hlo x hx).1))
 replace HG : Hid (OwnFz w11 b6 FG) := HG.out.low hto (fun x hx => Nat.lt_of_lt_of_le (hlo x hx).2 HL65.out)
 replace HK : Hid (w11.heap[gG]? = some (.cells FG.cells 49 (0, 0))) := (hto.block _ (blk_lt HK.out) (fun hx => by
  have h1 := (hlo _ hx).2
  have h2 := HL65.out
  have h3 := HL7.out
  omega)).trans HK.out
 clear hto hlo HX
 have hq0 : ¬ (q : Int) < 0 := by omega
 have HL1 : Hid (∀ j, j < 20 → w11.cell? ⟨gG, 0 + j, none⟩ = FG.cells[j]?) := blkT HK.out 20
 have HL2 : Hid (∀ j, j < 20 → w11.cell? ⟨gS, 0 + j, none⟩ = FS.cells[j]?) := blkT ((H4.out.block _ (blk_lt HKS.out)).trans HKS.out) 20
 go_wp2_with (first | refine wpList_ldTg 49 20 _ Tryz.underlying49 rfl infoFb20 (.tmp 9) rfl (by kernel_rfl) gG 0 rfl FG.cells rfl HL1.out ?_ | refine wpList_ldTg 49 20 _ Tryz.underlying49 rfl infoFb20 (.tmp 6) rfl (by kernel_rfl) gS 0 rfl FS.cells rfl HL2.out ?_)
 clear HL1 HL2
 refine (eqFabric_any FG FS _ HGg.out.s HG.out.rd (HRS.out.up H4.out) (HAG.out.symm.trans HAS.out)).mono ?_
 rintro e w12 ⟨rfl, hb⟩
 replace HB : Hid (Below (w.heap.size + 1) (w.alloc (.cells C.cells 23)) w12) := next HB.out hb
 replace H4 : Hid (Below U4.heap.size U4 w12) := H4.out.trans (hb.mono H4.out.size)
 replace HG : Hid (OwnFz w12 b6 FG) := HG.out.up hb
 replace HK : Hid (w12.heap[gG]? = some (.cells FG.cells 49 (0, 0))) := (hb.block _ (blk_lt HK.out)).trans HK.out
 clear hb
 have HL1 : Hid (∀ j, j < 20 → w12.cell? ⟨gG, 0 + j, none⟩ = FG.cells[j]?) := blkT HK.out 20
 go_wp2_with (refine wpList_ldT rfl 49 20 _ Tryz.underlying49 rfl infoFb20 (.tmp 9) rfl gG 0 rfl FG.cells rfl HL1.out ?_)
 clear HL1
 have h6 : b6 ≤ w12.heap.size := by have h1 := HL7.out; have h2 := blk_lt HK.out; omega
 refine (markFb_any FG b6 _ HG.out HGg.out.s HGg.out.t HGg.out.m HGg.out.u HGg.out.d h6).mono ?_
 rintro e w13 ⟨rfl, hmk, hbl, hkk⟩
 have HM : Hid (MkdF w13 b6 FG) := hmk
 have h4s : U4.heap.size ≤ b6 := Nat.le_trans HL5.out.1 HL65.out
 have h4w : w.heap.size + 1 ≤ b6 := Nat.le_trans H4w.out h4s
 replace HB : Hid (Below (w.heap.size + 1) (w.alloc (.cells C.cells 23)) w13) := HB.out.trans (hbl.mono h4w)
 replace H4 : Hid (Below U4.heap.size U4 w13) := H4.out.trans (hbl.mono h4s)
 replace HK : Hid (w13.heap[gG]? = some (.cells FG.cells 49 (0, 0))) := hkk _ _ HK.out
 clear hmk hbl hkk HG h6
 have HL1 : Hid (∀ j, j < 20 → w13.cell? ⟨gG, 0 + j, none⟩ = FG.cells[j]?) := blkT HK.out 20
 go_wp2_with (refine wpList_ldT rfl 49 20 _ Tryz.underlying49 rfl infoFb20 (.tmp 9) rfl gG 0 rfl FG.cells rfl HL1.out ?_)
 clear HL1
 refine (heldFb_any FG b6 _ HM.out HGg.out.s HGg.out.t HGg.out.m HGg.out.u HGg.out.d).mono ?_
 rintro e w14 ⟨rfl, hb⟩
 replace HB : Hid (Below (w.heap.size + 1) (w.alloc (.cells C.cells 23)) w14) := next HB.out hb
 replace H4 : Hid (Below U4.heap.size U4 w14) := H4.out.trans (hb.mono H4.out.size)
 replace HM : Hid (MkdF w14 b6 FG) := HM.out.up hb
 replace HK : Hid (w14.heap[gG]? = some (.cells FG.cells 49 (0, 0))) := (hb.block _ (blk_lt HK.out)).trans HK.out
 clear hb
 have hm0 : ¬ ((FG.mk9 : Nat) : Int) < 0 := by omega
 have HL : Hid (∀ j, j < 7 → w14.cell? ⟨w.heap.size, 0 + j, none⟩ = C.cells[j]?) := box7 HB.out
 go_wp2_with (refine wpList_ldT rfl 23 7 _ Tryz.underlying23 rfl infoCfL (.tmp 2) rfl w.heap.size 0 rfl C.cells rfl HL.out ?_)
 clear HL
 refine (toConfig_any C _).mono ?_
 rintro e w15 ⟨rfl, hb⟩
 replace HB : Hid (Below (w.heap.size + 1) (w.alloc (.cells C.cells 23)) w15) := next HB.out hb
 replace H4 : Hid (Below U4.heap.size U4 w15) := H4.out.trans (hb.mono H4.out.size)
 replace HM : Hid (MkdF w15 b6 FG) := HM.out.up hb
 replace HK : Hid (w15.heap[gG]? = some (.cells FG.cells 49 (0, 0))) := (hb.block _ (blk_lt HK.out)).trans HK.out
 clear hb
 go_wp2_with fail
 refine (toRws_any R _ HS.out (HR.out.up (under HB.out))).mono ?_
 rintro e w16 ⟨G3, rfl, hl⟩
 have hb : Below w15.heap.size w15 w16 := hl.b
 have HX0 : Hid (RdRws w16 (R.copy w15.heap.size G3)) := hl.rd
 clear hl
 replace HB : Hid (Below (w.heap.size + 1) (w.alloc (.cells C.cells 23)) w16) := next HB.out hb
 replace H4 : Hid (Below U4.heap.size U4 w16) := H4.out.trans (hb.mono H4.out.size)
 replace HM : Hid (MkdF w16 b6 FG) := HM.out.up hb
 replace HK : Hid (w16.heap[gG]? = some (.cells FG.cells 49 (0, 0))) := (hb.block _ (blk_lt HK.out)).trans HK.out
 clear hb
 go_wp2_with fail
 refine (iFabricNew_any C n (R.copy w15.heap.size G3) _ HP.out (copy_smallR HS.out) HX0.out ok HO.out).mono ?_
 rintro e w17 ⟨FH, rfl, aH, oH, hb⟩
 have HAH : Hid (AlikeF M FH) := by rw [Hid, ← HEM.out]; exact aH
 have HRH : Hid (RdFb w17 FH) := oH.rd
 clear aH oH HX0
 replace HB : Hid (Below (w.heap.size + 1) (w.alloc (.cells C.cells 23)) w17) := next HB.out hb
 replace H4 : Hid (Below U4.heap.size U4 w17) := H4.out.trans (hb.mono H4.out.size)
 replace HM : Hid (MkdF w17 b6 FG) := HM.out.up hb
 replace HK : Hid (w17.heap[gG]? = some (.cells FG.cells 49 (0, 0))) := (hb.block _ (blk_lt HK.out)).trans HK.out
 clear hb
 obtain ⟨U8, eU⟩ : ∃ U, w17.alloc (.cells FH.cells 49) = U := ⟨_, rfl⟩
 have hb : Below w17.heap.size w17 U8 := by rw [← eU]; exact (Below.refl _ _).alloc (Nat.le_refl _) _
 have HKH : Hid (U8.heap[w17.heap.size]? = some (.cells FH.cells 49 (0, 0))) := by rw [Hid, ← eU]; exact blk_new _ _
 replace HRH : Hid (RdFb U8 FH) := HRH.out.up hb
 have HGh : Hid (Gd FH) := HGd.out FH HAH.out
 replace HB : Hid (Below (w.heap.size + 1) (w.alloc (.cells C.cells 23)) U8) := next HB.out hb
 replace H4 : Hid (Below U4.heap.size U4 U8) := H4.out.trans (hb.mono H4.out.size)
 replace HM : Hid (MkdF U8 b6 FG) := HM.out.up hb
 replace HK : Hid (U8.heap[gG]? = some (.cells FG.cells 49 (0, 0))) := (hb.block _ (blk_lt HK.out)).trans HK.out
 clear hb
 have HL1 : Hid (∀ j, j < 20 → U8.cell? ⟨w17.heap.size, 0 + j, none⟩ = FH.cells[j]?) := blkT HKH.out 20
 have HL2 : Hid (∀ j, j < 20 → U8.cell? ⟨gS, 0 + j, none⟩ = FS.cells[j]?) := blkT ((H4.out.block _ (blk_lt HKS.out)).trans HKS.out) 20
 go_wp2_with (first | refine wpList_stNew 49 20 infoFb20 rfl (.tmp 14) (.tmp 85) rfl FH.cells _ rfl rfl rfl rfl rfl (Fab.oneC _) (eU ▸ ?_) | refine wpList_ldT rfl 49 20 _ Tryz.underlying49 rfl infoFb20 (.tmp 14) rfl w17.heap.size 0 rfl FH.cells rfl HL1.out ?_ | refine wpList_ldT rfl 49 20 _ Tryz.underlying49 rfl infoFb20 (.tmp 6) rfl gS 0 rfl FS.cells rfl HL2.out ?_)
 clear HL1 HL2
 refine (eqFabric_any FH FS _ HGh.out.s HRH.out (HRS.out.up H4.out) (HAH.out.symm.trans HAS.out)).mono ?_
 rintro e w18 ⟨rfl, hb⟩
 replace HB : Hid (Below (w.heap.size + 1) (w.alloc (.cells C.cells 23)) w18) := next HB.out hb
 replace H4 : Hid (Below U4.heap.size U4 w18) := H4.out.trans (hb.mono H4.out.size)
 replace HM : Hid (MkdF w18 b6 FG) := HM.out.up hb
 replace HK : Hid (w18.heap[gG]? = some (.cells FG.cells 49 (0, 0))) := (hb.block _ (blk_lt HK.out)).trans HK.out
 clear hb
 have HL1 : Hid (∀ j, j < 20 → w18.cell? ⟨gG, 0 + j, none⟩ = FG.cells[j]?) := blkT HK.out 20
 go_wp2_with (refine wpList_ldT rfl 49 20 _ Tryz.underlying49 rfl infoFb20 (.tmp 9) rfl gG 0 rfl FG.cells rfl HL1.out ?_)
 clear HL1
 refine (heldFb_any FG b6 _ HM.out HGg.out.s HGg.out.t HGg.out.m HGg.out.u HGg.out.d).mono ?_
 rintro e w19 ⟨rfl, hb⟩
 replace HB : Hid (Below (w.heap.size + 1) (w.alloc (.cells C.cells 23)) w19) := next HB.out hb
 replace H4 : Hid (Below U4.heap.size U4 w19) := H4.out.trans (hb.mono H4.out.size)
 replace HM : Hid (MkdF w19 b6 FG) := HM.out.up hb
 replace HK : Hid (w19.heap[gG]? = some (.cells FG.cells 49 (0, 0))) := (hb.block _ (blk_lt HK.out)).trans HK.out
 clear hb
 have B := under HB.out
 go_wp2_with fail
 go_ret
 exact ⟨rfl, B⟩
set_option maxRecDepth 100000 in
theorem fabricNew_lifted (os : Os) (started : os.Started) (H : Type) (enc : TypeId × Value → H) :
  ReturnsInHanded {} Tryz.checked os 4 .any (Rows.fnExactFabricNewSpec.pre6 enc Tryz.prog Tryz.f4 Rows.fnExactFabricNewRow.domain false) (Rows.fnExactFabricNewSpec.post enc Tryz.prog Tryz.f4 false true false false) := by
 refine returnsInHanded_of_change (C := Tryz.checked) ownOkC started (by kernel_rfl) Tryz.func4
  (ChangeSpec.witness6 (enc := enc) (C := Tryz.checked) false ⟨#[], #[.agg #[.int .i64 0, .int .i64 0, .int .i64 0, .int .i64 0, .int .i64 0, .int .i64 0, .int .i64 0], .slice none 0 0], []⟩ 8 (by kernel_rfl) (by kernel_rfl) (by kernel_rfl) (by kernel_rfl)) ?_
 intro W base args ds gs before hval0 hW hcnd _
 have hval : ∀ (j : Nat) t v, Tryz.f4.params[j]? = some t → args[j]? = some v → Value.okWide Tryz.prog W .any base t v := hval0
 have hW' := hW
 obtain ⟨p, q, hA0, hV, rfl, hfz, hnd⟩ := hW
 have hA : DataW.TrodAll enc Tryz.prog W 0 (fun _ => true) true Tryz.f4.params.toList args.toList ds p := hA0
 rw [Tryz.params4] at hA hval
 obtain ⟨v0, vs0, d0, ds0, p0, q0, hargs, rfl, rfl, h0, r0⟩ := trodAll_cons hA
 obtain ⟨v1, vs1, d1, ds1, p1, q1, rfl, rfl, rfl, h1, r1⟩ := trodAll_cons r0
 obtain ⟨rfl, rfl, rfl⟩ := trodAll_nil r1
 obtain rfl : args = #[v0, v1] := by cases args; simp_all
 obtain ⟨rfl, rfl⟩ := trodVars_none hV
 have k0 := h0
 have lt0 : ∀ x ∈ p0, x.block < W.heap.size := by obtain ⟨m, hm⟩ := k0; exact DataW.trod_lt m _ _ _ hm
 obtain ⟨C0, rfl⟩ := open_config (hval 0 23 v0 rfl rfl) h0
 have k1 := h1
 have lt1 : ∀ x ∈ p1, x.block < W.heap.size := by obtain ⟨m, hm⟩ := k1; exact DataW.trod_lt m _ _ _ hm
 obtain ⟨R1, rfl, f1, rr1⟩ := open_rws (hval 1 53 v1 rfl rfl) h1
 clear hA0 hval0
 refine (fabricNew_law C0 R1 W f1 rr1).mono fun e W' ⟨he, bel⟩ => ?_
 subst he
 exact ⟨_, rfl, _, _, _, [], _, [], hW', trodAll_mk1 (shut_bool Tryz.underlying4 _), (trodAll_cons_mk (Below.trod laidOutC (by kernel_rfl) (of_decide_eq_true (by kernel_rfl)) k0 bel lt0) (trodAll_cons_mk (Below.trod laidOutC (by kernel_rfl) (of_decide_eq_true (by kernel_rfl)) k1 bel lt1) trodAll_mk0)), rfl, bel.frame _, fun h => by cases h⟩
theorem fabricNew_holds : Rows.FnExactFabricNewSaid :=
 OpenClaim.holds_of_wide 4 Tryz.f4 rfl rfl rfl rfl rfl rfl rfl ⟨rfl, rfl, rfl, rfl, rfl⟩ rfl rfl rfl rfl rfl (by kernel_rfl) Tryz.func4 (by kernel_rfl)
  (of_decide_eq_true (by kernel_rfl)) (by unfold Func.isWrapper; first | (rw [if_pos (by decide +kernel)]; kernel_rfl) | (rw [if_neg (by decide +kernel)]; exact ⟨rfl, rfl⟩))
  (fun os started H enc _ => fabricNew_lifted os started H enc)
#print axioms fabricNew_holds
end Go.Proofs.YtfkpncopkgidfaaGreat
