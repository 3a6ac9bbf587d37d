import Derived.Test.YtlipielghpoaoaaGreatT19
import Derived.Test.YtlipielghpoaoaaGreatT20
import Derived.Test.YtlipielghpoaoaaGreatT21
import Derived.Deep.Cut
import Derived.Deep.DeepCutAuto
namespace Go.Proofs.YtlipielghpoaoaaGreat
open Go.RowKit
set_option linter.unusedVariables false
set_option linter.unusedSimpArgs false
set_option maxHeartbeats 4000000 in
theorem copyRound_any (R : Rnd) (w : World) (hs : R.Small) (h : RdRnd w R) :
  Calls Tryz.prog 124 #[.agg R.cells] w fun e w' => ∃ aq cq ad cd gS A C, e = .returned (.agg (R.cp aq cq ad cd gS A C).cells) ∧ OwnRz w' w.heap.size (R.cp aq cq ad cd gS A C) ∧ Below w.heap.size w w' := by
 obtain ⟨aQ, nQ, cQ, q, aD, nD, cD, d, turn, fresh, aS, nS, cS, A, L, C, z⟩ := R
 have HR : Hid (RdRnd w ⟨aQ, nQ, cQ, q, aD, nD, cD, d, turn, fresh, aS, nS, cS, A, L, C, z⟩) := h
 have HS : Hid (Rnd.Small ⟨aQ, nQ, cQ, q, aD, nD, cD, d, turn, fresh, aS, nS, cS, A, L, C, z⟩) := hs
 have mk := make_sls nS hs.s
 have hnS : (nS : Int) ≤ 1048576 := by have : nS ≤ 1048576 := hs.s; omega
 clear h hs
 unfold Rnd.cells
 dsimp only
 go_enter Tryz.func124, Tryz.ntmps124
 go_wp2_with fail
 have HA : Hid (∀ A B C, Below w.heap.size w (((w.alloc A).alloc B).alloc C)) := fun A B C => (((Below.refl _ _).alloc (Nat.le_refl _) _).alloc (by simp) _).alloc (by simp; omega) _
 have e3 : ∀ A B C, (((w.alloc A).alloc B).alloc C).heap.size = w.heap.size + 1 + 1 + 1 := fun A B C => by simp
 refine (copyOfA_any aQ nQ cQ q _ HS.out.q (HR.out.q.up (HA.out _ _ _))).mono ?_
 rintro e w1 ⟨aq, cq, rfl, hVo, hb1⟩
 have hV := hVo.vi
 clear hVo
 obtain ⟨kA, kB, kC, B1, z1⟩ := three_laidR hb1
 rw [e3] at hV
 have cA := blk_cell kA
 have cC := blk_cell kC
 have fC := blk_free kC
 clear hb1 HA
 go_wp2_with fail
 have ht : Touch [w.heap.size + 1 + 1] w1 (w1.setCell ⟨w.heap.size + 1 + 1, 0, none⟩ (.slice aq nQ cq)) := (Touch.refl _ _).set (by simp) 0 _
 have kA' := (ht.block _ (blk_lt kA) (by simp only [List.mem_singleton]; omega)).trans kA
 have kB' := (ht.block _ (blk_lt kB) (by simp only [List.mem_singleton]; omega)).trans kB
 have kC' : (w1.setCell ⟨w.heap.size + 1 + 1, 0, none⟩ (.slice aq nQ cq)).heap[w.heap.size + 1 + 1]? = some (.cells #[.slice aq nQ cq, .slice aD nD cD, .int .i64 turn, .bool fresh, .slice aS nS cS] 65 (0, 0)) := blk_set kC _
 have hV' := hV.touchS ht (fun x hx hx2 => by have := (hV.blk x hx).1; simp at hx2; omega)
 have B1' := B1.trans (ht.below B1.size (fun x hx => by simp at hx; omega))
 have z1' : (w.heap.size + 1 + 1 + 1) ≤ (w1.setCell ⟨w.heap.size + 1 + 1, 0, none⟩ (.slice aq nQ cq)).heap.size := by have := ht.size; omega
 clear kA kB kC cA cC fC hV B1 ht z1
 generalize w1.setCell ⟨w.heap.size + 1 + 1, 0, none⟩ (.slice aq nQ cq) = W at *
 refine (copyOfA_any aD nD cD d _ HS.out.d (HR.out.d.up B1')).mono ?_
 rintro e w2 ⟨ad, cd, rfl, hDo, hb2⟩
 have hD := hDo.vi
 clear hDo
 have hQD := apart_old hV' hD (Nat.le_refl _)
 have hV2 := hV'.up hb2
 have kA2 := (hb2.block _ (blk_lt kA')).trans kA'
 have kB2 := (hb2.block _ (blk_lt kB')).trans kB'
 have kC2 := (hb2.block _ (blk_lt kC')).trans kC'
 have B2 : Below w.heap.size w w2 := B1'.trans (hb2.mono B1'.size)
 have z2 : (w.heap.size + 1 + 1 + 1) ≤ w2.heap.size := Nat.le_trans z1' hb2.size
 replace hD := hD.mono z1'
 have cA := blk_cell kA2
 have cC := blk_cell kC2
 have fC := blk_free kC2
 clear hb2 kA' kB' kC' hV' B1' z1'
 have ht : Touch [w.heap.size + 1 + 1] w2 (w2.setCell ⟨w.heap.size + 1 + 1, 1, none⟩ (.slice ad nD cd)) := (Touch.refl _ _).set (by simp) 1 _
 have hA := (Below.refl (w2.setCell ⟨w.heap.size + 1 + 1, 1, none⟩ (.slice ad nD cd)).heap.size (w2.setCell ⟨w.heap.size + 1 + 1, 1, none⟩ (.slice ad nD cd))).alloc (Nat.le_refl _) (.cells (zSls nS) 25)
 have hz : (w2.setCell ⟨w.heap.size + 1 + 1, 1, none⟩ (.slice ad nD cd)).heap.size = w2.heap.size := by simp [World.setCell]
 have kC3 : (w2.setCell ⟨w.heap.size + 1 + 1, 1, none⟩ (.slice ad nD cd)).heap[w.heap.size + 1 + 1]? = some (.cells #[.slice aq nQ cq, .slice ad nD cd, .int .i64 turn, .bool fresh, .slice aS nS cS] 65 (0, 0)) := blk_set kC2 _
 have kC4 := (hA.block _ (blk_lt kC3)).trans kC3
 have kA4 := (hA.block _ (by rw [hz]; exact blk_lt kA2)).trans ((ht.block _ (blk_lt kA2) (by simp only [List.mem_singleton]; omega)).trans kA2)
 have kB4 := (hA.block _ (by rw [hz]; exact blk_lt kB2)).trans ((ht.block _ (blk_lt kB2) (by simp only [List.mem_singleton]; omega)).trans kB2)
 have kS4 := blk_new (w2.setCell ⟨w.heap.size + 1 + 1, 1, none⟩ (.slice ad nD cd)) (.cells (zSls nS) 25)
 rw [hz] at kS4
 have hV4 := (hV2.touchS ht (fun x hx hx2 => by have := (hV2.blk x hx).1; simp at hx2; omega)).up hA
 have hD4 := (hD.touchS ht (fun x hx hx2 => by have := (hD.blk x hx).1; simp at hx2; omega)).up hA
 have B3 := B2.trans (ht.below B2.size (fun x hx => by simp at hx; omega))
 have B4 := B3.trans (hA.mono B3.size)
 have cA4 := blk_cell kA4
 have cC4 := blk_cell kC4
 have fC4 := blk_free kC4
 clear ht hA kC3 kA2 kB2 kC2 hV2 hD B2 B3
 go_wp2_with fail
 have ht := (Touch.refl [w.heap.size + 1 + 1] ((w2.setCell ⟨w.heap.size + 1 + 1, 1, none⟩ (.slice ad nD cd)).alloc (.cells (zSls nS) 25))).set (g := w.heap.size + 1 + 1) (by simp) 4 (.slice (some ⟨w2.heap.size, 0, none⟩) nS nS)
 have HCp0 : Hid (Cp ⟨aQ, nQ, cQ, q, aD, nD, cD, d, turn, fresh, aS, nS, cS, A, L, C, z⟩ (w.heap.size + 1 + 1 + 1) (((w2.setCell ⟨w.heap.size + 1 + 1, 1, none⟩ (.slice ad nD cd)).alloc (.cells (zSls nS) 25)).setCell ⟨w.heap.size + 1 + 1, 4, none⟩ (.slice (some ⟨w2.heap.size, 0, none⟩) nS nS)) aq ad w2.heap.size A C 0) :=
  ⟨hV4.touchS ht (fun x hx hx2 => by have := (hV4.blk x hx).1; simp at hx2; omega), hD4.touchS ht (fun x hx hx2 => by have := (hD4.blk x hx).1; simp at hx2; omega),
   .inr ⟨_, rfl, z2, ((zSls_row kS4).keep (ht.block _ (blk_lt kS4) (by simp only [List.mem_singleton]; omega))).ext (fun i hi => by simp)⟩, fun i hi => by omega, hQD, fun i hi => by omega, fun i hi => by omega, fun i j hi => by omega⟩
 have HB0 : Hid (Below w.heap.size w (((w2.setCell ⟨w.heap.size + 1 + 1, 1, none⟩ (.slice ad nD cd)).alloc (.cells (zSls nS) 25)).setCell ⟨w.heap.size + 1 + 1, 4, none⟩ (.slice (some ⟨w2.heap.size, 0, none⟩) nS nS))) := B4.trans (ht.below B4.size (fun x hx => by simp at hx; omega))
 have kB5 := (ht.block _ (blk_lt kB4) (by simp only [List.mem_singleton]; omega)).trans kB4
 have kC5 : (((w2.setCell ⟨w.heap.size + 1 + 1, 1, none⟩ (.slice ad nD cd)).alloc (.cells (zSls nS) 25)).setCell ⟨w.heap.size + 1 + 1, 4, none⟩ (.slice (some ⟨w2.heap.size, 0, none⟩) nS nS)).heap[w.heap.size + 1 + 1]? = some (.cells #[.slice aq nQ cq, .slice ad nD cd, .int .i64 turn, .bool fresh, .slice (some ⟨w2.heap.size, 0, none⟩) nS nS] 65 (0, 0)) := blk_set kC4 _
 have HkB0 : Hid (_ = _) := kB5
 have HkC0 : Hid (_ = _) := kC5
 clear ht kB5 kC5 kA4 kB4 kC4 kS4 hV4 hD4 B4 cA4 cC4 fC4 cA cC fC hz hQD mk
 generalize ((w2.setCell ⟨w.heap.size + 1 + 1, 1, none⟩ (.slice ad nD cd)).alloc (.cells (zSls nS) 25)).setCell ⟨w.heap.size + 1 + 1, 4, none⟩ (.slice (some ⟨w2.heap.size, 0, none⟩) nS nS) = W5 at *
 generalize w2.heap.size = gS at *
 go_loopw [23] (fun i wr => ∃ (k : Nat) (A' : Nat → Option Addr) (C' : Nat → Nat), k ≤ nS ∧ i = .int .i64 k ∧ Cp ⟨aQ, nQ, cQ, q, aD, nD, cD, d, turn, fresh, aS, nS, cS, A, L, C, z⟩ (w.heap.size + 1 + 1 + 1) wr aq ad gS A' C' k ∧ Below w.heap.size w wr ∧ (w.heap.size + 1 + 1 + 1) ≤ wr.heap.size ∧ wr.heap[w.heap.size + 1]? = some (.cells #[.slice none 0 0, .slice none 0 0, .int .i64 0, .bool false, .slice none 0 0] 65 (0, 0)) ∧ wr.heap[w.heap.size + 1 + 1]? = some (.cells #[.slice aq nQ cq, .slice ad nD cd, .int .i64 turn, .bool fresh, .slice (some ⟨gS, 0, none⟩) nS nS] 65 (0, 0))) (fun i _ => nS - (intOf i).toNat)
 case atStart => exact ⟨0, A, C, Nat.zero_le _, rfl, HCp0.out, HB0.out, by have := blk_lt HkC0.out; omega, HkB0.out, HkC0.out⟩
 case round =>
  obtain ⟨k, A', C', hk, rfl, hCp, hB, hBs, hkB, hkC⟩ := hrel
  clear HCp0 HB0 HkB0 HkC0
  have HCp : Hid (Cp ⟨aQ, nQ, cQ, q, aD, nD, cD, d, turn, fresh, aS, nS, cS, A, L, C, z⟩ (w.heap.size + 1 + 1 + 1) wr aq ad gS A' C' k) := hCp
  have HB : Hid (Below w.heap.size w wr) := hB
  have HBs : Hid ((w.heap.size + 1 + 1 + 1) ≤ wr.drew.heap.size) := hBs
  have kBd : Hid (wr.drew.heap[w.heap.size + 1]? = some (.cells #[.slice none 0 0, .slice none 0 0, .int .i64 0, .bool false, .slice none 0 0] 65 (0, 0))) := hkB
  have kCd : Hid (wr.drew.heap[w.heap.size + 1 + 1]? = some (.cells #[.slice aq nQ cq, .slice ad nD cd, .int .i64 turn, .bool fresh, .slice (some ⟨gS, 0, none⟩) nS nS] 65 (0, 0))) := hkC
  clear hCp hB hBs
  by_cases hlt : k < nS
  ·
   have hlt' : (k : Int) < nS := by omega
   obtain ⟨gs, os, rfl, hc⟩ := (HR.out.s.up HB.out) k hlt
   dsimp only at hc
   clear hkB hkC
   go_wp2_with fail
   refine wp_region_held_drew (S := fun w' => w'.cell? ⟨w.heap.size + 1 + 1, 4, none⟩ = some (.slice (some ⟨gS, 0, none⟩) nS nS)) (by kernel_rfl) (blk_cell kCd.out 4) (fun hHeld => ?_)
   refine tC 0 28 (v := ?_) ?_ ?_
   rotate_left
   ·
    intro wx hSw
    try dsimp only at hSw
    go_simp
    try (with_reducible rfl)
   try simp only [Act.put, PZ]
   refine tC 1 29 (v := ?_) ?_ ?_
   rotate_left
   ·
    intro wx hSw
    try dsimp only at hSw
    go_simp
    try (with_reducible rfl)
   try simp only [Act.put, PZ]
   refine tC 2 30 (v := ?_) ?_ ?_
   rotate_left
   ·
    intro wx hSw
    try dsimp only at hSw
    go_simp
    try (with_reducible rfl)
   try simp only [Act.put, PZ]
   refine tC 3 31 (v := ?_) ?_ ?_
   rotate_left
   ·
    intro wx hSw
    try dsimp only at hSw
    go_simp
    try (with_reducible rfl)
   try simp only [Act.put, PZ]
   refine wpAnyH_ready (rs := [4]) (by kernel_rfl) (by simp) ?_
   refine AllReadyH.cons rfl (fun K hK => ?_) AllReadyH.nil
   go_simp
   refine (copyOfA_any (A k) (L k) (C k) (z k) _ (HS.out.l k hlt) ((HR.out.z k hlt).up (HB.out.drew))).mono ?_
   rintro e w4 ⟨a', c', rfl, hv, hb⟩
   have hC0 := HCp.out.up (W' := wr.drew) ((Below.refl _ _).drew)
   have HCp4 : Hid (Cp ⟨aQ, nQ, cQ, q, aD, nD, cD, d, turn, fresh, some ⟨gs, os, none⟩, nS, cS, A, L, C, z⟩ (w.heap.size + 1 + 1 + 1) (w4.setCell ⟨gS, k, none⟩ (.slice a' (L k) c')) aq ad gS (fun i => if i = k then a' else A' i) (fun i => if i = k then c' else C' i) (k + 1)) := hC0.next (c' := c') hlt hb HBs.out hv
   have HB4 : Hid (Below w.heap.size w w4) := HB.out.drew.trans (hb.mono HB.out.size)
   have kB4 := (hb.block _ (blk_lt kBd.out)).trans kBd.out
   have kC4 := (hb.block _ (blk_lt kCd.out)).trans kCd.out
   have q4 : w4.cell? ⟨w.heap.size + 1 + 1, 4, none⟩ = some (.slice (some ⟨gS, 0, none⟩) nS nS) := blk_cell kC4 4
   have hrow : (w.heap.size + 1 + 1 + 1) ≤ gS ∧ (∃ x, w4.cell? ⟨gS, k, none⟩ = some x) ∧ w4.frozen? ⟨gS, k, none⟩ = false := by
    rcases hC0.s with h0 | ⟨g, hg, hbg, hr⟩
    ·
     exact absurd hlt (by rw [show nS = 0 from h0]; omega)
    ·
     cases hg
     exact ⟨hbg, (hr.keep (hb.block _ hr.lt)).there k hlt, (hr.keep (hb.block _ hr.lt)).free k⟩
   obtain ⟨hgS, ⟨xS, cS4⟩, fS4⟩ := hrow
   have HkB : Hid ((w4.setCell ⟨gS, k, none⟩ (.slice a' (L k) c')).heap[w.heap.size + 1]? = _) := (blk_set_ne (by omega) _).trans kB4
   have HkC : Hid ((w4.setCell ⟨gS, k, none⟩ (.slice a' (L k) c')).heap[w.heap.size + 1 + 1]? = _) := (blk_set_ne (by omega) _).trans kC4
   have HBn : Hid (Below w.heap.size w (w4.setCell ⟨gS, k, none⟩ (.slice a' (L k) c'))) := HB4.out.setCell (by show w.heap.size ≤ gS; omega) _
   have HBsn : Hid ((w.heap.size + 1 + 1 + 1) ≤ (w4.setCell ⟨gS, k, none⟩ (.slice a' (L k) c')).heap.size) := by
    have := blk_lt HkC.out
    show _ ≤ _
    omega
   have q4s : (w4.setCell ⟨gS, k, none⟩ (.slice a' (L k) c')).cell? ⟨w.heap.size + 1 + 1, 4, none⟩ = some (.slice (some ⟨gS, 0, none⟩) nS nS) := blk_cell HkC.out 4
   clear hv hb hC0 kB4 kC4
   go_wp2_with fail
   refine hK.out _ _ q4 (fun hHeld => ?_)
   clear hK K
   try simp only [Act.put, PZ]
   refine tC 5 33 (v := ?_) ?_ ?_
   rotate_left
   ·
    intro wx hSw
    try dsimp only at hSw
    go_simp
    try (with_reducible rfl)
   try simp only [Act.put, PZ]
   refine wpAnyH_ready (rs := [6]) (by kernel_rfl) (by simp) ?_
   refine AllReadyH.cons rfl (fun K hK => ?_) AllReadyH.nil
   go_simp
   refine hK.out _ _ q4s (fun hHeld => ?_)
   clear hK K
   try simp only [Act.put, PZ]
   refine wpAnyH_done (by kernel_rfl) ?_ _
   go_wp2_with fail
   go_roundw
   case rel => exact ⟨k + 1, _, _, by omega, by go_num, HCp4.out, HBn.out, HBsn.out, HkB.out, HkC.out⟩
   case measure => simp [intOf]; omega
  ·
   obtain rfl : k = nS := by omega
   have cC := blk_cell hkC
   have cB := blk_cell hkB
   have fB := blk_free hkB
   go_wp2_with fail
   have ht := put5_touch wr (w.heap.size + 1) (.slice aq nQ cq) (.slice ad nD cd) (.int .i64 turn) (.bool fresh) (.slice (some ⟨gS, 0, none⟩) k k)
   have cF := blk_cell (put5_blk hkB (.slice aq nQ cq) (.slice ad nD cd) (.int .i64 turn) (.bool fresh) (.slice (some ⟨gS, 0, none⟩) k k))
   have hBf := HB.out.trans (ht.below HB.out.size (fun x hx => by simp at hx; omega))
   have hOf := ((HCp.out.own cq cd).touch ht (fun x hx => by simp at hx; omega)).mono (show w.heap.size ≤ (w.heap.size + 1 + 1 + 1) by omega)
   unfold put5 at cF hBf hOf
   exact bodyPost_ret (v := .agg (Rnd.cp ⟨aQ, nQ, cQ, q, aD, nD, cD, d, turn, fresh, aS, k, cS, A, L, C, z⟩ aq cq ad cd gS A' C').cells) (by simp [results, Tryz.results124, go_sem, cF, Rnd.cp, Rnd.cells]) rfl ⟨aq, cq, ad, cd, gS, A', C', rfl, hOf, hBf⟩
theorem cpL_alike {R : Rnd} {aq ad : Option Addr} {cq cd gS : Nat} {A : Nat → Option Addr} {C : Nat → Nat} : Alike R (R.cp aq cq ad cd gS A C) := ⟨rfl, rfl, rfl, rfl, rfl, rfl, rfl, rfl, rfl⟩
def zLane : Array Value := #[.bool false, .slice none 0 0, .slice none 0 0, .slice none 0 0, .slice none 0 0, .int .i64 0, .bool false, .slice none 0 0]
structure CpL (base gB : Nat) (l p : Lng) (W : World) : Prop where
 own : OwnLz W base p
 box : W.heap[gB]? = some (.cells p.cells 67 (0, 0))
 st : p.st = l.st
 nT : p.nT = l.nT
 t : p.t = l.t
 ul : p.uL = l.uL
 uz : p.uz = l.uz
 r : Alike l.R p.R
def CutL (w : World) (l : Lng) (v : Value) (wc : World) : Prop := ∃ gB p, v = .pointer (some ⟨gB, 0, none⟩) ∧ w.heap.size + 1 < gB ∧ p.nU = 0 ∧ p.aU = none ∧ p.cU = 0 ∧ CpL w.heap.size gB l p wc ∧ Two w l.cells zLane 67 wc
theorem CpL.up {base gB : Nat} {l p : Lng} {W W' : World} (h : CpL base gB l p W) (hb : Below W.heap.size W W') : CpL base gB l p W' :=
 ⟨h.own.up hb, (hb.block _ (blk_lt h.box)).trans h.box, h.st, h.nT, h.t, h.ul, h.uz, h.r⟩
theorem CpL.more {base gB k g c2 c : Nat} {l p : Lng} {a : Option Addr} {V V1 W W2 : World} (h : CpL base gB l p V) (hk : p.nU = k) (hb : Below V.heap.size V V1) (hbase : base ≤ V.heap.size) (ho : OI V1 V.heap.size a (l.uL k) c (l.uz k))
  (hu : OG 25 1 W base (some ⟨g, 0, none⟩) (k + 1) c2 (slsV k p.uA p.uL p.uC ++ [.slice a (l.uL k) c])) (ht : Touch (blkO p.aU) V1 W) (hg : g ∈ blkO p.aU ∨ V1.heap.size ≤ g) (hP : Put W W2 gB (lay p.cells 2 #[.slice (some ⟨g, 0, none⟩) (k + 1) c2]) 67) : CpL base gB l (p.more k (some ⟨g, 0, none⟩) c2 a c) W2 := by
 rw [← h.ul, ← h.uz] at ho
 rw [← h.ul] at hu
 have h1 := h.own.more hk hb hbase ho hu ht hg
 have hbx : W.heap[gB]? = some (.cells p.cells 67 (0, 0)) := by
  have e1 := (h.up hb).box
  refine (ht.block gB (blk_lt e1) ?_).trans e1
  exact (h.up hb).own.u.notT (by decide) e1
 exact ⟨h1.box hbx (by decide) (by decide) hP.to, hP.blk, h.st, h.nT, h.t, h.ul, h.uz, h.r⟩
theorem rdR {w : World} {g : Nat} {l : Lng} {t : TypeId} (h : w.heap[g]? = some (.cells l.cells t (0, 0))) : ∀ j, j < 5 → w.cell? ⟨g, 3 + j, none⟩ = l.R.cells[j]? := by
 intro j hj
 rw [blk_cell h]
 match j, hj with
 | 0, _ => rfl
 | 1, _ => rfl
 | 2, _ => rfl
 | 3, _ => rfl
 | 4, _ => rfl
theorem Two.far {w W W' : World} {A B : Array Value} {t : TypeId} {S : List Nat} (h : Two w A B t W) (ht : Touch S W W') (hn : ∀ {g : Nat} {cs : Array Value}, W.heap[g]? = some (.cells cs t (0, 0)) → g ∉ S) (hl : ∀ x ∈ S, w.heap.size ≤ x) : Two w A B t W' :=
 ⟨(ht.block _ (blk_lt h.a) (hn h.a)).trans h.a, (ht.block _ (blk_lt h.b) (hn h.b)).trans h.b, h.bel.trans (ht.below h.bel.size hl)⟩
theorem Two.put {w W W' : World} {A B C : Array Value} {t t' : TypeId} {g : Nat} (h : Two w A B t W) (hp : Put W W' g C t') (hg : w.heap.size + 1 < g) : Two w A B t W' :=
 ⟨(hp.to.block _ (blk_lt h.a) (by simp; omega)).trans h.a, (hp.to.block _ (blk_lt h.b) (by simp; omega)).trans h.b, h.bel.trans (hp.to.below h.bel.size (fun x hx => by simp at hx; omega))⟩
theorem cutOwn {V X : World} {base gB : Nat} {l : Lng} {aT aq ad : Option Addr} {cT cq cd gS : Nat} {A : Nat → Option Addr} {C : Nat → Nat} {cur : Array Value} (oT : OI V base aT l.nT cT l.t) (oR : OwnRz V base (l.R.cp aq cq ad cd gS A C)) (hTR : ∀ x ∈ blkO aT, x ∉ (l.R.cp aq cq ad cd gS A C).blkz)
  (kB : V.heap[gB]? = some (.cells cur 67 (0, 0))) (hP : Put V X gB (Lng.cells ⟨l.st, aT, l.nT, cT, l.t, none, 0, 0, fun _ => none, l.uL, fun _ => 0, l.uz, l.R.cp aq cq ad cd gS A C⟩) 67) : CpL base gB l ⟨l.st, aT, l.nT, cT, l.t, none, 0, 0, fun _ => none, l.uL, fun _ => 0, l.uz, l.R.cp aq cq ad cd gS A C⟩ X := by
 have h1 : OwnLz V base ⟨l.st, aT, l.nT, cT, l.t, none, 0, 0, fun _ => none, l.uL, fun _ => 0, l.uz, l.R.cp aq cq ad cd gS A C⟩ := by
  refine ⟨oT, OG.nil _ _ _ _, fun i hi => absurd hi (Nat.not_lt_zero _), oR, ?_, fun x hx hy => by simp [blkO] at hy⟩
  show ((blkO aT ++ _) ++ []).Nodup
  rw [List.append_nil]
  exact List.nodup_append.2 ⟨blkO_nodup _, oR.nd, fun x hx y hy e => hTR x hx (e ▸ hy)⟩
 exact ⟨h1.box kB (by decide) (by decide) hP.to, hP.blk, rfl, rfl, rfl, rfl, rfl, cpL_alike⟩
set_option maxRecDepth 100000 in
set_option maxHeartbeats 4000000 in
theorem copyLane_any (l : Lng) (w : World) (hs : l.Small) (h : RdLg w l) :
  Calls Tryz.prog 88 #[.agg l.cells] w fun e w' => ∃ l2, e = .returned (.agg l2.cells) ∧ AlikeL l l2 ∧ OwnLz w' w.heap.size l2 ∧ Below w.heap.size w w' := by
 have HR : Hid (RdLg w l) := h
 have HS : Hid l.Small := hs
 obtain ⟨W, eW⟩ : ∃ W, (w.alloc (.cells l.cells 67)).alloc (.cells #[.bool false, .slice none 0 0, .slice none 0 0, .slice none 0 0, .slice none 0 0, .int .i64 0, .bool false, .slice none 0 0] 67) = W := ⟨_, rfl⟩
 have HX : Hid (Two w l.cells zLane 67 W) := by rw [← eW]; exact Two.start _ _ _ _
 clear h hs
 go_enter Tryz.func88, Tryz.ntmps88
 go_wp2_with fail
 clear eW
 go_cut [3] (fun v wc => CutL w l v wc)
 case first =>
  replace HX : Hid (Two w l.cells zLane 67 W.drew) := HX.out.up ((Below.refl _ _).drew)
  have hz0 : w.heap.size + 1 < W.drew.heap.size := blk_lt HX.out.b
  refine wp_region_E (fun w' => w'.heap[w.heap.size]? = some (.cells l.cells 67 (0, 0))) 10 (by kernel_rfl) ?_
  generalize W.drew = V at *
  have hT0 := HX.out.a
  refine takeE (i := 0) (some 6) (v := ?_) ?_ hT0 ?_
  rotate_left
  ·
   intro wx hSw
   go_simp
   try (with_reducible rfl)
  try simp only [Act.put, PZ]
  refine takeE (i := 1) (some 7) (v := ?_) ?_ hT0 ?_
  rotate_left
  ·
   intro wx hSw
   have c0 : wx.cell? ⟨w.heap.size, 0, none⟩ = some (.bool l.st) := blk_cell hSw 0
   go_simp
   try (with_reducible rfl)
  try simp only [Act.put, PZ]
  refine takeE (i := 2) (some 8) (v := ?_) ?_ hT0 ?_
  rotate_left
  ·
   intro wx hSw
   go_simp
   try (with_reducible rfl)
  try simp only [Act.put, PZ]
  refine takeE (i := 3) (some 9) (v := ?_) ?_ hT0 ?_
  rotate_left
  ·
   intro wx hSw
   have c1 : wx.cell? ⟨w.heap.size, 1, none⟩ = some (.slice l.aT l.nT l.cT) := blk_cell hSw 1
   go_simp
   try (with_reducible rfl)
  try simp only [Act.put, PZ]
  refine takeE (i := 5) (some 11) (v := ?_) ?_ hT0 ?_
  rotate_left
  ·
   intro wx hSw
   go_simp
   try (with_reducible rfl)
  try simp only [Act.put, PZ]
  refine takeE (i := 6) (some 12) (v := .agg l.R.cells) ?_ hT0 ?_
  ·
   intro wx hSw
   exact run_ldT 65 5 _ Tryz.underlying65 rfl infoRn (.tmp 11) rfl w.heap.size 3 rfl l.R.cells rfl (fun j hj => rdR hSw j hj)
  try simp only [Act.put, PZ]
  refine wpAnyE_ready (rs := [4, 9]) (by kernel_rfl) (by simp) ?_
  refine AllReadyE.cons rfl (fun K hK => ?_) (AllReadyE.cons rfl (fun K hK => ?_) AllReadyE.nil)
  ·
   go_simp
   refine (copyOfA_any l.aT l.nT l.cT l.t _ HS.out.t (HR.out.t.up HX.out.bel)).mono ?_
   rintro e X1 ⟨aT, cT, rfl, oT, hb⟩
   replace oT := oT.mono (base' := w.heap.size) HX.out.bel.size
   have lT := OI.blk oT
   replace HX : Hid (Two w l.cells zLane 67 X1) := HX.out.up hb
   replace hT0 := HX.out.a
   have hz := (hb).size
   clear hb hz
   go_wp2_with fail
   refine hK.out _ _ hT0 ?_
   clear hK K
   try simp only [Act.put, PZ]
   refine wpAnyE_ready (rs := [7, 9]) (by kernel_rfl) (by simp) ?_
   refine AllReadyE.cons rfl (fun K hK => ?_) (AllReadyE.cons rfl (fun K hK => ?_) AllReadyE.nil)
   ·
    go_simp
    refine (copyRound_any l.R _ HS.out.r (HR.out.r.up HX.out.bel)).mono ?_
    rintro e X2 ⟨aq, cq, ad, cd, gS, A, C, rfl, oR, hb⟩
    have hTR : ∀ x ∈ blkO aT, x ∉ (l.R.cp aq cq ad cd gS A C).blkz := fun x hx hy => by have := (OI.blk oT x hx).2; have := (oR.blk x hy).1; omega
    replace oR := oR.monoZ (base' := w.heap.size) HX.out.bel.size
    replace HX : Hid (Two w l.cells zLane 67 X2) := HX.out.up hb
    replace hT0 := HX.out.a
    have hz := (hb).size
    replace oT := oT.up hb
    clear hb hz
    dsimp only [Rnd.cells, Rnd.cp]
    go_wp2_with fail
    refine hK.out _ _ hT0 ?_
    clear hK K
    try simp only [Act.put, PZ]
    refine takeE (i := 8) (some 14) (v := ?_) ?_ hT0 ?_
    rotate_left
    ·
     intro wx hSw
     go_simp
     try (with_reducible rfl)
    try simp only [Act.put, PZ]
    refine wpAnyE_ready (rs := [9]) (by kernel_rfl) (by simp) ?_
    refine AllReadyE.cons rfl (fun K hK => ?_) AllReadyE.nil
    ·
     obtain ⟨X3, eV⟩ : ∃ X, X2.alloc (.cells #[.bool false, .slice none 0 0, .slice none 0 0, .slice none 0 0, .slice none 0 0, .int .i64 0, .bool false, .slice none 0 0] 67) = X := ⟨_, rfl⟩
     have hb : Below X2.heap.size X2 X3 := by rw [← eV]; exact (Below.refl _ _).alloc (Nat.le_refl _) _
     have kB : X3.heap[X2.heap.size]? = some (.cells #[.bool false, .slice none 0 0, .slice none 0 0, .slice none 0 0, .slice none 0 0, .int .i64 0, .bool false, .slice none 0 0] 67 (0, 0)) := by rw [← eV]; exact blk_new _ _
     have hgB : w.heap.size + 1 < X2.heap.size := blk_lt HX.out.b
     go_simp
     clear eV
     replace HX : Hid (Two w l.cells zLane 67 X3) := HX.out.up hb
     replace hT0 := HX.out.a
     have hz := (hb).size
     replace oT := oT.up hb
     replace oR := oR.upZ hb
     clear hb hz
     obtain ⟨gB, eB⟩ : ∃ g, X2.heap.size = g := ⟨_, rfl⟩
     rw [eB] at kB hgB ⊢
     refine hK.out _ _ hT0 ?_
     clear hK K
     try simp only [Act.put, PZ]
     refine wpAnyE_ready (rs := [10]) (by kernel_rfl) (by simp) ?_
     refine AllReadyE.last rfl (fun K hK => ?_)
     refine wp_stE (by kernel_rfl) none rfl 67 (.tmp 3) (.tmp 14) rfl gB 0 rfl (.agg #[.bool l.st, .slice aT l.nT cT, .slice none 0 0, .slice aq l.R.nQ cq, .slice ad l.R.nD cd, .int .i64 l.R.turn, .bool l.R.fresh, .slice (some ⟨gS, 0, none⟩) l.R.nS l.R.nS]) rfl 8 rfl 67 _ kB infoLgI (Nat.le_of_ble_eq_true rfl) (by simp [Value.cells, Value.oneCell']) ?_
     intro X hP
     refine hK.out _ _ ?_
     clear hK K
     try simp only [Act.put, PZ]
     refine wpAnyE_done (by kernel_rfl) ?_ _
     obtain ⟨p, ep⟩ : ∃ p, (⟨l.st, aT, l.nT, cT, l.t, none, 0, 0, fun _ => none, l.uL, fun _ => 0, l.uz, l.R.cp aq cq ad cd gS A C⟩ : Lng) = p := ⟨_, rfl⟩
     replace hP : Put X3 X gB p.cells 67 := hP.cast (by rw [← ep]; rfl)
     have HC : Hid (CutL w l (.pointer (some ⟨gB, 0, none⟩)) X) := ⟨gB, p, rfl, hgB, by rw [← ep], by rw [← ep], by rw [← ep], by
      rw [← ep] at hP ⊢
      exact cutOwn oT oR hTR kB hP, ⟨(hP.to.block _ (blk_lt HX.out.a) (by simp; omega)).trans HX.out.a, (hP.to.block _ (blk_lt HX.out.b) (by simp; omega)).trans HX.out.b, HX.out.bel.trans (hP.to.below HX.out.bel.size (fun x hx => by simp at hx; omega))⟩⟩
     clear hP oT oR kB hTR HX hT0 ep
     go_wp2_with fail
     go_meet
     case rel => exact HC.out
   ·
    obtain ⟨X4, eV⟩ : ∃ X, X1.alloc (.cells #[.bool false, .slice none 0 0, .slice none 0 0, .slice none 0 0, .slice none 0 0, .int .i64 0, .bool false, .slice none 0 0] 67) = X := ⟨_, rfl⟩
    have hb : Below X1.heap.size X1 X4 := by rw [← eV]; exact (Below.refl _ _).alloc (Nat.le_refl _) _
    have kB : X4.heap[X1.heap.size]? = some (.cells #[.bool false, .slice none 0 0, .slice none 0 0, .slice none 0 0, .slice none 0 0, .int .i64 0, .bool false, .slice none 0 0] 67 (0, 0)) := by rw [← eV]; exact blk_new _ _
    have hgB : w.heap.size + 1 < X1.heap.size := blk_lt HX.out.b
    go_simp
    clear eV
    replace HX : Hid (Two w l.cells zLane 67 X4) := HX.out.up hb
    replace hT0 := HX.out.a
    have hz := (hb).size
    replace oT := oT.up hb
    clear hb hz
    obtain ⟨gB, eB⟩ : ∃ g, X1.heap.size = g := ⟨_, rfl⟩
    rw [eB] at kB hgB ⊢
    refine hK.out _ _ hT0 ?_
    clear hK K
    try simp only [Act.put, PZ]
    refine wpAnyE_ready (rs := [7]) (by kernel_rfl) (by simp) ?_
    refine AllReadyE.cons rfl (fun K hK => ?_) AllReadyE.nil
    ·
     go_simp
     refine (copyRound_any l.R _ HS.out.r (HR.out.r.up HX.out.bel)).mono ?_
     rintro e X5 ⟨aq, cq, ad, cd, gS, A, C, rfl, oR, hb⟩
     have hTR : ∀ x ∈ blkO aT, x ∉ (l.R.cp aq cq ad cd gS A C).blkz := fun x hx hy => by have := (OI.blk oT x hx).2; have := (oR.blk x hy).1; omega
     replace oR := oR.monoZ (base' := w.heap.size) HX.out.bel.size
     replace HX : Hid (Two w l.cells zLane 67 X5) := HX.out.up hb
     replace hT0 := HX.out.a
     have hz := (hb).size
     replace oT := oT.up hb
     replace kB := (hb.block _ (blk_lt kB)).trans kB
     clear hb hz
     dsimp only [Rnd.cells, Rnd.cp]
     go_wp2_with fail
     refine hK.out _ _ hT0 ?_
     clear hK K
     try simp only [Act.put, PZ]
     refine takeE (i := 8) (some 14) (v := ?_) ?_ hT0 ?_
     rotate_left
     ·
      intro wx hSw
      go_simp
      try (with_reducible rfl)
     try simp only [Act.put, PZ]
     refine wpAnyE_ready (rs := [10]) (by kernel_rfl) (by simp) ?_
     refine AllReadyE.last rfl (fun K hK => ?_)
     refine wp_stE (by kernel_rfl) none rfl 67 (.tmp 3) (.tmp 14) rfl gB 0 rfl (.agg #[.bool l.st, .slice aT l.nT cT, .slice none 0 0, .slice aq l.R.nQ cq, .slice ad l.R.nD cd, .int .i64 l.R.turn, .bool l.R.fresh, .slice (some ⟨gS, 0, none⟩) l.R.nS l.R.nS]) rfl 8 rfl 67 _ kB infoLgI (Nat.le_of_ble_eq_true rfl) (by simp [Value.cells, Value.oneCell']) ?_
     intro X hP
     refine hK.out _ _ ?_
     clear hK K
     try simp only [Act.put, PZ]
     refine wpAnyE_done (by kernel_rfl) ?_ _
     obtain ⟨p, ep⟩ : ∃ p, (⟨l.st, aT, l.nT, cT, l.t, none, 0, 0, fun _ => none, l.uL, fun _ => 0, l.uz, l.R.cp aq cq ad cd gS A C⟩ : Lng) = p := ⟨_, rfl⟩
     replace hP : Put X5 X gB p.cells 67 := hP.cast (by rw [← ep]; rfl)
     have HC : Hid (CutL w l (.pointer (some ⟨gB, 0, none⟩)) X) := ⟨gB, p, rfl, hgB, by rw [← ep], by rw [← ep], by rw [← ep], by
      rw [← ep] at hP ⊢
      exact cutOwn oT oR hTR kB hP, ⟨(hP.to.block _ (blk_lt HX.out.a) (by simp; omega)).trans HX.out.a, (hP.to.block _ (blk_lt HX.out.b) (by simp; omega)).trans HX.out.b, HX.out.bel.trans (hP.to.below HX.out.bel.size (fun x hx => by simp at hx; omega))⟩⟩
     clear hP oT oR kB hTR HX hT0 ep
     go_wp2_with fail
     go_meet
     case rel => exact HC.out
  ·
   obtain ⟨X6, eV⟩ : ∃ X, V.alloc (.cells #[.bool false, .slice none 0 0, .slice none 0 0, .slice none 0 0, .slice none 0 0, .int .i64 0, .bool false, .slice none 0 0] 67) = X := ⟨_, rfl⟩
   have hb : Below V.heap.size V X6 := by rw [← eV]; exact (Below.refl _ _).alloc (Nat.le_refl _) _
   have kB : X6.heap[V.heap.size]? = some (.cells #[.bool false, .slice none 0 0, .slice none 0 0, .slice none 0 0, .slice none 0 0, .int .i64 0, .bool false, .slice none 0 0] 67 (0, 0)) := by rw [← eV]; exact blk_new _ _
   have hgB : w.heap.size + 1 < V.heap.size := blk_lt HX.out.b
   go_simp
   clear eV
   replace HX : Hid (Two w l.cells zLane 67 X6) := HX.out.up hb
   replace hT0 := HX.out.a
   have hz := (hb).size
   clear hb hz
   obtain ⟨gB, eB⟩ : ∃ g, V.heap.size = g := ⟨_, rfl⟩
   rw [eB] at kB hgB ⊢
   refine hK.out _ _ hT0 ?_
   clear hK K
   try simp only [Act.put, PZ]
   refine wpAnyE_ready (rs := [4]) (by kernel_rfl) (by simp) ?_
   refine AllReadyE.cons rfl (fun K hK => ?_) AllReadyE.nil
   ·
    go_simp
    refine (copyOfA_any l.aT l.nT l.cT l.t _ HS.out.t (HR.out.t.up HX.out.bel)).mono ?_
    rintro e X7 ⟨aT, cT, rfl, oT, hb⟩
    replace oT := oT.mono (base' := w.heap.size) HX.out.bel.size
    have lT := OI.blk oT
    replace HX : Hid (Two w l.cells zLane 67 X7) := HX.out.up hb
    replace hT0 := HX.out.a
    have hz := (hb).size
    replace kB := (hb.block _ (blk_lt kB)).trans kB
    clear hb hz
    go_wp2_with fail
    refine hK.out _ _ hT0 ?_
    clear hK K
    try simp only [Act.put, PZ]
    refine wpAnyE_ready (rs := [7]) (by kernel_rfl) (by simp) ?_
    refine AllReadyE.cons rfl (fun K hK => ?_) AllReadyE.nil
    ·
     go_simp
     refine (copyRound_any l.R _ HS.out.r (HR.out.r.up HX.out.bel)).mono ?_
     rintro e X8 ⟨aq, cq, ad, cd, gS, A, C, rfl, oR, hb⟩
     have hTR : ∀ x ∈ blkO aT, x ∉ (l.R.cp aq cq ad cd gS A C).blkz := fun x hx hy => by have := (OI.blk oT x hx).2; have := (oR.blk x hy).1; omega
     replace oR := oR.monoZ (base' := w.heap.size) HX.out.bel.size
     replace HX : Hid (Two w l.cells zLane 67 X8) := HX.out.up hb
     replace hT0 := HX.out.a
     have hz := (hb).size
     replace oT := oT.up hb
     replace kB := (hb.block _ (blk_lt kB)).trans kB
     clear hb hz
     dsimp only [Rnd.cells, Rnd.cp]
     go_wp2_with fail
     refine hK.out _ _ hT0 ?_
     clear hK K
     try simp only [Act.put, PZ]
     refine takeE (i := 8) (some 14) (v := ?_) ?_ hT0 ?_
     rotate_left
     ·
      intro wx hSw
      go_simp
      try (with_reducible rfl)
     try simp only [Act.put, PZ]
     refine wpAnyE_ready (rs := [10]) (by kernel_rfl) (by simp) ?_
     refine AllReadyE.last rfl (fun K hK => ?_)
     refine wp_stE (by kernel_rfl) none rfl 67 (.tmp 3) (.tmp 14) rfl gB 0 rfl (.agg #[.bool l.st, .slice aT l.nT cT, .slice none 0 0, .slice aq l.R.nQ cq, .slice ad l.R.nD cd, .int .i64 l.R.turn, .bool l.R.fresh, .slice (some ⟨gS, 0, none⟩) l.R.nS l.R.nS]) rfl 8 rfl 67 _ kB infoLgI (Nat.le_of_ble_eq_true rfl) (by simp [Value.cells, Value.oneCell']) ?_
     intro X hP
     refine hK.out _ _ ?_
     clear hK K
     try simp only [Act.put, PZ]
     refine wpAnyE_done (by kernel_rfl) ?_ _
     obtain ⟨p, ep⟩ : ∃ p, (⟨l.st, aT, l.nT, cT, l.t, none, 0, 0, fun _ => none, l.uL, fun _ => 0, l.uz, l.R.cp aq cq ad cd gS A C⟩ : Lng) = p := ⟨_, rfl⟩
     replace hP : Put X8 X gB p.cells 67 := hP.cast (by rw [← ep]; rfl)
     have HC : Hid (CutL w l (.pointer (some ⟨gB, 0, none⟩)) X) := ⟨gB, p, rfl, hgB, by rw [← ep], by rw [← ep], by rw [← ep], by
      rw [← ep] at hP ⊢
      exact cutOwn oT oR hTR kB hP, ⟨(hP.to.block _ (blk_lt HX.out.a) (by simp; omega)).trans HX.out.a, (hP.to.block _ (blk_lt HX.out.b) (by simp; omega)).trans HX.out.b, HX.out.bel.trans (hP.to.below HX.out.bel.size (fun x hx => by simp at hx; omega))⟩⟩
     clear hP oT oR kB hTR HX hT0 ep
     go_wp2_with fail
     go_meet
     case rel => exact HC.out
 case rest =>
  obtain ⟨gB, p, rfl, hgB, hnU, haU, hcU, hC, hX⟩ := hcut
  have HC : Hid (CpL w.heap.size gB l p wc) := hC
  replace HX : Hid (Two w l.cells zLane 67 wc) := hX
  have HP0 : Hid (p.nU = 0) := hnU
  have HgB : Hid (w.heap.size + 1 < gB) := hgB
  clear hC hX hnU haU hcU hgB
  have HU : Hid (RdRow w l.aU l.nU fun i => .slice (l.uA i) (l.uL i) (l.uC i)) := HR.out.u
  obtain ⟨aU, eU⟩ : ∃ a, l.aU = a := ⟨_, rfl⟩
  have c2 : wc.cell? ⟨w.heap.size, 2, none⟩ = some (.slice aU l.nU l.cU) := by rw [← eU]; exact blk_cell HX.out.a 2
  rw [eU] at HU
  clear eU
  have hnu := HS.out.u
  go_wp2_with fail
  clear c2
  go_loopw [18] (fun i wr => ∃ (k : Nat) (q : Lng), k ≤ l.nU ∧ i = .int .i64 k ∧ Hid (q.nU = k ∧ CpL w.heap.size gB l q wr ∧ Two w l.cells zLane 67 wr)) (fun i _ => l.nU - (intOf i).toNat)
  case atStart => exact ⟨0, p, Nat.zero_le _, rfl, ⟨HP0.out, HC.out, HX.out⟩⟩
  case round =>
   clear HC HX
   obtain ⟨k, q, hk, rfl, HQ⟩ := hrel
   by_cases hlt : k < l.nU
   ·
    have hlt' : (k : Int) < l.nU := by omega
    obtain ⟨g0, o0, ea, hc0⟩ := (HU.out.up HQ.out.2.2.bel) k hlt
    subst ea
    dsimp only at hc0
    go_wp2_with fail
    refine wp_region_E (fun w' => w'.heap[gB]? = some (.cells q.cells 67 (0, 0))) 7 (by kernel_rfl) ?_
    have hd : Below wr.heap.size wr wr.drew := (Below.refl _ _).drew
    replace HQ : Hid (q.nU = k ∧ CpL w.heap.size gB l q wr.drew ∧ Two w l.cells zLane 67 wr.drew) := ⟨HQ.out.1, HQ.out.2.1.up hd, HQ.out.2.2.up hd⟩
    clear hd hc0
    generalize wr.drew = V at *
    have hT0 := HQ.out.2.1.box
    refine takeE (i := 0) (some 22) (v := ?_) ?_ hT0 ?_
    rotate_left
    ·
     intro wx hSw
     go_simp
     try (with_reducible rfl)
    try simp only [Act.put, PZ]
    refine takeE (i := 1) (some 23) (v := ?_) ?_ hT0 ?_
    rotate_left
    ·
     intro wx hSw
     have c2 : wx.cell? ⟨gB, 2, none⟩ = some (.slice q.aU k q.cU) := by rw [blk_cell hSw 2, ← HQ.out.1]; rfl
     go_simp
     try (with_reducible rfl)
    try simp only [Act.put, PZ]
    refine takeE (i := 2) (some 24) (v := ?_) ?_ hT0 ?_
    rotate_left
    ·
     intro wx hSw
     go_simp
     try (with_reducible rfl)
    try simp only [Act.put, PZ]
    refine wpAnyE_ready (rs := [3]) (by kernel_rfl) (by simp) ?_
    refine AllReadyE.cons rfl (fun K hK => ?_) AllReadyE.nil
    go_simp
    refine (copyOfA_any (l.uA k) (l.uL k) (l.uC k) (l.uz k) _ (HS.out.z k hlt) ((HR.out.z k hlt).up HQ.out.2.2.bel)).mono ?_
    rintro e X1 ⟨a1, c1, rfl, oA, hb⟩
    have HA1 : Hid (OI X1 V.heap.size a1 (l.uL k) c1 (l.uz k) ∧ Below V.heap.size V X1) := ⟨oA, hb⟩
    have Q1 := HQ.out.2.1.up hb
    have hu0 : OG 25 1 X1 w.heap.size q.aU k q.cU (slsV k q.uA q.uL q.uC) := by have := Q1.own.u; rw [HQ.out.1] at this; exact this
    obtain ⟨g1, c3, X3, hr, hu, ht, hg⟩ := appendOG 63 25 (.slice none 0 0) 1 24 info22 Tryz.underlying63 rfl (by decide) (by decide) hu0 (by omega) (Nat.le_trans HQ.out.2.2.bel.size hb.size) #[.slice a1 (l.uL k) c1] rfl (by simp [Value.oneCell'])
    have hT1 := Q1.box
    have hT2 : (X1.alloc (.cells #[.slice a1 (l.uL k) c1] 25)).heap[gB]? = some (.cells q.cells 67 (0, 0)) := (blk_old _ (blk_lt hT1)).trans hT1
    have hT3 : X3.heap[gB]? = some (.cells q.cells 67 (0, 0)) := (ht.block gB (blk_lt hT1) (hu0.notT (by decide) hT1)).trans hT1
    have HN3 : Hid (OG 25 1 X3 w.heap.size (some ⟨g1, 0, none⟩) (k + 1) c3 (slsV k q.uA q.uL q.uC ++ [.slice a1 (l.uL k) c1]) ∧ Touch (blkO q.aU) X1 X3 ∧ (g1 ∈ blkO q.aU ∨ X1.heap.size ≤ g1)) := ⟨hu, ht, hg⟩
    have HR3 : Hid ((Builtin.append_ #[63, 63] 63 #[.slice q.aU k q.cU, .slice (some ⟨X1.heap.size, 0, none⟩) 1 1]).run Tryz.prog (X1.alloc (.cells #[.slice a1 (l.uL k) c1] 25)) = .ok (.slice (some ⟨g1, 0, none⟩) (k + 1) c3) X3) := hr
    clear oA hb Q1 hu0 hr hu ht hg hT0
    go_wp2_with fail
    refine hK.out _ _ hT1 ?_
    clear hK K
    try simp only [Act.put, PZ]
    refine wpAnyE_ready (rs := [4]) (by kernel_rfl) (by simp) ?_
    refine AllReadyE.cons rfl (fun K hK => ?_) AllReadyE.nil
    go_simp
    refine hK.out _ _ hT2 ?_
    clear hK K
    try simp only [Act.put, PZ]
    refine wpAnyE_ready (rs := [5]) (by kernel_rfl) (by simp) ?_
    refine AllReadyE.cons rfl (fun K hK => ?_) AllReadyE.nil
    refine wp_appE (by kernel_rfl) (some 27) rfl (.tmp 23) (.tmp 26) 63 _ _ _ rfl rfl rfl rfl HR3.out ?_
    refine hK.out _ _ hT3 ?_
    clear hK K hT2 HR3
    try simp only [Act.put, PZ]
    have hT0 := hT3
    refine takeE (i := 6) (some 28) (v := ?_) ?_ hT0 ?_
    rotate_left
    ·
     intro wx hSw
     go_simp
     try (with_reducible rfl)
    try simp only [Act.put, PZ]
    refine wpAnyE_ready (rs := [7]) (by kernel_rfl) (by simp) ?_
    refine AllReadyE.last rfl (fun K hK => ?_)
    refine wp_stE (by kernel_rfl) none rfl 63 (.tmp 28) (.tmp 27) rfl gB 2 rfl (.slice (some ⟨g1, 0, none⟩) (k + 1) c3) rfl 1 rfl 67 _ hT3 infoIss (Nat.le_of_ble_eq_true rfl) (by simp [Value.cells, Value.oneCell']) ?_
    intro X4 hP
    refine hK.out _ _ ?_
    clear hK K
    try simp only [Act.put, PZ]
    refine wpAnyE_done (by kernel_rfl) ?_ _
    have hlo : w.heap.size + 1 < X1.heap.size := blk_lt (HQ.out.2.2.up HA1.out.2).b
    have HN : Hid ((q.more k (some ⟨g1, 0, none⟩) c3 a1 c1).nU = k + 1 ∧ CpL w.heap.size gB l (q.more k (some ⟨g1, 0, none⟩) c3 a1 c1) X4 ∧ Two w l.cells zLane 67 X4) := ⟨rfl, HQ.out.2.1.more HQ.out.1 HA1.out.2 HQ.out.2.2.bel.size HA1.out.1 HN3.out.1 HN3.out.2.1 HN3.out.2.2 hP, ((HQ.out.2.2.up HA1.out.2).far HN3.out.2.1 (fun hg => (HQ.out.2.1.up HA1.out.2).own.u.notT (by decide) hg) (fun x hx => ((HQ.out.2.1.up HA1.out.2).own.u.blk x hx).1)).put hP HgB.out⟩
    clear hP hT0 hT1 hT3 HN3 HA1 HQ hlo
    go_wp2_with fail
    go_roundw
    case rel => exact ⟨k + 1, _, by omega, by go_num, HN⟩
    case measure => simp [intOf]; omega
   ·
    obtain rfl : k = l.nU := by omega
    obtain ⟨hq1, hq2, hq3⟩ := HQ.out
    have HL : Hid (∀ j, j < 8 → wr.cell? ⟨gB, 0 + j, none⟩ = q.cells[j]?) := fun j _ => by rw [Nat.zero_add]; exact blk_cell hq2.box j
    have HD : Hid (wr.heap[w.heap.size + 1]? = some (.cells zLane 67 (0, 0))) := hq3.b
    clear hq1 hq2 hq3
    go_wp2_with (first | refine wpList_ldT rfl 67 8 _ Tryz.underlying67 rfl infoLgI (.tmp 3) rfl gB 0 rfl q.cells rfl HL.out ?_ | refine wpList_stA rfl 67 (.tmp 2) (.tmp 30) rfl (w.heap.size + 1) 0 rfl (.agg q.cells) rfl 8 rfl 67 _ HD.out infoLgI (Nat.le_of_ble_eq_true rfl) (Lng.oneC _) ?_)
    intro X hP
    replace hP : Put wr X (w.heap.size + 1) q.cells 67 := hP.cast rfl
    have HK : Hid (X.heap[w.heap.size + 1]? = some (.cells q.cells 67 (0, 0))) := hP.blk
    have HF : Hid (AlikeL l q ∧ OwnLz X w.heap.size q ∧ Below w.heap.size w X) := ⟨⟨HQ.out.2.1.st, HQ.out.2.1.nT, HQ.out.2.1.t, HQ.out.1, HQ.out.2.1.ul, HQ.out.2.1.uz, HQ.out.2.1.r⟩, HQ.out.2.1.own.box HD.out (by decide) (by decide) hP.to, HQ.out.2.2.bel.trans (hP.to.below HQ.out.2.2.bel.size (fun x hx => by simp at hx; omega))⟩
    clear hP HL HD HQ
    go_wp2_with fail
    exact bodyPost_ret (res_cellT Tryz.results88 8 _ Tryz.underlying67 rfl infoLgI _ _ (w.heap.size + 1) q.cells rfl 67 HK.out rfl) rfl ⟨q, rfl, HF.out.1, HF.out.2.1, HF.out.2.2⟩
theorem VI.keepB {W W2 : World} {base : Nat} {a : Option Addr} {n : Nat} {f : Nat → Int} (h : VI W base a n f) (hk : ∀ x ∈ blkI a n, x < W.heap.size → W2.heap[x]? = W.heap[x]?) : VI W2 base a n f := by
 by_cases h0 : n = 0
 ·
  exact .inl h0
 rcases h with h1 | ⟨g, rfl, hg, hr⟩
 ·
  exact absurd h1 h0
 ·
  exact .inr ⟨g, rfl, hg, hr.keep (hk g (blkI_mem h0) hr.lt)⟩
structure Mk2 (R : Rnd) (w W : World) (E1 E2 : Option Nat) (Q D : Option (Option Addr)) (B : Option Nat) : Prop where
 below : Below w.heap.size w W
 e1 : ∀ g, E1 = some g → w.heap.size ≤ g ∧ W.heap[g]? = some (.cells #[] 2 (0, 0))
 e2 : ∀ g, E2 = some g → w.heap.size ≤ g ∧ W.heap[g]? = some (.cells #[] 2 (0, 0))
 ee : ∀ g g', E1 = some g → E2 = some g' → g ≠ g'
 q : ∀ a, Q = some a → VI W w.heap.size a R.nQ R.q
 d : ∀ a, D = some a → VI W w.heap.size a R.nD R.d
 qe : ∀ a g, Q = some a → E2 = some g → g ∉ blkI a R.nQ
 qd : ∀ a a', Q = some a → D = some a' → apartI a R.nQ a' R.nD
 b : ∀ g, B = some g → w.heap.size ≤ g ∧ W.heap[g]? = some (.cells zRound 65 (0, 0))
theorem Mk2.start {R : Rnd} {w W : World} (h : Below w.heap.size w W) : Mk2 R w W none none none none none :=
 ⟨h, fun _ e => by simp at e, fun _ e => by simp at e, fun _ _ e => by simp at e, fun _ e => by simp at e, fun _ e => by simp at e, fun _ _ e => by simp at e, fun _ _ e => by simp at e, fun _ e => by simp at e⟩
theorem Mk2.up {R : Rnd} {w W W' : World} {E1 E2 : Option Nat} {Q D : Option (Option Addr)} {B : Option Nat} (h : Mk2 R w W E1 E2 Q D B) (hb : Below W.heap.size W W') : Mk2 R w W' E1 E2 Q D B :=
 ⟨h.below.trans (hb.mono h.below.size), fun g e => ⟨(h.e1 g e).1, (hb.block _ (blk_lt (h.e1 g e).2)).trans (h.e1 g e).2⟩, fun g e => ⟨(h.e2 g e).1, (hb.block _ (blk_lt (h.e2 g e).2)).trans (h.e2 g e).2⟩, h.ee, fun a e => (h.q a e).up hb, fun a e => (h.d a e).up hb, h.qe, h.qd,
  fun g e => ⟨(h.b g e).1, (hb.block _ (blk_lt (h.b g e).2)).trans (h.b g e).2⟩⟩
theorem Mk2.runE1 {R : Rnd} {w W : World} {E2 : Option Nat} {Q D : Option (Option Addr)} {B : Option Nat} (h : Mk2 R w W none E2 Q D B) :
  ∃ g W', g = W.heap.size ∧ W' = W.alloc (.cells #[] 2) ∧ Mk2 R w W' (some g) E2 Q D B := by
 have h' := h.up (W' := W.alloc (.cells #[] 2)) ((Below.refl _ _).alloc (Nat.le_refl _) _)
 exact ⟨_, _, rfl, rfl, h'.below, fun g e => by cases e; exact ⟨h.below.size, blk_new _ _⟩, h'.e2, fun g g' e e' => by cases e; have := blk_lt (h.e2 g' e').2; omega, h'.q, h'.d, h'.qe, h'.qd, h'.b⟩
theorem Mk2.runE2 {R : Rnd} {w W : World} {E1 : Option Nat} {Q D : Option (Option Addr)} {B : Option Nat} (h : Mk2 R w W E1 none Q D B) :
  ∃ g W', g = W.heap.size ∧ W' = W.alloc (.cells #[] 2) ∧ Mk2 R w W' E1 (some g) Q D B := by
 have h' := h.up (W' := W.alloc (.cells #[] 2)) ((Below.refl _ _).alloc (Nat.le_refl _) _)
 exact ⟨_, _, rfl, rfl, h'.below, h'.e1, fun g e => by cases e; exact ⟨h.below.size, blk_new _ _⟩, fun g g' e e' => by cases e'; have := blk_lt (h.e1 g e).2; omega, h'.q, h'.d, fun a g e e' hx => by cases e'; have := ((h.q a e).blk _ hx).2; omega, h'.qd, h'.b⟩
theorem Mk2.runB {R : Rnd} {w W : World} {E1 E2 : Option Nat} {Q D : Option (Option Addr)} (h : Mk2 R w W E1 E2 Q D none) :
  ∃ g W', g = W.heap.size ∧ W' = W.alloc (.cells #[.slice none 0 0, .slice none 0 0, .int .i64 0, .bool false, .slice none 0 0] 65) ∧ Mk2 R w W' E1 E2 Q D (some g) := by
 have h' := h.up (W' := W.alloc (.cells zRound 65)) ((Below.refl _ _).alloc (Nat.le_refl _) _)
 exact ⟨_, _, rfl, rfl, h'.below, h'.e1, h'.e2, h'.ee, h'.q, h'.d, h'.qe, h'.qd, fun g e => by cases e; exact ⟨h.below.size, blk_new _ _⟩⟩
theorem box_ne {W : World} {g gE : Nat} {arr : Array Value} {t : TypeId} (ht : t ≠ 2) (h : W.heap[g]? = some (.cells arr t (0, 0))) (hE : W.heap[gE]? = some (.cells #[] 2 (0, 0))) : g ≠ gE := by
 rintro rfl
 rw [h] at hE
 simp at hE
 exact ht hE.2
theorem Mk2.runQ {R : Rnd} {w W : World} {E2 : Option Nat} {B : Option Nat} {g1 : Nat} {a : Option Addr} (c : Nat) (h : Mk2 R w W (some g1) E2 none none B) (hn : R.nQ ≤ 1048576) (hr : RdRow W a R.nQ fun i => .int .i64 (R.q i)) :
  ∃ aq cq W', (Builtin.append_ #[25, 25] 25 #[.slice (some ⟨g1, 0, none⟩) 0 0, .slice a R.nQ c]).run Tryz.prog W = .ok (.slice aq R.nQ cq) W' ∧ Mk2 R w W' none E2 (some aq) none B := by
 have hE := h.e1 g1 rfl
 obtain ⟨a', c', W', hrun, ho, hg, hp⟩ := appendA (c := c) (own_empty hE.1 hE.2) h.below.size hn hr
 have hk : ∀ k, k < W.heap.size → k ≠ g1 → W'.heap[k]? = W.heap[k]? := fun k hk hne => hg.block k hk (by simpa [Value.ownBlock] using hne)
 refine ⟨a', c', W', hrun, h.below.grown hg h.below.size (fun k e => by simp [Value.ownBlock] at e; rw [← e]; exact hE.1), fun _ e => by simp at e, fun g e => ⟨(h.e2 g e).1, (hk g (blk_lt (h.e2 g e).2) (h.ee g1 g rfl e).symm).trans (h.e2 g e).2⟩, fun _ _ e => by simp at e, fun a e => by cases e; exact ho.vi, fun _ e => by simp at e, fun a g e e' hx => ?_, fun _ _ _ e => by simp at e, fun g e => ⟨(h.b g e).1, (hk g (blk_lt (h.b g e).2) (box_ne (by decide) (h.b g e).2 hE.2)).trans (h.b g e).2⟩⟩
 cases e
 rcases hp g (blkI_sub hx) with h6 | h6
 ·
  simp [Value.ownBlock] at h6
  exact h.ee g1 g rfl e' h6.symm
 ·
  have := blk_lt (h.e2 g e').2
  omega
theorem Mk2.runD {R : Rnd} {w W : World} {B : Option Nat} {g2 : Nat} {a aq : Option Addr} (c : Nat) (h : Mk2 R w W none (some g2) (some aq) none B) (hn : R.nD ≤ 1048576) (hr : RdRow W a R.nD fun i => .int .i64 (R.d i)) :
  ∃ ad cd W', (Builtin.append_ #[25, 25] 25 #[.slice (some ⟨g2, 0, none⟩) 0 0, .slice a R.nD c]).run Tryz.prog W = .ok (.slice ad R.nD cd) W' ∧ Mk2 R w W' none none (some aq) (some ad) B := by
 have hE := h.e2 g2 rfl
 obtain ⟨a', c', W', hrun, ho, hg, hp⟩ := appendA (c := c) (own_empty hE.1 hE.2) h.below.size hn hr
 have hk : ∀ k, k < W.heap.size → k ≠ g2 → W'.heap[k]? = W.heap[k]? := fun k hk hne => hg.block k hk (by simpa [Value.ownBlock] using hne)
 refine ⟨a', c', W', hrun, h.below.grown hg h.below.size (fun k e => by simp [Value.ownBlock] at e; rw [← e]; exact hE.1), fun _ e => by simp at e, fun _ e => by simp at e, fun _ _ e => by simp at e, fun a e => by cases e; exact (h.q aq rfl).keepB (fun x hx hlt => hk x hlt (fun e => h.qe aq g2 rfl rfl (e ▸ hx))), fun a e => by cases e; exact ho.vi, fun _ _ _ e => by simp at e, fun a a2 e e' x hx hy => ?_, fun g e => ⟨(h.b g e).1, (hk g (blk_lt (h.b g e).2) (box_ne (by decide) (h.b g e).2 hE.2)).trans (h.b g e).2⟩⟩
 cases e
 cases e'
 rcases hp x (blkI_sub hy) with h6 | h6
 ·
  simp [Value.ownBlock] at h6
  exact h.qe aq g2 rfl rfl (h6 ▸ hx)
 ·
  have := ((h.q aq rfl).blk x hx).2
  omega
def slV (k : Nat) (A : Nat → Option Addr) (L C : Nat → Nat) : List Value := (List.range k).map fun i => .slice (A i) (L i) (C i)
theorem slV_push (k : Nat) (A : Nat → Option Addr) (L C : Nat → Nat) (a : Option Addr) (c : Nat) : slV k A L C ++ [.slice a (L k) c] = slV (k + 1) (fun i => if i = k then a else A i) L (fun i => if i = k then c else C i) := by
 unfold slV
 rw [List.range_succ, List.map_append]
 congr 1
 ·
  refine List.map_congr_left fun j hj => ?_
  have : j < k := List.mem_range.1 hj
  dsimp only
  rw [if_neg (show ¬ j = k by omega), if_neg (show ¬ j = k by omega)]
 ·
  simp
theorem VI.keepT {W W' : World} {base : Nat} {a : Option Addr} {n : Nat} {f : Nat → Int} (h : VI W base a n f) (hk : ∀ (g : Nat) (arr : Array Value), W.heap[g]? = some (.cells arr 2 (0, 0)) → W'.heap[g]? = some (.cells arr 2 (0, 0))) : VI W' base a n f :=
 h.imp id (by
  rintro ⟨g, ha, hg, arr, hb, hr⟩
  exact ⟨g, ha, hg, arr, hk g arr hb, hr⟩)
theorem OI.keepT {W W' : World} {base : Nat} {a : Option Addr} {n c : Nat} {f : Nat → Int} (h : OI W base a n c f) (hk : ∀ (g : Nat) (arr : Array Value), W.heap[g]? = some (.cells arr 2 (0, 0)) → W'.heap[g]? = some (.cells arr 2 (0, 0))) : OI W' base a n c f := by
 refine ⟨h.1, h.2.imp id ?_⟩
 rintro ⟨g, cap, cur, e, hg, hbk, hr⟩
 exact ⟨g, cap, cur, e, hg, hk g cur hbk, hr⟩
structure Cp2 (R : Rnd) (base : Nat) (W : World) (aQ aD av : Option Addr) (cv : Nat) (A : Nat → Option Addr) (C : Nat → Nat) (k : Nat) : Prop where
 q : VI W base aQ R.nQ R.q
 d : VI W base aD R.nD R.d
 s : W.ownsRow base 25 1 (.slice av k cv) k (slV k A R.L C)
 z : ∀ i, i < k → OI W base (A i) (R.L i) (C i) (R.z i)
 qd : apartI aQ R.nQ aD R.nD
 qz : ∀ i, i < k → ∀ x ∈ blkI aQ R.nQ, x ∉ blkO (A i)
 dz : ∀ i, i < k → ∀ x ∈ blkI aD R.nD, x ∉ blkO (A i)
 zz : ∀ i j, i < k → j < k → i ≠ j → ∀ x ∈ blkO (A i), x ∉ blkO (A j)
theorem own_form {w : World} {base n : Nat} {e : TypeId} {sz : Nat} {v : Value} {xs : List Value} (h : w.ownsRow base e sz v n xs) : ∃ a c, v = .slice a n c := by
 rcases h.2 with ⟨e, h0⟩ | ⟨g, cap, cur, e, _⟩
 ·
  subst h0
  exact ⟨_, _, e⟩
 ·
  exact ⟨_, _, e⟩
theorem Cp2.step {R : Rnd} {base : Nat} {W : World} {aQ aD av : Option Addr} {cv : Nat} {A : Nat → Option Addr} {C : Nat → Nat} {k : Nat} (h : Cp2 R base W aQ aD av cv A C k) (hk : k < 1048576) (hl : R.L k ≤ 1048576) (hb : base ≤ W.heap.size) (hr : RdRow (W.alloc (.cells #[] 2)) (R.A k) (R.L k) fun j => .int .i64 (R.z k j)) (cc : Nat) :
  ∃ a' c' W2 av' cv' W4, (Builtin.append_ #[25, 25] 25 #[.slice (some ⟨W.heap.size, 0, none⟩) 0 0, .slice (R.A k) (R.L k) cc]).run Tryz.prog (W.alloc (.cells #[] 2)) = .ok (.slice a' (R.L k) c') W2 ∧
   (Builtin.append_ #[63, 63] 63 #[.slice av k cv, .slice (some ⟨W2.heap.size, 0, none⟩) 1 1]).run Tryz.prog (W2.alloc (.cells #[.slice a' (R.L k) c'] 25)) = .ok (.slice av' (k + 1) cv') W4 ∧
   Cp2 R base W4 aQ aD av' cv' (fun i => if i = k then a' else A i) (fun i => if i = k then c' else C i) (k + 1) ∧ Below base W W4 ∧ Below W.heap.size W W2 ∧
   (∀ (g : Nat) (arr : Array Value) (t : TypeId), t ≠ 25 → W.heap[g]? = some (.cells arr t (0, 0)) → W4.heap[g]? = some (.cells arr t (0, 0))) := by
 have hA : Below W.heap.size W (W.alloc (.cells #[] 2)) := (Below.refl _ _).alloc (Nat.le_refl _) _
 have e1 : (W.alloc (.cells #[] 2)).heap.size = W.heap.size + 1 := by simp
 obtain ⟨a', c', W2, r1, ho, hg, hp⟩ := appendA (W := W.alloc (.cells #[] 2)) (base := W.heap.size) (c := cc) (own_empty (Nat.le_refl _) (blk_new W _)) (by omega) hl hr
 have B2 : Below W.heap.size W W2 := hA.grown hg (by omega) (fun x e => by simp [Value.ownBlock] at e; omega)
 have hA3 : Below W2.heap.size W2 (W2.alloc (.cells #[.slice a' (R.L k) c'] 25)) := (Below.refl _ _).alloc (Nat.le_refl _) _
 have e3 : (W2.alloc (.cells #[.slice a' (R.L k) c'] 25)).heap.size = W2.heap.size + 1 := by simp
 have B3 : Below W.heap.size W (W2.alloc (.cells #[.slice a' (R.L k) c'] 25)) := B2.trans (hA3.mono B2.size)
 obtain ⟨i0, hi, hz0, hz1, hz2⟩ := info_parts info22
 have hnew := blk_cell (blk_new W2 (.cells #[.slice a' (R.L k) c'] 25))
 obtain ⟨v', W4, r2, h2, h3, h4, h5⟩ := run_append_own_at (P := Tryz.prog) (W2.alloc (.cells #[.slice a' (R.L k) c'] 25)) base 63 63 25 i0 (.slice none 0 0) 1 24 Tryz.underlying63 hi hz0 hz1 hz2 rfl (by decide) (.slice av k cv) k (slV k A R.L C) (own_below h.s B3 (Nat.le_refl _)) ⟨W2.heap.size, 0, none⟩ 1 1 [.slice a' (R.L k) c'] rfl (fun j u hj => by
  have hj0 : j = 0 := by
   have := (List.getElem?_eq_some_iff.1 hj).1
   simp at this
   exact this
  subst hj0
  have e : (⟨W2.heap.size, 0, none⟩ : Addr).add 0 = ⟨W2.heap.size, 0, none⟩ := by unfold Addr.add; split <;> simp_all
  rw [e, hnew 0]
  simpa using hj) (fun u hu => by
  simp at hu
  subst hu
  rfl) (by unfold maxLen; omega) (by omega) (by have := B2.size; omega)
 rw [slV_push] at h2
 obtain ⟨av', cv', rfl⟩ := own_form h2
 have hty : ∀ x, (Value.slice av k cv).ownBlock = some x → base ≤ x ∧ ∃ arr, W.heap[x]? = some (.cells arr 25 (0, 0)) := fun x hx => by
  rcases h.s.2 with ⟨e, _⟩ | ⟨g, cap, cur, e, hg, hbk, _⟩
  ·
   rw [e] at hx
   simp [Value.ownBlock] at hx
  ·
   rw [e] at hx
   simp [Value.ownBlock] at hx
   subst hx
   exact ⟨hg, cur, hbk⟩
 have hkeep : ∀ (g : Nat) (arr : Array Value) (t : TypeId), t ≠ 25 → (W2.alloc (.cells #[.slice a' (R.L k) c'] 25)).heap[g]? = some (.cells arr t (0, 0)) → W4.heap[g]? = some (.cells arr t (0, 0)) := fun g arr t ht hgg => by
  refine (h3.block g (blk_lt hgg) (fun e => ?_)).trans hgg
  obtain ⟨_, arr', h'⟩ := hty g e.symm
  have h6 := (B3.block g (blk_lt h')).trans h'
  rw [hgg] at h6
  simp at h6
  exact ht h6.2
 have k2 : ∀ (g : Nat) (arr : Array Value), W.heap[g]? = some (.cells arr 2 (0, 0)) → W4.heap[g]? = some (.cells arr 2 (0, 0)) := fun g arr hgg => hkeep g arr 2 (by decide) ((B3.block g (blk_lt hgg)).trans hgg)
 have hoW : OI W4 W.heap.size a' (R.L k) c' (R.z k) := (ho.up hA3).keepT (fun g arr hgg => hkeep g arr 2 (by decide) hgg)
 refine ⟨a', c', W2, av', cv', W4, r1, r2, ⟨h.q.keepT k2, h.d.keepT k2, h2, fun i hi => ?_, h.qd, fun i hi => ?_, fun i hi => ?_, fun i j hi hj hne => ?_⟩, ?_, B2, fun g arr t ht hgg => hkeep g arr t ht ((B3.block g (blk_lt hgg)).trans hgg)⟩
 ·
  by_cases e : i = k
  ·
   subst e
   simp only [if_true]
   exact hoW.mono hb
  ·
   simp only [if_neg e]
   exact (h.z i (by omega)).keepT k2
 ·
  by_cases e : i = k
  ·
   subst e
   simp only [if_true]
   exact apart_oldO h.q hoW (Nat.le_refl _)
  ·
   simp only [if_neg e]
   exact h.qz i (by omega)
 ·
  by_cases e : i = k
  ·
   subst e
   simp only [if_true]
   exact apart_oldO h.d hoW (Nat.le_refl _)
  ·
   simp only [if_neg e]
   exact h.dz i (by omega)
 ·
  by_cases e : i = k
  ·
   subst e
   simp only [if_true, if_neg (Ne.symm hne)]
   exact fun x hx hy => apart_oldOO (h.z j (by omega)) hoW (Nat.le_refl _) x hy hx
  ·
   by_cases e2 : j = k
   ·
    subst e2
    simp only [if_true, if_neg e]
    exact apart_oldOO (h.z i (by omega)) hoW (Nat.le_refl _)
   ·
    simp only [if_neg e, if_neg e2]
    exact h.zz i j (by omega) (by omega) hne
 ·
  exact (B3.mono hb).grown h3 (by have := B2.size; omega) (fun x e => (hty x e).1)
theorem Cp2.up {R : Rnd} {base : Nat} {W W' : World} {aQ aD av : Option Addr} {cv : Nat} {A : Nat → Option Addr} {C : Nat → Nat} {k : Nat} (h : Cp2 R base W aQ aD av cv A C k) (hb : Below W.heap.size W W') : Cp2 R base W' aQ aD av cv A C k :=
 ⟨h.q.up hb, h.d.up hb, own_below h.s hb (Nat.le_refl _), fun i hi => (h.z i hi).up hb, h.qd, h.qz, h.dz, h.zz⟩
theorem Cp2.keepT {R : Rnd} {base : Nat} {W W' : World} {aQ aD av : Option Addr} {cv : Nat} {A : Nat → Option Addr} {C : Nat → Nat} {k : Nat} (h : Cp2 R base W aQ aD av cv A C k) (h2 : ∀ (g : Nat) (arr : Array Value), W.heap[g]? = some (.cells arr 2 (0, 0)) → W'.heap[g]? = some (.cells arr 2 (0, 0))) (h3 : ∀ (g : Nat) (arr : Array Value), W.heap[g]? = some (.cells arr 25 (0, 0)) → W'.heap[g]? = some (.cells arr 25 (0, 0))) : Cp2 R base W' aQ aD av cv A C k := by
 refine ⟨h.q.keepT h2, h.d.keepT h2, ⟨h.s.1, h.s.2.imp id ?_⟩, fun i hi => (h.z i hi).keepT h2, h.qd, h.qz, h.dz, h.zz⟩
 rintro ⟨g, cap, cur, e, hg, hbk, hr⟩
 exact ⟨g, cap, cur, e, hg, h3 g cur hbk, hr⟩
def Rnd.cp2 (R : Rnd) (aQ : Option Addr) (cQ : Nat) (aD : Option Addr) (cD : Nat) (av : Option Addr) (cv : Nat) (A : Nat → Option Addr) (C : Nat → Nat) : Rnd :=
 ⟨aQ, R.nQ, cQ, R.q, aD, R.nD, cD, R.d, R.turn, R.fresh, av, R.nS, cv, A, R.L, C, R.z⟩
theorem Cp2.own {R : Rnd} {base : Nat} {W : World} {aQ aD av : Option Addr} {cv : Nat} {A : Nat → Option Addr} {C : Nat → Nat} (h : Cp2 R base W aQ aD av cv A C R.nS) (cQ cD : Nat) : OwnRz W base (R.cp2 aQ cQ aD cD av cv A C) := by
 refine ⟨⟨h.q, h.d, ?_, fun i hi => (h.z i hi).vi, h.qd, fun i hi x hx hy => h.qz i hi x hx (blkI_sub hy), fun i hi x hx hy => h.dz i hi x hx (blkI_sub hy), fun i j hi hj hne x hx hy => h.zz i j hi hj hne x (blkI_sub hx) (blkI_sub hy)⟩, h.z, h.qz, h.dz, h.zz⟩
 rcases h.s.2 with ⟨_, h0⟩ | ⟨g, cap, cur, e, hg, hbk, hnc, hcm, hcs, htake⟩
 ·
  exact .inl h0
 ·
  injection e with e2
  refine .inr ⟨g, e2, hg, cur, hbk, by show R.nS ≤ _; omega, fun i hi => ?_⟩
  have hi' : i < R.nS := hi
  have e3 : (cur.toList.take (R.nS * 1))[i]? = some (.slice (A i) (R.L i) (C i)) := by rw [htake]; simp [slV, hi']
  rw [List.getElem?_take_of_lt (by omega)] at e3
  have e4 : cur[i]? = some (Value.slice (A i) (R.L i) (C i)) := by simpa using e3
  exact e4
end Go.Proofs.YtlipielghpoaoaaGreat
