import Derived.Test.YtfkpncopkgidfaaGreatN04
import Derived.Test.YtfkpncopkgidfaaGreatN15
import Derived.Test.YtfkpncopkgidfaaGreatN23
import Derived.Test.YtfkpncopkgidfaaGreatN24
import Derived.Test.YtfkpncopkgidfaaGreatN25
import Derived.Deep.Cut
import Derived.Deep.DeepCutAuto
import Derived.Maps.AppendAt
import Derived.Maps.OwnSet
import Derived.Room.AppendFits
namespace Go.Proofs.YtfkpncopkgidfaaGreat
open Go.RowKit
set_option linter.unusedVariables false
set_option linter.unusedSimpArgs false
set_option maxHeartbeats 4000000 in
theorem copyRound_any (R : Rnd) (w : World) (hs : R.Small) (h : RdRnd w R) :
  Calls Tryz.prog 168 #[.agg R.cells] w fun e w' => ∃ aq cq ad cd gS A C, e = .returned (.agg (R.cp aq cq ad cd gS A C).cells) ∧ OwnRz w' w.heap.size (R.cp aq cq ad cd gS A C) ∧ Below w.heap.size w w' := by
 obtain ⟨aQ, nQ, cQ, q, aD, nD, cD, d, turn, fresh, aS, nS, cS, A, L, C, z⟩ := R
 have HR : Hid (RdRnd w ⟨aQ, nQ, cQ, q, aD, nD, cD, d, turn, fresh, aS, nS, cS, A, L, C, z⟩) := h
 have HS : Hid (Rnd.Small ⟨aQ, nQ, cQ, q, aD, nD, cD, d, turn, fresh, aS, nS, cS, A, L, C, z⟩) := hs
 have mk := make_sls nS hs.s
 have hnS : (nS : Int) ≤ 1048576 := by have : nS ≤ 1048576 := hs.s; omega
 clear h hs
 unfold Rnd.cells
 dsimp only
 go_enter Tryz.func168, Tryz.ntmps168
 go_wp2_with fail
 have HA : Hid (∀ A B C, Below w.heap.size w (((w.alloc A).alloc B).alloc C)) := fun A B C => (((Below.refl _ _).alloc (Nat.le_refl _) _).alloc (by simp) _).alloc (by simp; omega) _
 have e3 : ∀ A B C, (((w.alloc A).alloc B).alloc C).heap.size = w.heap.size + 1 + 1 + 1 := fun A B C => by simp
 refine (copyOfA_any aQ nQ cQ q _ HS.out.q (HR.out.q.up (HA.out _ _ _))).mono ?_
 rintro e w1 ⟨aq, cq, rfl, hVo, hb1⟩
 have hV := hVo.vi
 clear hVo
 obtain ⟨kA, kB, kC, B1, z1⟩ := three_laidR hb1
 rw [e3] at hV
 have cA := blk_cell kA
 have cC := blk_cell kC
 have fC := blk_free kC
 clear hb1 HA
 go_wp2_with fail
 have ht : Touch [w.heap.size + 1 + 1] w1 (w1.setCell ⟨w.heap.size + 1 + 1, 0, none⟩ (.slice aq nQ cq)) := (Touch.refl _ _).set (by simp) 0 _
 have kA' := (ht.block _ (blk_lt kA) (by simp only [List.mem_singleton]; omega)).trans kA
 have kB' := (ht.block _ (blk_lt kB) (by simp only [List.mem_singleton]; omega)).trans kB
 have kC' : (w1.setCell ⟨w.heap.size + 1 + 1, 0, none⟩ (.slice aq nQ cq)).heap[w.heap.size + 1 + 1]? = some (.cells #[.slice aq nQ cq, .slice aD nD cD, .int .i64 turn, .bool fresh, .slice aS nS cS] 116 (0, 0)) := blk_set kC _
 have hV' := hV.touchS ht (fun x hx hx2 => by have := (hV.blk x hx).1; simp at hx2; omega)
 have B1' := B1.trans (ht.below B1.size (fun x hx => by simp at hx; omega))
 have z1' : (w.heap.size + 1 + 1 + 1) ≤ (w1.setCell ⟨w.heap.size + 1 + 1, 0, none⟩ (.slice aq nQ cq)).heap.size := by have := ht.size; omega
 clear kA kB kC cA cC fC hV B1 ht z1
 generalize w1.setCell ⟨w.heap.size + 1 + 1, 0, none⟩ (.slice aq nQ cq) = W at *
 refine (copyOfA_any aD nD cD d _ HS.out.d (HR.out.d.up B1')).mono ?_
 rintro e w2 ⟨ad, cd, rfl, hDo, hb2⟩
 have hD := hDo.vi
 clear hDo
 have hQD := apart_old hV' hD (Nat.le_refl _)
 have hV2 := hV'.up hb2
 have kA2 := (hb2.block _ (blk_lt kA')).trans kA'
 have kB2 := (hb2.block _ (blk_lt kB')).trans kB'
 have kC2 := (hb2.block _ (blk_lt kC')).trans kC'
 have B2 : Below w.heap.size w w2 := B1'.trans (hb2.mono B1'.size)
 have z2 : (w.heap.size + 1 + 1 + 1) ≤ w2.heap.size := Nat.le_trans z1' hb2.size
 replace hD := hD.mono z1'
 have cA := blk_cell kA2
 have cC := blk_cell kC2
 have fC := blk_free kC2
 clear hb2 kA' kB' kC' hV' B1' z1'
 have ht : Touch [w.heap.size + 1 + 1] w2 (w2.setCell ⟨w.heap.size + 1 + 1, 1, none⟩ (.slice ad nD cd)) := (Touch.refl _ _).set (by simp) 1 _
 have hA := (Below.refl (w2.setCell ⟨w.heap.size + 1 + 1, 1, none⟩ (.slice ad nD cd)).heap.size (w2.setCell ⟨w.heap.size + 1 + 1, 1, none⟩ (.slice ad nD cd))).alloc (Nat.le_refl _) (.cells (zSls nS) 25)
 have hz : (w2.setCell ⟨w.heap.size + 1 + 1, 1, none⟩ (.slice ad nD cd)).heap.size = w2.heap.size := by simp [World.setCell]
 have kC3 : (w2.setCell ⟨w.heap.size + 1 + 1, 1, none⟩ (.slice ad nD cd)).heap[w.heap.size + 1 + 1]? = some (.cells #[.slice aq nQ cq, .slice ad nD cd, .int .i64 turn, .bool fresh, .slice aS nS cS] 116 (0, 0)) := blk_set kC2 _
 have kC4 := (hA.block _ (blk_lt kC3)).trans kC3
 have kA4 := (hA.block _ (by rw [hz]; exact blk_lt kA2)).trans ((ht.block _ (blk_lt kA2) (by simp only [List.mem_singleton]; omega)).trans kA2)
 have kB4 := (hA.block _ (by rw [hz]; exact blk_lt kB2)).trans ((ht.block _ (blk_lt kB2) (by simp only [List.mem_singleton]; omega)).trans kB2)
 have kS4 := blk_new (w2.setCell ⟨w.heap.size + 1 + 1, 1, none⟩ (.slice ad nD cd)) (.cells (zSls nS) 25)
 rw [hz] at kS4
 have hV4 := (hV2.touchS ht (fun x hx hx2 => by have := (hV2.blk x hx).1; simp at hx2; omega)).up hA
 have hD4 := (hD.touchS ht (fun x hx hx2 => by have := (hD.blk x hx).1; simp at hx2; omega)).up hA
 have B3 := B2.trans (ht.below B2.size (fun x hx => by simp at hx; omega))
 have B4 := B3.trans (hA.mono B3.size)
 have cA4 := blk_cell kA4
 have cC4 := blk_cell kC4
 have fC4 := blk_free kC4
 clear ht hA kC3 kA2 kB2 kC2 hV2 hD B2 B3
 go_wp2_with fail
 have ht := (Touch.refl [w.heap.size + 1 + 1] ((w2.setCell ⟨w.heap.size + 1 + 1, 1, none⟩ (.slice ad nD cd)).alloc (.cells (zSls nS) 25))).set (g := w.heap.size + 1 + 1) (by simp) 4 (.slice (some ⟨w2.heap.size, 0, none⟩) nS nS)
 have HCp0 : Hid (Cp ⟨aQ, nQ, cQ, q, aD, nD, cD, d, turn, fresh, aS, nS, cS, A, L, C, z⟩ (w.heap.size + 1 + 1 + 1) (((w2.setCell ⟨w.heap.size + 1 + 1, 1, none⟩ (.slice ad nD cd)).alloc (.cells (zSls nS) 25)).setCell ⟨w.heap.size + 1 + 1, 4, none⟩ (.slice (some ⟨w2.heap.size, 0, none⟩) nS nS)) aq ad w2.heap.size A C 0) :=
  ⟨hV4.touchS ht (fun x hx hx2 => by have := (hV4.blk x hx).1; simp at hx2; omega), hD4.touchS ht (fun x hx hx2 => by have := (hD4.blk x hx).1; simp at hx2; omega),
   .inr ⟨_, rfl, z2, ((zSls_row kS4).keep (ht.block _ (blk_lt kS4) (by simp only [List.mem_singleton]; omega))).ext (fun i hi => by simp)⟩, fun i hi => by omega, hQD, fun i hi => by omega, fun i hi => by omega, fun i j hi => by omega⟩
 have HB0 : Hid (Below w.heap.size w (((w2.setCell ⟨w.heap.size + 1 + 1, 1, none⟩ (.slice ad nD cd)).alloc (.cells (zSls nS) 25)).setCell ⟨w.heap.size + 1 + 1, 4, none⟩ (.slice (some ⟨w2.heap.size, 0, none⟩) nS nS))) := B4.trans (ht.below B4.size (fun x hx => by simp at hx; omega))
 have kB5 := (ht.block _ (blk_lt kB4) (by simp only [List.mem_singleton]; omega)).trans kB4
 have kC5 : (((w2.setCell ⟨w.heap.size + 1 + 1, 1, none⟩ (.slice ad nD cd)).alloc (.cells (zSls nS) 25)).setCell ⟨w.heap.size + 1 + 1, 4, none⟩ (.slice (some ⟨w2.heap.size, 0, none⟩) nS nS)).heap[w.heap.size + 1 + 1]? = some (.cells #[.slice aq nQ cq, .slice ad nD cd, .int .i64 turn, .bool fresh, .slice (some ⟨w2.heap.size, 0, none⟩) nS nS] 116 (0, 0)) := blk_set kC4 _
 have HkB0 : Hid (_ = _) := kB5
 have HkC0 : Hid (_ = _) := kC5
 clear ht kB5 kC5 kA4 kB4 kC4 kS4 hV4 hD4 B4 cA4 cC4 fC4 cA cC fC hz hQD mk
 generalize ((w2.setCell ⟨w.heap.size + 1 + 1, 1, none⟩ (.slice ad nD cd)).alloc (.cells (zSls nS) 25)).setCell ⟨w.heap.size + 1 + 1, 4, none⟩ (.slice (some ⟨w2.heap.size, 0, none⟩) nS nS) = W5 at *
 generalize w2.heap.size = gS at *
 go_loopw [23] (fun i wr => ∃ (k : Nat) (A' : Nat → Option Addr) (C' : Nat → Nat), k ≤ nS ∧ i = .int .i64 k ∧ Cp ⟨aQ, nQ, cQ, q, aD, nD, cD, d, turn, fresh, aS, nS, cS, A, L, C, z⟩ (w.heap.size + 1 + 1 + 1) wr aq ad gS A' C' k ∧ Below w.heap.size w wr ∧ (w.heap.size + 1 + 1 + 1) ≤ wr.heap.size ∧ wr.heap[w.heap.size + 1]? = some (.cells #[.slice none 0 0, .slice none 0 0, .int .i64 0, .bool false, .slice none 0 0] 116 (0, 0)) ∧ wr.heap[w.heap.size + 1 + 1]? = some (.cells #[.slice aq nQ cq, .slice ad nD cd, .int .i64 turn, .bool fresh, .slice (some ⟨gS, 0, none⟩) nS nS] 116 (0, 0))) (fun i _ => nS - (intOf i).toNat)
 case atStart => exact ⟨0, A, C, Nat.zero_le _, rfl, HCp0.out, HB0.out, by have := blk_lt HkC0.out; omega, HkB0.out, HkC0.out⟩
 case round =>
  obtain ⟨k, A', C', hk, rfl, hCp, hB, hBs, hkB, hkC⟩ := hrel
  clear HCp0 HB0 HkB0 HkC0
  have HCp : Hid (Cp ⟨aQ, nQ, cQ, q, aD, nD, cD, d, turn, fresh, aS, nS, cS, A, L, C, z⟩ (w.heap.size + 1 + 1 + 1) wr aq ad gS A' C' k) := hCp
  have HB : Hid (Below w.heap.size w wr) := hB
  have HBs : Hid ((w.heap.size + 1 + 1 + 1) ≤ wr.drew.heap.size) := hBs
  have kBd : Hid (wr.drew.heap[w.heap.size + 1]? = some (.cells #[.slice none 0 0, .slice none 0 0, .int .i64 0, .bool false, .slice none 0 0] 116 (0, 0))) := hkB
  have kCd : Hid (wr.drew.heap[w.heap.size + 1 + 1]? = some (.cells #[.slice aq nQ cq, .slice ad nD cd, .int .i64 turn, .bool fresh, .slice (some ⟨gS, 0, none⟩) nS nS] 116 (0, 0))) := hkC
  clear hCp hB hBs
  by_cases hlt : k < nS
  ·
   have hlt' : (k : Int) < nS := by omega
   obtain ⟨gs, os, rfl, hc⟩ := (HR.out.s.up HB.out) k hlt
   dsimp only at hc
   clear hkB hkC
   go_wp2_with fail
   refine wp_region_held_drew (S := fun w' => w'.cell? ⟨w.heap.size + 1 + 1, 4, none⟩ = some (.slice (some ⟨gS, 0, none⟩) nS nS)) (by kernel_rfl) (blk_cell kCd.out 4) (fun hHeld => ?_)
   refine tC 0 28 (v := ?_) ?_ ?_
   rotate_left
   ·
    intro wx hSw
    try dsimp only at hSw
    go_simp
    try with_reducible rfl
   try simp only [Act.put, PZ]
   refine tC 1 29 (v := ?_) ?_ ?_
   rotate_left
   ·
    intro wx hSw
    try dsimp only at hSw
    go_simp
    try with_reducible rfl
   try simp only [Act.put, PZ]
   refine tC 2 30 (v := ?_) ?_ ?_
   rotate_left
   ·
    intro wx hSw
    try dsimp only at hSw
    go_simp
    try with_reducible rfl
   try simp only [Act.put, PZ]
   refine tC 3 31 (v := ?_) ?_ ?_
   rotate_left
   ·
    intro wx hSw
    try dsimp only at hSw
    go_simp
    try with_reducible rfl
   try simp only [Act.put, PZ]
   refine r1 4 (fun K hK => ?_)
   go_simp
   refine (copyOfA_any (A k) (L k) (C k) (z k) _ (HS.out.l k hlt) ((HR.out.z k hlt).up (HB.out.drew))).mono ?_
   rintro e w4 ⟨a', c', rfl, hv, hb⟩
   have hC0 := HCp.out.up (W' := wr.drew) ((Below.refl _ _).drew)
   have HCp4 : Hid (Cp ⟨aQ, nQ, cQ, q, aD, nD, cD, d, turn, fresh, some ⟨gs, os, none⟩, nS, cS, A, L, C, z⟩ (w.heap.size + 1 + 1 + 1) (w4.setCell ⟨gS, k, none⟩ (.slice a' (L k) c')) aq ad gS (fun i => if i = k then a' else A' i) (fun i => if i = k then c' else C' i) (k + 1)) := hC0.next (c' := c') hlt hb HBs.out hv
   have HB4 : Hid (Below w.heap.size w w4) := HB.out.drew.trans (hb.mono HB.out.size)
   have kB4 := (hb.block _ (blk_lt kBd.out)).trans kBd.out
   have kC4 := (hb.block _ (blk_lt kCd.out)).trans kCd.out
   have q4 : w4.cell? ⟨w.heap.size + 1 + 1, 4, none⟩ = some (.slice (some ⟨gS, 0, none⟩) nS nS) := blk_cell kC4 4
   have hrow : (w.heap.size + 1 + 1 + 1) ≤ gS ∧ (∃ x, w4.cell? ⟨gS, k, none⟩ = some x) ∧ w4.frozen? ⟨gS, k, none⟩ = false := by
    rcases hC0.s with h0 | ⟨g, hg, hbg, hr⟩
    ·
     exact absurd hlt (by rw [show nS = 0 from h0]; omega)
    ·
     cases hg
     exact ⟨hbg, (hr.keep (hb.block _ hr.lt)).there k hlt, (hr.keep (hb.block _ hr.lt)).free k⟩
   obtain ⟨hgS, ⟨xS, cS4⟩, fS4⟩ := hrow
   have HkB : Hid ((w4.setCell ⟨gS, k, none⟩ (.slice a' (L k) c')).heap[w.heap.size + 1]? = _) := (blk_set_ne (by omega) _).trans kB4
   have HkC : Hid ((w4.setCell ⟨gS, k, none⟩ (.slice a' (L k) c')).heap[w.heap.size + 1 + 1]? = _) := (blk_set_ne (by omega) _).trans kC4
   have HBn : Hid (Below w.heap.size w (w4.setCell ⟨gS, k, none⟩ (.slice a' (L k) c'))) := HB4.out.setCell (by show w.heap.size ≤ gS; omega) _
   have HBsn : Hid ((w.heap.size + 1 + 1 + 1) ≤ (w4.setCell ⟨gS, k, none⟩ (.slice a' (L k) c')).heap.size) := by
    have := blk_lt HkC.out
    show _ ≤ _
    omega
   have q4s : (w4.setCell ⟨gS, k, none⟩ (.slice a' (L k) c')).cell? ⟨w.heap.size + 1 + 1, 4, none⟩ = some (.slice (some ⟨gS, 0, none⟩) nS nS) := blk_cell HkC.out 4
   clear hv hb hC0 kB4 kC4
   go_wp2_with fail
   refine hK.out _ _ q4 (fun hHeld => ?_)
   clear hK K
   try simp only [Act.put, PZ]
   refine tC 5 33 (v := ?_) ?_ ?_
   rotate_left
   ·
    intro wx hSw
    try dsimp only at hSw
    go_simp
    try with_reducible rfl
   try simp only [Act.put, PZ]
   refine r1 6 (fun K hK => ?_)
   go_simp
   refine hK.out _ _ q4s (fun hHeld => ?_)
   clear hK K
   try simp only [Act.put, PZ]
   refine dn ?_
   go_wp2_with fail
   go_roundw
   case rel => exact ⟨k + 1, _, _, by omega, by go_num, HCp4.out, HBn.out, HBsn.out, HkB.out, HkC.out⟩
   case measure => simp [intOf]; omega
  ·
   obtain rfl : k = nS := by omega
   have cC := blk_cell hkC
   have cB := blk_cell hkB
   have fB := blk_free hkB
   go_wp2_with fail
   have ht := put5_touch wr (w.heap.size + 1) (.slice aq nQ cq) (.slice ad nD cd) (.int .i64 turn) (.bool fresh) (.slice (some ⟨gS, 0, none⟩) k k)
   have cF := blk_cell (put5_blk hkB (.slice aq nQ cq) (.slice ad nD cd) (.int .i64 turn) (.bool fresh) (.slice (some ⟨gS, 0, none⟩) k k))
   have hBf := HB.out.trans (ht.below HB.out.size (fun x hx => by simp at hx; omega))
   have hOf := ((HCp.out.own cq cd).touch ht (fun x hx => by simp at hx; omega)).mono (show w.heap.size ≤ (w.heap.size + 1 + 1 + 1) by omega)
   unfold put5 at cF hBf hOf
   exact bodyPost_ret (v := .agg (Rnd.cp ⟨aQ, nQ, cQ, q, aD, nD, cD, d, turn, fresh, aS, k, cS, A, L, C, z⟩ aq cq ad cd gS A' C').cells) (by simp [results, Tryz.results168, go_sem, cF, Rnd.cp, Rnd.cells]) rfl ⟨aq, cq, ad, cd, gS, A', C', rfl, hOf, hBf⟩
theorem cpL_alike {R : Rnd} {aq ad : Option Addr} {cq cd gS : Nat} {A : Nat → Option Addr} {C : Nat → Nat} : Alike R (R.cp aq cq ad cd gS A C) := ⟨rfl, rfl, rfl, rfl, rfl, rfl, rfl, rfl, rfl⟩
def zLane : Array Value := #[.bool false, .slice none 0 0, .slice none 0 0, .slice none 0 0, .slice none 0 0, .int .i64 0, .bool false, .slice none 0 0]
structure CpL (base gB : Nat) (l p : Lng) (W : World) : Prop where
 own : OwnLz W base p
 box : W.heap[gB]? = some (.cells p.cells 118 (0, 0))
 st : p.st = l.st
 nT : p.nT = l.nT
 t : p.t = l.t
 ul : p.uL = l.uL
 uz : p.uz = l.uz
 r : Alike l.R p.R
def CutL (w : World) (l : Lng) (v : Value) (wc : World) : Prop := ∃ gB p, v = .pointer (some ⟨gB, 0, none⟩) ∧ w.heap.size + 1 < gB ∧ p.nU = 0 ∧ p.aU = none ∧ p.cU = 0 ∧ CpL w.heap.size gB l p wc ∧ Two w l.cells zLane 118 wc
theorem CpL.up {base gB : Nat} {l p : Lng} {W W' : World} (h : CpL base gB l p W) (hb : Below W.heap.size W W') : CpL base gB l p W' :=
 ⟨h.own.up hb, (hb.block _ (blk_lt h.box)).trans h.box, h.st, h.nT, h.t, h.ul, h.uz, h.r⟩
theorem CpL.more {base gB k g c2 c : Nat} {l p : Lng} {a : Option Addr} {V V1 W W2 : World} (h : CpL base gB l p V) (hk : p.nU = k) (hb : Below V.heap.size V V1) (hbase : base ≤ V.heap.size) (ho : OI V1 V.heap.size a (l.uL k) c (l.uz k))
  (hu : OG 25 1 W base (some ⟨g, 0, none⟩) (k + 1) c2 (slsV k p.uA p.uL p.uC ++ [.slice a (l.uL k) c])) (ht : Touch (blkO p.aU) V1 W) (hg : g ∈ blkO p.aU ∨ V1.heap.size ≤ g) (hP : Put W W2 gB (lay p.cells 2 #[.slice (some ⟨g, 0, none⟩) (k + 1) c2]) 118) : CpL base gB l (p.more k (some ⟨g, 0, none⟩) c2 a c) W2 := by
 rw [← h.ul, ← h.uz] at ho
 rw [← h.ul] at hu
 have h1 := h.own.more hk hb hbase ho hu ht hg
 have hbx : W.heap[gB]? = some (.cells p.cells 118 (0, 0)) := by
  have e1 := (h.up hb).box
  refine (ht.block gB (blk_lt e1) ?_).trans e1
  exact (h.up hb).own.u.notT (by decide) e1
 exact ⟨h1.box hbx (by decide) (by decide) hP.to, hP.blk, h.st, h.nT, h.t, h.ul, h.uz, h.r⟩
theorem rdR {w : World} {g : Nat} {l : Lng} {t : TypeId} (h : w.heap[g]? = some (.cells l.cells t (0, 0))) : ∀ j, j < 5 → w.cell? ⟨g, 3 + j, none⟩ = l.R.cells[j]? := by
 intro j hj
 rw [blk_cell h]
 match j, hj with
 | 0, _ => rfl
 | 1, _ => rfl
 | 2, _ => rfl
 | 3, _ => rfl
 | 4, _ => rfl
theorem Two.far {w W W' : World} {A B : Array Value} {t : TypeId} {S : List Nat} (h : Two w A B t W) (ht : Touch S W W') (hn : ∀ {g : Nat} {cs : Array Value}, W.heap[g]? = some (.cells cs t (0, 0)) → g ∉ S) (hl : ∀ x ∈ S, w.heap.size ≤ x) : Two w A B t W' :=
 ⟨(ht.block _ (blk_lt h.a) (hn h.a)).trans h.a, (ht.block _ (blk_lt h.b) (hn h.b)).trans h.b, h.bel.trans (ht.below h.bel.size hl)⟩
theorem Two.put {w W W' : World} {A B C : Array Value} {t t' : TypeId} {g : Nat} (h : Two w A B t W) (hp : Put W W' g C t') (hg : w.heap.size + 1 < g) : Two w A B t W' :=
 ⟨(hp.to.block _ (blk_lt h.a) (by simp; omega)).trans h.a, (hp.to.block _ (blk_lt h.b) (by simp; omega)).trans h.b, h.bel.trans (hp.to.below h.bel.size (fun x hx => by simp at hx; omega))⟩
theorem cutOwn {V X : World} {base gB : Nat} {l : Lng} {aT aq ad : Option Addr} {cT cq cd gS : Nat} {A : Nat → Option Addr} {C : Nat → Nat} {cur : Array Value} (oT : OI V base aT l.nT cT l.t) (oR : OwnRz V base (l.R.cp aq cq ad cd gS A C)) (hTR : ∀ x ∈ blkO aT, x ∉ (l.R.cp aq cq ad cd gS A C).blkz)
  (kB : V.heap[gB]? = some (.cells cur 118 (0, 0))) (hP : Put V X gB (Lng.cells ⟨l.st, aT, l.nT, cT, l.t, none, 0, 0, fun _ => none, l.uL, fun _ => 0, l.uz, l.R.cp aq cq ad cd gS A C⟩) 118) : CpL base gB l ⟨l.st, aT, l.nT, cT, l.t, none, 0, 0, fun _ => none, l.uL, fun _ => 0, l.uz, l.R.cp aq cq ad cd gS A C⟩ X := by
 have h1 : OwnLz V base ⟨l.st, aT, l.nT, cT, l.t, none, 0, 0, fun _ => none, l.uL, fun _ => 0, l.uz, l.R.cp aq cq ad cd gS A C⟩ := by
  refine ⟨oT, OG.nil _ _ _ _, fun i hi => absurd hi (Nat.not_lt_zero _), oR, ?_, fun x hx hy => by simp [blkO] at hy⟩
  show ((blkO aT ++ _) ++ []).Nodup
  rw [List.append_nil]
  exact List.nodup_append.2 ⟨blkO_nodup _, oR.nd, fun x hx y hy e => hTR x hx (e ▸ hy)⟩
 exact ⟨h1.box kB (by decide) (by decide) hP.to, hP.blk, rfl, rfl, rfl, rfl, rfl, cpL_alike⟩
set_option maxRecDepth 100000 in
set_option maxHeartbeats 4000000 in
theorem copyLane_any (l : Lng) (w : World) (hs : l.Small) (h : RdLg w l) :
  Calls Tryz.prog 140 #[.agg l.cells] w fun e w' => ∃ l2, e = .returned (.agg l2.cells) ∧ AlikeL l l2 ∧ OwnLz w' w.heap.size l2 ∧ Below w.heap.size w w' := by
 have HR : Hid (RdLg w l) := h
 have HS : Hid l.Small := hs
 obtain ⟨W, eW⟩ : ∃ W, (w.alloc (.cells l.cells 118)).alloc (.cells #[.bool false, .slice none 0 0, .slice none 0 0, .slice none 0 0, .slice none 0 0, .int .i64 0, .bool false, .slice none 0 0] 118) = W := ⟨_, rfl⟩
 have HX : Hid (Two w l.cells zLane 118 W) := by rw [← eW]; exact Two.start _ _ _ _
 clear h hs
 go_enter Tryz.func140, Tryz.ntmps140
 go_wp2_with fail
 clear eW
 go_cut [3] (fun v wc => CutL w l v wc)
 case first =>
  replace HX : Hid (Two w l.cells zLane 118 W.drew) := HX.out.up ((Below.refl _ _).drew)
  have hz0 : w.heap.size + 1 < W.drew.heap.size := blk_lt HX.out.b
  refine wp_region_E (fun w' => w'.heap[w.heap.size]? = some (.cells l.cells 118 (0, 0))) 10 (by kernel_rfl) ?_
  generalize W.drew = V at *
  have hT0 := HX.out.a
  refine takeE (i := 0) (some 6) (v := ?_) ?_ hT0 ?_
  rotate_left
  ·
   intro wx hSw
   go_simp
   try with_reducible rfl
  try simp only [Act.put, PZ]
  refine takeE (i := 1) (some 7) (v := ?_) ?_ hT0 ?_
  rotate_left
  ·
   intro wx hSw
   have c0 : wx.cell? ⟨w.heap.size, 0, none⟩ = some (.bool l.st) := blk_cell hSw 0
   go_simp
   try with_reducible rfl
  try simp only [Act.put, PZ]
  refine takeE (i := 2) (some 8) (v := ?_) ?_ hT0 ?_
  rotate_left
  ·
   intro wx hSw
   go_simp
   try with_reducible rfl
  try simp only [Act.put, PZ]
  refine takeE (i := 3) (some 9) (v := ?_) ?_ hT0 ?_
  rotate_left
  ·
   intro wx hSw
   have c1 : wx.cell? ⟨w.heap.size, 1, none⟩ = some (.slice l.aT l.nT l.cT) := blk_cell hSw 1
   go_simp
   try with_reducible rfl
  try simp only [Act.put, PZ]
  refine takeE (i := 5) (some 11) (v := ?_) ?_ hT0 ?_
  rotate_left
  ·
   intro wx hSw
   go_simp
   try with_reducible rfl
  try simp only [Act.put, PZ]
  refine takeE (i := 6) (some 12) (v := .agg l.R.cells) ?_ hT0 ?_
  ·
   intro wx hSw
   exact run_ldT 116 5 _ Tryz.underlying116 rfl infoRn (.tmp 11) rfl w.heap.size 3 rfl l.R.cells rfl (fun j hj => rdR hSw j hj)
  try simp only [Act.put, PZ]
  refine wpAnyE_ready (rs := [4, 9]) (by kernel_rfl) (by simp) ?_
  refine AllReadyE.cons rfl (fun K hK => ?_) (AllReadyE.cons rfl (fun K hK => ?_) AllReadyE.nil)
  ·
   go_simp
   refine (copyOfA_any l.aT l.nT l.cT l.t _ HS.out.t (HR.out.t.up HX.out.bel)).mono ?_
   rintro e X1 ⟨aT, cT, rfl, oT, hb⟩
   replace oT := oT.mono (base' := w.heap.size) HX.out.bel.size
   have lT := OI.blk oT
   replace HX : Hid (Two w l.cells zLane 118 X1) := HX.out.up hb
   replace hT0 := HX.out.a
   have hz := (hb).size
   clear hb hz
   go_wp2_with fail
   refine hK.out _ _ hT0 ?_
   clear hK K
   try simp only [Act.put, PZ]
   refine wpAnyE_ready (rs := [7, 9]) (by kernel_rfl) (by simp) ?_
   refine AllReadyE.cons rfl (fun K hK => ?_) (AllReadyE.cons rfl (fun K hK => ?_) AllReadyE.nil)
   ·
    go_simp
    refine (copyRound_any l.R _ HS.out.r (HR.out.r.up HX.out.bel)).mono ?_
    rintro e X2 ⟨aq, cq, ad, cd, gS, A, C, rfl, oR, hb⟩
    have hTR : ∀ x ∈ blkO aT, x ∉ (l.R.cp aq cq ad cd gS A C).blkz := fun x hx hy => by have := (OI.blk oT x hx).2; have := (oR.blk x hy).1; omega
    replace oR := oR.monoZ (base' := w.heap.size) HX.out.bel.size
    replace HX : Hid (Two w l.cells zLane 118 X2) := HX.out.up hb
    replace hT0 := HX.out.a
    have hz := (hb).size
    replace oT := oT.up hb
    clear hb hz
    dsimp only [Rnd.cells, Rnd.cp]
    go_wp2_with fail
    refine hK.out _ _ hT0 ?_
    clear hK K
    try simp only [Act.put, PZ]
    refine takeE (i := 8) (some 14) (v := ?_) ?_ hT0 ?_
    rotate_left
    ·
     intro wx hSw
     go_simp
     try with_reducible rfl
    try simp only [Act.put, PZ]
    refine wpAnyE_ready (rs := [9]) (by kernel_rfl) (by simp) ?_
    refine AllReadyE.cons rfl (fun K hK => ?_) AllReadyE.nil
    ·
     obtain ⟨X3, eV⟩ : ∃ X, X2.alloc (.cells #[.bool false, .slice none 0 0, .slice none 0 0, .slice none 0 0, .slice none 0 0, .int .i64 0, .bool false, .slice none 0 0] 118) = X := ⟨_, rfl⟩
     have hb : Below X2.heap.size X2 X3 := by rw [← eV]; exact (Below.refl _ _).alloc (Nat.le_refl _) _
     have kB : X3.heap[X2.heap.size]? = some (.cells #[.bool false, .slice none 0 0, .slice none 0 0, .slice none 0 0, .slice none 0 0, .int .i64 0, .bool false, .slice none 0 0] 118 (0, 0)) := by rw [← eV]; exact blk_new _ _
     have hgB : w.heap.size + 1 < X2.heap.size := blk_lt HX.out.b
     go_simp
     clear eV
     replace HX : Hid (Two w l.cells zLane 118 X3) := HX.out.up hb
     replace hT0 := HX.out.a
     have hz := (hb).size
     replace oT := oT.up hb
     replace oR := oR.upZ hb
     clear hb hz
     obtain ⟨gB, eB⟩ : ∃ g, X2.heap.size = g := ⟨_, rfl⟩
     rw [eB] at kB hgB ⊢
     refine hK.out _ _ hT0 ?_
     clear hK K
     try simp only [Act.put, PZ]
     refine wpAnyE_ready (rs := [10]) (by kernel_rfl) (by simp) ?_
     refine AllReadyE.last rfl (fun K hK => ?_)
     refine wp_stE (by kernel_rfl) none rfl 118 (.tmp 3) (.tmp 14) rfl gB 0 rfl (.agg #[.bool l.st, .slice aT l.nT cT, .slice none 0 0, .slice aq l.R.nQ cq, .slice ad l.R.nD cd, .int .i64 l.R.turn, .bool l.R.fresh, .slice (some ⟨gS, 0, none⟩) l.R.nS l.R.nS]) rfl 8 rfl 118 _ kB infoLgI (Nat.le_of_ble_eq_true rfl) (by simp [Value.cells, Value.oneCell']) ?_
     intro X hP
     refine hK.out _ _ ?_
     clear hK K
     try simp only [Act.put, PZ]
     refine wpAnyE_done (by kernel_rfl) ?_ _
     obtain ⟨p, ep⟩ : ∃ p, (⟨l.st, aT, l.nT, cT, l.t, none, 0, 0, fun _ => none, l.uL, fun _ => 0, l.uz, l.R.cp aq cq ad cd gS A C⟩ : Lng) = p := ⟨_, rfl⟩
     replace hP : Put X3 X gB p.cells 118 := hP.cast (by rw [← ep]; rfl)
     have HC : Hid (CutL w l (.pointer (some ⟨gB, 0, none⟩)) X) := ⟨gB, p, rfl, hgB, by rw [← ep], by rw [← ep], by rw [← ep], by
      rw [← ep] at hP ⊢
      exact cutOwn oT oR hTR kB hP, ⟨(hP.to.block _ (blk_lt HX.out.a) (by simp; omega)).trans HX.out.a, (hP.to.block _ (blk_lt HX.out.b) (by simp; omega)).trans HX.out.b, HX.out.bel.trans (hP.to.below HX.out.bel.size (fun x hx => by simp at hx; omega))⟩⟩
     clear hP oT oR kB hTR HX hT0 ep
     go_wp2_with fail
     go_meet
     case rel => exact HC.out
   ·
    obtain ⟨X4, eV⟩ : ∃ X, X1.alloc (.cells #[.bool false, .slice none 0 0, .slice none 0 0, .slice none 0 0, .slice none 0 0, .int .i64 0, .bool false, .slice none 0 0] 118) = X := ⟨_, rfl⟩
    have hb : Below X1.heap.size X1 X4 := by rw [← eV]; exact (Below.refl _ _).alloc (Nat.le_refl _) _
    have kB : X4.heap[X1.heap.size]? = some (.cells #[.bool false, .slice none 0 0, .slice none 0 0, .slice none 0 0, .slice none 0 0, .int .i64 0, .bool false, .slice none 0 0] 118 (0, 0)) := by rw [← eV]; exact blk_new _ _
    have hgB : w.heap.size + 1 < X1.heap.size := blk_lt HX.out.b
    go_simp
    clear eV
    replace HX : Hid (Two w l.cells zLane 118 X4) := HX.out.up hb
    replace hT0 := HX.out.a
    have hz := (hb).size
    replace oT := oT.up hb
    clear hb hz
    obtain ⟨gB, eB⟩ : ∃ g, X1.heap.size = g := ⟨_, rfl⟩
    rw [eB] at kB hgB ⊢
    refine hK.out _ _ hT0 ?_
    clear hK K
    try simp only [Act.put, PZ]
    refine wpAnyE_ready (rs := [7]) (by kernel_rfl) (by simp) ?_
    refine AllReadyE.cons rfl (fun K hK => ?_) AllReadyE.nil
    ·
     go_simp
     refine (copyRound_any l.R _ HS.out.r (HR.out.r.up HX.out.bel)).mono ?_
     rintro e X5 ⟨aq, cq, ad, cd, gS, A, C, rfl, oR, hb⟩
     have hTR : ∀ x ∈ blkO aT, x ∉ (l.R.cp aq cq ad cd gS A C).blkz := fun x hx hy => by have := (OI.blk oT x hx).2; have := (oR.blk x hy).1; omega
     replace oR := oR.monoZ (base' := w.heap.size) HX.out.bel.size
     replace HX : Hid (Two w l.cells zLane 118 X5) := HX.out.up hb
     replace hT0 := HX.out.a
     have hz := (hb).size
     replace oT := oT.up hb
     replace kB := (hb.block _ (blk_lt kB)).trans kB
     clear hb hz
     dsimp only [Rnd.cells, Rnd.cp]
     go_wp2_with fail
     refine hK.out _ _ hT0 ?_
     clear hK K
     try simp only [Act.put, PZ]
     refine takeE (i := 8) (some 14) (v := ?_) ?_ hT0 ?_
     rotate_left
     ·
      intro wx hSw
      go_simp
      try with_reducible rfl
     try simp only [Act.put, PZ]
     refine wpAnyE_ready (rs := [10]) (by kernel_rfl) (by simp) ?_
     refine AllReadyE.last rfl (fun K hK => ?_)
     refine wp_stE (by kernel_rfl) none rfl 118 (.tmp 3) (.tmp 14) rfl gB 0 rfl (.agg #[.bool l.st, .slice aT l.nT cT, .slice none 0 0, .slice aq l.R.nQ cq, .slice ad l.R.nD cd, .int .i64 l.R.turn, .bool l.R.fresh, .slice (some ⟨gS, 0, none⟩) l.R.nS l.R.nS]) rfl 8 rfl 118 _ kB infoLgI (Nat.le_of_ble_eq_true rfl) (by simp [Value.cells, Value.oneCell']) ?_
     intro X hP
     refine hK.out _ _ ?_
     clear hK K
     try simp only [Act.put, PZ]
     refine wpAnyE_done (by kernel_rfl) ?_ _
     obtain ⟨p, ep⟩ : ∃ p, (⟨l.st, aT, l.nT, cT, l.t, none, 0, 0, fun _ => none, l.uL, fun _ => 0, l.uz, l.R.cp aq cq ad cd gS A C⟩ : Lng) = p := ⟨_, rfl⟩
     replace hP : Put X5 X gB p.cells 118 := hP.cast (by rw [← ep]; rfl)
     have HC : Hid (CutL w l (.pointer (some ⟨gB, 0, none⟩)) X) := ⟨gB, p, rfl, hgB, by rw [← ep], by rw [← ep], by rw [← ep], by
      rw [← ep] at hP ⊢
      exact cutOwn oT oR hTR kB hP, ⟨(hP.to.block _ (blk_lt HX.out.a) (by simp; omega)).trans HX.out.a, (hP.to.block _ (blk_lt HX.out.b) (by simp; omega)).trans HX.out.b, HX.out.bel.trans (hP.to.below HX.out.bel.size (fun x hx => by simp at hx; omega))⟩⟩
     clear hP oT oR kB hTR HX hT0 ep
     go_wp2_with fail
     go_meet
     case rel => exact HC.out
  ·
   obtain ⟨X6, eV⟩ : ∃ X, V.alloc (.cells #[.bool false, .slice none 0 0, .slice none 0 0, .slice none 0 0, .slice none 0 0, .int .i64 0, .bool false, .slice none 0 0] 118) = X := ⟨_, rfl⟩
   have hb : Below V.heap.size V X6 := by rw [← eV]; exact (Below.refl _ _).alloc (Nat.le_refl _) _
   have kB : X6.heap[V.heap.size]? = some (.cells #[.bool false, .slice none 0 0, .slice none 0 0, .slice none 0 0, .slice none 0 0, .int .i64 0, .bool false, .slice none 0 0] 118 (0, 0)) := by rw [← eV]; exact blk_new _ _
   have hgB : w.heap.size + 1 < V.heap.size := blk_lt HX.out.b
   go_simp
   clear eV
   replace HX : Hid (Two w l.cells zLane 118 X6) := HX.out.up hb
   replace hT0 := HX.out.a
   have hz := (hb).size
   clear hb hz
   obtain ⟨gB, eB⟩ : ∃ g, V.heap.size = g := ⟨_, rfl⟩
   rw [eB] at kB hgB ⊢
   refine hK.out _ _ hT0 ?_
   clear hK K
   try simp only [Act.put, PZ]
   refine wpAnyE_ready (rs := [4]) (by kernel_rfl) (by simp) ?_
   refine AllReadyE.cons rfl (fun K hK => ?_) AllReadyE.nil
   ·
    go_simp
    refine (copyOfA_any l.aT l.nT l.cT l.t _ HS.out.t (HR.out.t.up HX.out.bel)).mono ?_
    rintro e X7 ⟨aT, cT, rfl, oT, hb⟩
    replace oT := oT.mono (base' := w.heap.size) HX.out.bel.size
    have lT := OI.blk oT
    replace HX : Hid (Two w l.cells zLane 118 X7) := HX.out.up hb
    replace hT0 := HX.out.a
    have hz := (hb).size
    replace kB := (hb.block _ (blk_lt kB)).trans kB
    clear hb hz
    go_wp2_with fail
    refine hK.out _ _ hT0 ?_
    clear hK K
    try simp only [Act.put, PZ]
    refine wpAnyE_ready (rs := [7]) (by kernel_rfl) (by simp) ?_
    refine AllReadyE.cons rfl (fun K hK => ?_) AllReadyE.nil
    ·
     go_simp
     refine (copyRound_any l.R _ HS.out.r (HR.out.r.up HX.out.bel)).mono ?_
     rintro e X8 ⟨aq, cq, ad, cd, gS, A, C, rfl, oR, hb⟩
     have hTR : ∀ x ∈ blkO aT, x ∉ (l.R.cp aq cq ad cd gS A C).blkz := fun x hx hy => by have := (OI.blk oT x hx).2; have := (oR.blk x hy).1; omega
     replace oR := oR.monoZ (base' := w.heap.size) HX.out.bel.size
     replace HX : Hid (Two w l.cells zLane 118 X8) := HX.out.up hb
     replace hT0 := HX.out.a
     have hz := (hb).size
     replace oT := oT.up hb
     replace kB := (hb.block _ (blk_lt kB)).trans kB
     clear hb hz
     dsimp only [Rnd.cells, Rnd.cp]
     go_wp2_with fail
     refine hK.out _ _ hT0 ?_
     clear hK K
     try simp only [Act.put, PZ]
     refine takeE (i := 8) (some 14) (v := ?_) ?_ hT0 ?_
     rotate_left
     ·
      intro wx hSw
      go_simp
      try with_reducible rfl
     try simp only [Act.put, PZ]
     refine wpAnyE_ready (rs := [10]) (by kernel_rfl) (by simp) ?_
     refine AllReadyE.last rfl (fun K hK => ?_)
     refine wp_stE (by kernel_rfl) none rfl 118 (.tmp 3) (.tmp 14) rfl gB 0 rfl (.agg #[.bool l.st, .slice aT l.nT cT, .slice none 0 0, .slice aq l.R.nQ cq, .slice ad l.R.nD cd, .int .i64 l.R.turn, .bool l.R.fresh, .slice (some ⟨gS, 0, none⟩) l.R.nS l.R.nS]) rfl 8 rfl 118 _ kB infoLgI (Nat.le_of_ble_eq_true rfl) (by simp [Value.cells, Value.oneCell']) ?_
     intro X hP
     refine hK.out _ _ ?_
     clear hK K
     try simp only [Act.put, PZ]
     refine wpAnyE_done (by kernel_rfl) ?_ _
     obtain ⟨p, ep⟩ : ∃ p, (⟨l.st, aT, l.nT, cT, l.t, none, 0, 0, fun _ => none, l.uL, fun _ => 0, l.uz, l.R.cp aq cq ad cd gS A C⟩ : Lng) = p := ⟨_, rfl⟩
     replace hP : Put X8 X gB p.cells 118 := hP.cast (by rw [← ep]; rfl)
     have HC : Hid (CutL w l (.pointer (some ⟨gB, 0, none⟩)) X) := ⟨gB, p, rfl, hgB, by rw [← ep], by rw [← ep], by rw [← ep], by
      rw [← ep] at hP ⊢
      exact cutOwn oT oR hTR kB hP, ⟨(hP.to.block _ (blk_lt HX.out.a) (by simp; omega)).trans HX.out.a, (hP.to.block _ (blk_lt HX.out.b) (by simp; omega)).trans HX.out.b, HX.out.bel.trans (hP.to.below HX.out.bel.size (fun x hx => by simp at hx; omega))⟩⟩
     clear hP oT oR kB hTR HX hT0 ep
     go_wp2_with fail
     go_meet
     case rel => exact HC.out
 case rest =>
  obtain ⟨gB, p, rfl, hgB, hnU, haU, hcU, hC, hX⟩ := hcut
  have HC : Hid (CpL w.heap.size gB l p wc) := hC
  replace HX : Hid (Two w l.cells zLane 118 wc) := hX
  have HP0 : Hid (p.nU = 0) := hnU
  have HgB : Hid (w.heap.size + 1 < gB) := hgB
  clear hC hX hnU haU hcU hgB
  have HU : Hid (RdRow w l.aU l.nU fun i => .slice (l.uA i) (l.uL i) (l.uC i)) := HR.out.u
  obtain ⟨aU, eU⟩ : ∃ a, l.aU = a := ⟨_, rfl⟩
  have c2 : wc.cell? ⟨w.heap.size, 2, none⟩ = some (.slice aU l.nU l.cU) := by rw [← eU]; exact blk_cell HX.out.a 2
  rw [eU] at HU
  clear eU
  have hnu := HS.out.u
  go_wp2_with fail
  clear c2
  go_loopw [18] (fun i wr => ∃ (k : Nat) (q : Lng), k ≤ l.nU ∧ i = .int .i64 k ∧ Hid (q.nU = k ∧ CpL w.heap.size gB l q wr ∧ Two w l.cells zLane 118 wr)) (fun i _ => l.nU - (intOf i).toNat)
  case atStart => exact ⟨0, p, Nat.zero_le _, rfl, ⟨HP0.out, HC.out, HX.out⟩⟩
  case round =>
   clear HC HX
   obtain ⟨k, q, hk, rfl, HQ⟩ := hrel
   by_cases hlt : k < l.nU
   ·
    have hlt' : (k : Int) < l.nU := by omega
    obtain ⟨g0, o0, ea, hc0⟩ := (HU.out.up HQ.out.2.2.bel) k hlt
    subst ea
    dsimp only at hc0
    go_wp2_with fail
    refine wp_region_E (fun w' => w'.heap[gB]? = some (.cells q.cells 118 (0, 0))) 7 (by kernel_rfl) ?_
    have hd : Below wr.heap.size wr wr.drew := (Below.refl _ _).drew
    replace HQ : Hid (q.nU = k ∧ CpL w.heap.size gB l q wr.drew ∧ Two w l.cells zLane 118 wr.drew) := ⟨HQ.out.1, HQ.out.2.1.up hd, HQ.out.2.2.up hd⟩
    clear hd hc0
    generalize wr.drew = V at *
    have hT0 := HQ.out.2.1.box
    refine takeE (i := 0) (some 22) (v := ?_) ?_ hT0 ?_
    rotate_left
    ·
     intro wx hSw
     go_simp
     try with_reducible rfl
    try simp only [Act.put, PZ]
    refine takeE (i := 1) (some 23) (v := ?_) ?_ hT0 ?_
    rotate_left
    ·
     intro wx hSw
     have c2 : wx.cell? ⟨gB, 2, none⟩ = some (.slice q.aU k q.cU) := by rw [blk_cell hSw 2, ← HQ.out.1]; rfl
     go_simp
     try with_reducible rfl
    try simp only [Act.put, PZ]
    refine takeE (i := 2) (some 24) (v := ?_) ?_ hT0 ?_
    rotate_left
    ·
     intro wx hSw
     go_simp
     try with_reducible rfl
    try simp only [Act.put, PZ]
    refine wpAnyE_ready (rs := [3]) (by kernel_rfl) (by simp) ?_
    refine AllReadyE.cons rfl (fun K hK => ?_) AllReadyE.nil
    go_simp
    refine (copyOfA_any (l.uA k) (l.uL k) (l.uC k) (l.uz k) _ (HS.out.z k hlt) ((HR.out.z k hlt).up HQ.out.2.2.bel)).mono ?_
    rintro e X1 ⟨a1, c1, rfl, oA, hb⟩
    have HA1 : Hid (OI X1 V.heap.size a1 (l.uL k) c1 (l.uz k) ∧ Below V.heap.size V X1) := ⟨oA, hb⟩
    have Q1 := HQ.out.2.1.up hb
    have hu0 : OG 25 1 X1 w.heap.size q.aU k q.cU (slsV k q.uA q.uL q.uC) := by have := Q1.own.u; rw [HQ.out.1] at this; exact this
    obtain ⟨g1, c3, X3, hr, hu, ht, hg⟩ := appendOG 114 25 (.slice none 0 0) 1 24 info22 Tryz.underlying114 rfl (by decide) (by decide) hu0 (by omega) (Nat.le_trans HQ.out.2.2.bel.size hb.size) #[.slice a1 (l.uL k) c1] rfl (by simp [Value.oneCell'])
    have hT1 := Q1.box
    have hT2 : (X1.alloc (.cells #[.slice a1 (l.uL k) c1] 25)).heap[gB]? = some (.cells q.cells 118 (0, 0)) := (blk_old _ (blk_lt hT1)).trans hT1
    have hT3 : X3.heap[gB]? = some (.cells q.cells 118 (0, 0)) := (ht.block gB (blk_lt hT1) (hu0.notT (by decide) hT1)).trans hT1
    have HN3 : Hid (OG 25 1 X3 w.heap.size (some ⟨g1, 0, none⟩) (k + 1) c3 (slsV k q.uA q.uL q.uC ++ [.slice a1 (l.uL k) c1]) ∧ Touch (blkO q.aU) X1 X3 ∧ (g1 ∈ blkO q.aU ∨ X1.heap.size ≤ g1)) := ⟨hu, ht, hg⟩
    have HR3 : Hid ((Builtin.append_ #[114, 114] 114 #[.slice q.aU k q.cU, .slice (some ⟨X1.heap.size, 0, none⟩) 1 1]).run Tryz.prog (X1.alloc (.cells #[.slice a1 (l.uL k) c1] 25)) = .ok (.slice (some ⟨g1, 0, none⟩) (k + 1) c3) X3) := hr
    clear oA hb Q1 hu0 hr hu ht hg hT0
    go_wp2_with fail
    refine hK.out _ _ hT1 ?_
    clear hK K
    try simp only [Act.put, PZ]
    refine wpAnyE_ready (rs := [4]) (by kernel_rfl) (by simp) ?_
    refine AllReadyE.cons rfl (fun K hK => ?_) AllReadyE.nil
    go_simp
    refine hK.out _ _ hT2 ?_
    clear hK K
    try simp only [Act.put, PZ]
    refine wpAnyE_ready (rs := [5]) (by kernel_rfl) (by simp) ?_
    refine AllReadyE.cons rfl (fun K hK => ?_) AllReadyE.nil
    refine wp_appE (by kernel_rfl) (some 27) rfl (.tmp 23) (.tmp 26) 114 _ _ _ rfl rfl rfl rfl HR3.out ?_
    refine hK.out _ _ hT3 ?_
    clear hK K hT2 HR3
    try simp only [Act.put, PZ]
    have hT0 := hT3
    refine takeE (i := 6) (some 28) (v := ?_) ?_ hT0 ?_
    rotate_left
    ·
     intro wx hSw
     go_simp
     try with_reducible rfl
    try simp only [Act.put, PZ]
    refine wpAnyE_ready (rs := [7]) (by kernel_rfl) (by simp) ?_
    refine AllReadyE.last rfl (fun K hK => ?_)
    refine wp_stE (by kernel_rfl) none rfl 114 (.tmp 28) (.tmp 27) rfl gB 2 rfl (.slice (some ⟨g1, 0, none⟩) (k + 1) c3) rfl 1 rfl 118 _ hT3 infoIss (Nat.le_of_ble_eq_true rfl) (by simp [Value.cells, Value.oneCell']) ?_
    intro X4 hP
    refine hK.out _ _ ?_
    clear hK K
    try simp only [Act.put, PZ]
    refine wpAnyE_done (by kernel_rfl) ?_ _
    have hlo : w.heap.size + 1 < X1.heap.size := blk_lt (HQ.out.2.2.up HA1.out.2).b
    have HN : Hid ((q.more k (some ⟨g1, 0, none⟩) c3 a1 c1).nU = k + 1 ∧ CpL w.heap.size gB l (q.more k (some ⟨g1, 0, none⟩) c3 a1 c1) X4 ∧ Two w l.cells zLane 118 X4) := ⟨rfl, HQ.out.2.1.more HQ.out.1 HA1.out.2 HQ.out.2.2.bel.size HA1.out.1 HN3.out.1 HN3.out.2.1 HN3.out.2.2 hP, ((HQ.out.2.2.up HA1.out.2).far HN3.out.2.1 (fun hg => (HQ.out.2.1.up HA1.out.2).own.u.notT (by decide) hg) (fun x hx => ((HQ.out.2.1.up HA1.out.2).own.u.blk x hx).1)).put hP HgB.out⟩
    clear hP hT0 hT1 hT3 HN3 HA1 HQ hlo
    go_wp2_with fail
    go_roundw
    case rel => exact ⟨k + 1, _, by omega, by go_num, HN⟩
    case measure => simp [intOf]; omega
   ·
    obtain rfl : k = l.nU := by omega
    obtain ⟨hq1, hq2, hq3⟩ := HQ.out
    have HL : Hid (∀ j, j < 8 → wr.cell? ⟨gB, 0 + j, none⟩ = q.cells[j]?) := fun j _ => by rw [Nat.zero_add]; exact blk_cell hq2.box j
    have HD : Hid (wr.heap[w.heap.size + 1]? = some (.cells zLane 118 (0, 0))) := hq3.b
    clear hq1 hq2 hq3
    go_wp2_with (first | refine wpList_ldT rfl 118 8 _ Tryz.underlying118 rfl infoLgI (.tmp 3) rfl gB 0 rfl q.cells rfl HL.out ?_ | refine wpList_stA rfl 118 (.tmp 2) (.tmp 30) rfl (w.heap.size + 1) 0 rfl (.agg q.cells) rfl 8 rfl 118 _ HD.out infoLgI (Nat.le_of_ble_eq_true rfl) (Lng.oneC _) ?_)
    intro X hP
    replace hP : Put wr X (w.heap.size + 1) q.cells 118 := hP.cast rfl
    have HK : Hid (X.heap[w.heap.size + 1]? = some (.cells q.cells 118 (0, 0))) := hP.blk
    have HF : Hid (AlikeL l q ∧ OwnLz X w.heap.size q ∧ Below w.heap.size w X) := ⟨⟨HQ.out.2.1.st, HQ.out.2.1.nT, HQ.out.2.1.t, HQ.out.1, HQ.out.2.1.ul, HQ.out.2.1.uz, HQ.out.2.1.r⟩, HQ.out.2.1.own.box HD.out (by decide) (by decide) hP.to, HQ.out.2.2.bel.trans (hP.to.below HQ.out.2.2.bel.size (fun x hx => by simp at hx; omega))⟩
    clear hP HL HD HQ
    go_wp2_with fail
    exact bodyPost_ret (res_cellT Tryz.results140 8 _ Tryz.underlying118 rfl infoLgI _ _ (w.heap.size + 1) q.cells rfl 118 HK.out rfl) rfl ⟨q, rfl, HF.out.1, HF.out.2.1, HF.out.2.2⟩
def entD (x : Ent) : DataW Unit := .agg [.lit (.int .i64 x.m), .lit (.int .i64 x.p), .lit (.int .i64 x.t)]
def kv (x : Ent) : Lit × DataW Unit := (.int .i64 x.m, entD x)
def mD (L : List Ent) : DataW Unit := .map (L.map kv)
def entsL (n : Nat) (f : Nat → Ent) : List Ent := (List.range n).map f
theorem entsL_len (n : Nat) (f : Nat → Ent) : (entsL n f).length = n := by simp [entsL]
def cellsE (x : Ent) : List Value := [.int .i64 x.m, .int .i64 x.p, .int .i64 x.t]
def flatE (L : List Ent) : List Value := L.flatMap cellsE
theorem flatE_len : ∀ L : List Ent, (flatE L).length = L.length * 3
 | [] => rfl
 | x :: r => by
  have := flatE_len r
  unfold flatE at this ⊢
  simp [cellsE, this]; omega
theorem flatE_get : ∀ (L : List Ent) (i : Nat), i < L.length → (flatE L)[i * 3]? = some (.int .i64 (L.getD i default).m) ∧ (flatE L)[i * 3 + 1]? = some (.int .i64 (L.getD i default).p) ∧ (flatE L)[i * 3 + 2]? = some (.int .i64 (L.getD i default).t)
 | [], i, h => by simp at h
 | x :: r, 0, _ => by simp [flatE, cellsE]
 | x :: r, i + 1, h => by
  have hr := flatE_get r i (by simpa using h)
  have e : flatE (x :: r) = .int .i64 x.m :: .int .i64 x.p :: .int .i64 x.t :: flatE r := by simp [flatE, cellsE]
  rw [e, show (i + 1) * 3 = i * 3 + 1 + 1 + 1 by omega]
  simpa using hr
theorem oneE (x : Ent) : ∀ u ∈ cellsE x, u.oneCell' = true := by
 intro u hu
 simp [cellsE] at hu
 rcases hu with rfl | rfl | rfl <;> rfl
theorem appendNoneG {W : World} {v : Value} {c base : Nat} (t e : TypeId) (z : Value) (sz bytes : Nat) (hinfo : (Tryz.prog.info? e).map (fun i => (i.zero, i.size, i.bytes)) = some (some z, sz, bytes)) (hu : Tryz.prog.underlying t = some (.slice e)) (h : W.ownsRow base e sz v 0 []) :
  (Builtin.append_ #[t, t] t #[v, .slice none 0 c]).run Tryz.prog W = .ok v W := by
 obtain ⟨i0, hi, hz0, hz1, hz2⟩ := info_parts hinfo
 rcases h.2 with ⟨rfl, _⟩ | ⟨g, cap, cur, rfl, _⟩
 ·
  simp [Builtin.append_, run_underlying hu, sizeOf, typeInfo, hi, Builtin.lenOf, Builtin.firstCells, loadCells, loadCellsFrom]
 ·
  simp [Builtin.append_, run_underlying hu, sizeOf, typeInfo, hi, Builtin.lenOf, Builtin.firstCells, loadCells, loadCellsFrom, storeCells]
def RdCs (w : World) (a : Option Addr) (xs : List Value) : Prop := ∀ j u, xs[j]? = some u → ∃ g o, a = some ⟨g, o, none⟩ ∧ w.cell? ⟨g, o + j, none⟩ = some u
theorem RdCs.up {w w2 : World} {a : Option Addr} {xs : List Value} (h : RdCs w a xs) (hb : Below w.heap.size w w2) : RdCs w2 a xs := fun j u hj => by
 obtain ⟨g, o, ha, hc⟩ := h j u hj
 exact ⟨g, o, ha, (hb.cell (p := ⟨g, o + j, none⟩) (cellLt hc)).trans hc⟩
theorem appendRow {W : World} {base : Nat} {v : Value} {a : Option Addr} {n c : Nat} {xs : List Value} (t e : TypeId) (z : Value) (sz bytes : Nat) (hinfo : (Tryz.prog.info? e).map (fun i => (i.zero, i.size, i.bytes)) = some (some z, sz, bytes)) (hu : Tryz.prog.underlying t = some (.slice e)) (hz : z.cells.size = sz) (hsz : 0 < sz) (hby : bytes ≤ 1000)
  (h : W.ownsRow base e sz v 0 []) (hb : base ≤ W.heap.size) (hn : n ≤ 1048576) (hl : xs.length = n * sz) (hr : RdCs W a xs) (h1 : ∀ u ∈ xs, u.oneCell' = true) :
  ∃ a' c' W', (Builtin.append_ #[t, t] t #[v, .slice a n c]).run Tryz.prog W = .ok (.slice a' n c') W' ∧ OG e sz W' base a' n c' xs ∧ W.grownBy W' v.ownBlock := by
 have fin : ∀ (v' : Value) (W' : World), W'.ownsRow base e sz v' n xs → ∃ a' c', v' = .slice a' n c' ∧ OG e sz W' base a' n c' xs := by
  intro v' W' h2
  rcases h2.2 with ⟨e1, e2⟩ | ⟨g, cap, cur, e1, _⟩
  ·
   subst e1
   subst e2
   exact ⟨none, 0, rfl, h2⟩
  ·
   refine ⟨some ⟨g, 0, none⟩, cap, e1, ?_⟩
   rw [e1] at h2
   exact h2
 have hbb : (0 + n) * bytes ≤ 140737488355328 := by
  have := Nat.mul_le_mul (show 0 + n ≤ 1048577 by omega) hby
  omega
 obtain ⟨i0, hi, hz0, hz1, hz2⟩ := info_parts hinfo
 cases a with
 | none =>
  have hx : xs = [] := by
   cases xs with
   | nil => rfl
   | cons x r =>
    obtain ⟨g, o, ha, _⟩ := hr 0 x rfl
    cases ha
  subst hx
  have hl' : n * sz = 0 := hl.symm
  have h0 : n = 0 := (Nat.mul_eq_zero.1 hl').resolve_right (by omega)
  subst h0
  obtain ⟨a', c', rfl, hv⟩ := fin v W h
  exact ⟨a', c', W, appendNoneG t e z sz bytes hinfo hu h, hv, ⟨rfl, rfl, rfl, Nat.le_refl _, fun _ _ _ => rfl⟩⟩
 | some ad =>
  obtain ⟨v', W', hr', h2, h3, h4, h5⟩ := run_append_own_at (P := Tryz.prog) W base t t e i0 z sz bytes hu hi hz0 hz1 hz2 hz hsz v 0 [] h ad n c xs hl (fun j u hj => by
   obtain ⟨g, o, ha, hc⟩ := hr j u hj
   cases ha
   have e0 : (⟨g, o, none⟩ : Addr).add j = ⟨g, o + j, none⟩ := by unfold Addr.add; split <;> simp_all
   rw [e0]
   exact hc) h1 (by unfold maxLen; omega) hbb hb
  rw [Nat.zero_add, List.nil_append] at h2
  obtain ⟨a', c', rfl, hv⟩ := fin v' W' h2
  exact ⟨a', c', W', hr', hv, h3⟩
theorem appendRowNil {W : World} {a : Option Addr} {n c : Nat} {xs : List Value} (t e : TypeId) (z : Value) (sz bytes : Nat) (hinfo : (Tryz.prog.info? e).map (fun i => (i.zero, i.size, i.bytes)) = some (some z, sz, bytes)) (hu : Tryz.prog.underlying t = some (.slice e)) (hz : z.cells.size = sz) (hsz : 0 < sz) (hby : bytes ≤ 1000)
  (hn : n ≤ 1048576) (hl : xs.length = n * sz) (hr : RdCs W a xs) (h1 : ∀ u ∈ xs, u.oneCell' = true) :
  ∃ a' c' W', (Builtin.append_ #[t, t] t #[.slice none 0 0, .slice a n c]).run Tryz.prog W = .ok (.slice a' n c') W' ∧ OG e sz W' W.heap.size a' n c' xs ∧ Below W.heap.size W W' := by
 obtain ⟨a', c', W', h2, h3, h4⟩ := appendRow (c := c) t e z sz bytes hinfo hu hz hsz hby (World.ownsRow_nil W W.heap.size e sz) (Nat.le_refl _) hn hl hr h1
 exact ⟨a', c', W', h2, h3, (Below.refl _ _).grown h4 (Nat.le_refl _) (fun k e => by simp [Value.ownBlock] at e)⟩
theorem appendRowNew {V : World} {a : Option Addr} {n c : Nat} {xs : List Value} (t e : TypeId) (z : Value) (sz bytes : Nat) (hinfo : (Tryz.prog.info? e).map (fun i => (i.zero, i.size, i.bytes)) = some (some z, sz, bytes)) (hu : Tryz.prog.underlying t = some (.slice e)) (hz : z.cells.size = sz) (hsz : 0 < sz) (hby : bytes ≤ 1000)
  (hn : n ≤ 1048576) (hl : xs.length = n * sz) (hr : RdCs V a xs) (h1 : ∀ u ∈ xs, u.oneCell' = true) :
  ∃ a' c' W', (Builtin.append_ #[t, t] t #[.slice (some ⟨V.heap.size, 0, none⟩) 0 0, .slice a n c]).run Tryz.prog (V.alloc (.cells #[] e)) = .ok (.slice a' n c') W' ∧ OG e sz W' V.heap.size a' n c' xs ∧ Below V.heap.size V W' := by
 have hA : Below V.heap.size V (V.alloc (.cells #[] e)) := (Below.refl _ _).alloc (Nat.le_refl _) _
 have hm : (V.alloc (.cells #[] e)).ownsRow V.heap.size e sz (.slice (some ⟨V.heap.size, 0, none⟩) 0 0) 0 [] := World.ownsRow_made V #[] 0 (Nat.le_refl _) (Nat.zero_le _) (by simp)
 obtain ⟨a', c', W', h2, h3, h4⟩ := appendRow (c := c) t e z sz bytes hinfo hu hz hsz hby hm (by simp) hn hl (hr.up hA) h1
 exact ⟨a', c', W', h2, h3, hA.grown h4 (by simp) (fun k e => by simp [Value.ownBlock] at e; omega)⟩
def pksV (n : Nat) (K : Nat → Pkt) : List Value := (List.range n).flatMap fun i => (K i).cells.toList
theorem pksV_succ (n : Nat) (K : Nat → Pkt) : pksV (n + 1) K = pksV n K ++ (K n).cells.toList := by simp [pksV, List.range_succ]
theorem pksV_len (n : Nat) (K : Nat → Pkt) : (pksV n K).length = n * 8 := by
 induction n with
 | zero => rfl
 | succ n ih => rw [pksV_succ, List.length_append, ih, Array.length_toList, Pkt.cells_size]; omega
theorem pksV_get (n : Nat) (K : Nat → Pkt) (i j : Nat) (hi : i < n) (hj : j < 8) : (pksV n K)[i * 8 + j]? = (K i).cells[j]? := by
 induction n with
 | zero => omega
 | succ n ih =>
  rw [pksV_succ]
  by_cases e : i = n
  ·
   subst e
   rw [List.getElem?_append_right (by rw [pksV_len]; omega), pksV_len, show i * 8 + j - i * 8 = j by omega, Array.getElem?_toList]
  ·
   rw [List.getElem?_append_left (by rw [pksV_len]; omega)]
   exact ih (by omega)
theorem pksV_flat (n : Nat) (K : Nat → Pkt) (j : Nat) (hj : j < n * 8) : (pksV n K)[j]? = some (flatK K j) := by
 have h := pksV_get n K (j / 8) (j % 8) (by omega) (by omega)
 rw [show j / 8 * 8 + j % 8 = j by omega] at h
 rw [h, ← flatK_at K (j / 8) (j % 8) (by omega), show j / 8 * 8 + j % 8 = j by omega]
theorem pksV_one (n : Nat) (K : Nat → Pkt) : ∀ u ∈ pksV n K, u.oneCell' = true := by
 intro u hu
 unfold pksV at hu
 simp only [List.mem_flatMap, List.mem_range] at hu
 obtain ⟨i, _, hu⟩ := hu
 exact (Array.all_eq_true_iff_forall_mem.1 (Pkt.oneC (K i))) u (by simpa using hu)
theorem RdPk.cs {w : World} {a : Option Addr} {n : Nat} {K : Nat → Pkt} (h : RdPk w a n K) : RdCs w a (pksV n K) := by
 intro j u hj
 have hlt : j < n * 8 := by
  have := (List.getElem?_eq_some_iff.1 hj).1
  rwa [pksV_len] at this
 obtain ⟨g, o, ha, hc⟩ := h (j / 8) (by omega)
 refine ⟨g, o, ha, ?_⟩
 have h2 := hc (j % 8) (by omega)
 rw [show o + j / 8 * 8 + j % 8 = o + j by omega] at h2
 rw [h2, ← pksV_get n K (j / 8) (j % 8) (by omega) (by omega), show j / 8 * 8 + j % 8 = j by omega]
 exact hj
def lnsV (n : Nat) (L : Nat → Lng) : List Value := (List.range n).flatMap fun i => (L i).cells.toList
theorem lnsV_succ (n : Nat) (L : Nat → Lng) : lnsV (n + 1) L = lnsV n L ++ (L n).cells.toList := by simp [lnsV, List.range_succ]
theorem lnsV_len (n : Nat) (L : Nat → Lng) : (lnsV n L).length = n * 8 := by
 induction n with
 | zero => rfl
 | succ n ih => rw [lnsV_succ, List.length_append, ih, Array.length_toList, Lng.cells_size]; omega
theorem lnsV_ext {n : Nat} {L L' : Nat → Lng} (h : ∀ i, i < n → L i = L' i) : lnsV n L = lnsV n L' := by
 induction n with
 | zero => rfl
 | succ n ih => rw [lnsV_succ, lnsV_succ, ih (fun i hi => h i (by omega)), h n (by omega)]
theorem lnsV_get (n : Nat) (L : Nat → Lng) (i j : Nat) (hi : i < n) (hj : j < 8) : (lnsV n L)[i * 8 + j]? = (L i).cells[j]? := by
 induction n with
 | zero => omega
 | succ n ih =>
  rw [lnsV_succ]
  by_cases e : i = n
  ·
   subst e
   rw [List.getElem?_append_right (by rw [lnsV_len]; omega), lnsV_len, show i * 8 + j - i * 8 = j by omega, Array.getElem?_toList]
  ·
   rw [List.getElem?_append_left (by rw [lnsV_len]; omega)]
   exact ih (by omega)
theorem lnsV_flat (n : Nat) (L : Nat → Lng) (j : Nat) (hj : j < n * 8) : (lnsV n L)[j]? = some (flatG L j) := by
 have h := lnsV_get n L (j / 8) (j % 8) (by omega) (by omega)
 rw [show j / 8 * 8 + j % 8 = j by omega] at h
 rw [h, ← flatG_at L (j / 8) (j % 8) (by omega), show j / 8 * 8 + j % 8 = j by omega]
theorem RdEnt.cs {w : World} {a : Option Addr} {n : Nat} {f : Nat → Ent} (h : RdEnt w a n f) : RdCs w a (flatE (entsL n f)) := by
 intro j u hj
 have hlt : j < n * 3 := by
  have := (List.getElem?_eq_some_iff.1 hj).1
  rwa [flatE_len, entsL_len] at this
 have hg : ∀ i, i < n → (entsL n f).getD i default = f i := fun i hi => by simp [entsL, hi]
 obtain ⟨i, hm⟩ : ∃ i, j = i * 3 ∨ j = i * 3 + 1 ∨ j = i * 3 + 2 := ⟨j / 3, by omega⟩
 obtain ⟨g, o, ha, h1, h2, h3⟩ := h i (by omega)
 obtain ⟨q1, q2, q3⟩ := flatE_get (entsL n f) i (by rw [entsL_len]; omega)
 rw [hg _ (by omega)] at q1 q2 q3
 refine ⟨g, o, ha, ?_⟩
 rcases hm with e | e | e
 ·
  subst e
  rw [q1] at hj
  cases hj
  exact h1
 ·
  subst e
  rw [q2] at hj
  cases hj
  rw [← Nat.add_assoc]
  exact h2
 ·
  subst e
  rw [q3] at hj
  cases hj
  rw [← Nat.add_assoc]
  exact h3
theorem flatE_one (L : List Ent) : ∀ u ∈ flatE L, u.oneCell' = true := by
 intro u hu
 unfold flatE at hu
 simp only [List.mem_flatMap] at hu
 obtain ⟨x, _, hu⟩ := hu
 exact oneE x u hu
theorem flatE_flat (n : Nat) (f : Nat → Ent) (j : Nat) (hj : j < n * 3) : (flatE (entsL n f))[j]? = some (flat f j) := by
 have hg : ∀ i, i < n → (entsL n f).getD i default = f i := fun i hi => by simp [entsL, hi]
 obtain ⟨i, hm⟩ : ∃ i, j = i * 3 ∨ j = i * 3 + 1 ∨ j = i * 3 + 2 := ⟨j / 3, by omega⟩
 obtain ⟨q1, q2, q3⟩ := flatE_get (entsL n f) i (by rw [entsL_len]; omega)
 rw [hg _ (by omega)] at q1 q2 q3
 rcases hm with e | e | e
 ·
  subst e
  rw [q1, flat0]
 ·
  subst e
  rw [q2, flat1]
 ·
  subst e
  rw [q3, flat2]
def Lng.tops (l : Lng) : List Nat := blkO l.aU ++ blkI l.R.aS l.R.nS
theorem OwnLz.tnd {w : World} {base : Nat} {l : Lng} (h : OwnLz w base l) : l.tops.Nodup :=
 List.nodup_append.2 ⟨blkO_nodup _, blkI_nodup _ _, fun x hx y hy e => h.su y hy (e ▸ hx)⟩
theorem OwnLz.tblk {w : World} {base : Nat} {l : Lng} (h : OwnLz w base l) : ∀ x ∈ l.tops, base ≤ x ∧ x < w.heap.size := by
 intro x hx
 rcases List.mem_append.1 hx with hx | hx
 ·
  exact h.u.blk x hx
 ·
  exact (h.r.own.s.blkS x hx).1
structure OwnLs (w : World) (base : Nat) (aL : Option Addr) (nL cL : Nat) (L : Nat → Lng) : Prop where
 l : OG 118 8 w base aL nL cL (lnsV nL L)
 ls : ∀ i, i < nL → OwnLz w base (L i)
 nd : ((List.range nL).flatMap fun i => (L i).blkz).Nodup
 td : ((List.range nL).flatMap fun i => (L i).tops).Nodup
theorem OwnLs.up {w w' : World} {base : Nat} {aL : Option Addr} {nL cL : Nat} {L : Nat → Lng} (h : OwnLs w base aL nL cL L) (hb : Below w.heap.size w w') : OwnLs w' base aL nL cL L := ⟨h.l.up hb, fun i hi => (h.ls i hi).up hb, h.nd, h.td⟩
theorem OwnLs.box {w w' : World} {base g : Nat} {aL : Option Addr} {nL cL : Nat} {L : Nat → Lng} {cs : Array Value} {t : TypeId} (h : OwnLs w base aL nL cL L) (hg : w.heap[g]? = some (.cells cs t (0, 0))) (ht2 : t ≠ 2) (hts : t ≠ 25) (htl : 118 ≠ t) (ht : Touch [g] w w') : OwnLs w' base aL nL cL L :=
 ⟨h.l.touchS ht (fun x hx hy => h.l.notT htl hg ((List.mem_singleton.1 hy) ▸ hx)), fun i hi => (h.ls i hi).box hg ht2 hts ht, h.nd, h.td⟩
theorem OwnLs.nil (w : World) (base : Nat) (L : Nat → Lng) : OwnLs w base none 0 0 L := ⟨OG.nil _ _ _ _, fun i hi => absurd hi (Nat.not_lt_zero _), by simp, by simp⟩
theorem OwnLs.more {V V1 W : World} {base g c2 k cL : Nat} {aL : Option Addr} {L : Nat → Lng} {l2 : Lng} (h : OwnLs V base aL k cL L) (hb : Below V.heap.size V V1) (hbase : base ≤ V.heap.size) (ho : OwnLz V1 V.heap.size l2)
  (hu : OG 118 8 W base (some ⟨g, 0, none⟩) (k + 1) c2 (lnsV k L ++ l2.cells.toList)) (ht : Touch (blkO aL) V1 W) : OwnLs W base (some ⟨g, 0, none⟩) (k + 1) c2 (fun i => if i = k then l2 else L i) := by
 have h1 := h.up hb
 have far : ∀ {b : Nat} {l : Lng}, OwnLz V1 b l → OwnLz W b l := fun hl => hl.touch ht (fun x hx hy => by
   obtain ⟨cs, e1⟩ := hl.type2 x hx
   exact h1.l.notT (by decide) e1 hy) (fun x hx hy => by
   obtain ⟨cs, e1⟩ := hl.u.type x hx
   exact h1.l.notT (by decide) e1 hy) (fun x hx hy => by
   obtain ⟨_, cs, e1⟩ := hl.r.own.s.blkS x hx
   exact h1.l.notT (by decide) e1 hy)
 refine ⟨?_, fun i hi => ?_, ?_, ?_⟩
 ·
  rw [lnsV_succ, lnsV_ext (L' := L) (fun i hi => if_neg (by omega)), if_pos rfl]
  exact hu
 ·
  by_cases e : i = k
  ·
   rw [if_pos e]
   exact (far ho).mono hbase
  ·
   rw [if_neg e]
   exact far (h1.ls i (by omega))
 ·
  rw [List.range_succ, List.flatMap_append]
  simp only [List.flatMap_cons, List.flatMap_nil, List.append_nil, if_true]
  rw [range_flatMap_congrO (f := fun i => (if i = k then l2 else L i).blkz) (g := fun i => (L i).blkz) (fun i hi => by rw [if_neg (by omega)])]
  refine nodup_app h.nd ho.nd V.heap.size (fun x hx => ?_) (fun x hx => (ho.blk x hx).1)
  simp only [List.mem_flatMap, List.mem_range] at hx
  obtain ⟨i, hi, hx⟩ := hx
  exact ((h.ls i hi).blk x hx).2
 ·
  rw [List.range_succ, List.flatMap_append]
  simp only [List.flatMap_cons, List.flatMap_nil, List.append_nil, if_true]
  rw [range_flatMap_congrO (f := fun i => (if i = k then l2 else L i).tops) (g := fun i => (L i).tops) (fun i hi => by rw [if_neg (by omega)])]
  refine nodup_app h.td ho.tnd V.heap.size (fun x hx => ?_) (fun x hx => (ho.tblk x hx).1)
  simp only [List.mem_flatMap, List.mem_range] at hx
  obtain ⟨i, hi, hx⟩ := hx
  exact ((h.ls i hi).tblk x hx).2
structure OwnSz (w : World) (base : Nat) (S : Swg) : Prop where
 e : OG 109 3 w base S.aE S.nE S.cE (flatE (entsL S.nE S.e))
 n : OwnCn w base S.N
 k : OG 112 8 w base S.aK S.nK S.cK (pksV S.nK S.K)
 l : OwnLs w base S.aL S.nL S.cL S.L
 un : ∀ x ∈ blkV S.N.aU S.N.nU, x ∉ (List.range S.nL).flatMap fun i => (S.L i).blkz
theorem lz_sub (l : Lng) : ∀ x ∈ l.blks, x ∈ l.blkz := by
 intro x hx
 have hv : ∀ {a : Option Addr} {n : Nat}, x ∈ blkV a n → x ∈ blkO a := fun h => (blkV_sub _ _).subset h
 unfold Lng.blks at hx
 unfold Lng.blkz Rnd.blkz
 simp only [List.mem_append, blkS_mem, flO_mem] at hx ⊢
 rcases hx with hx | ⟨i, hi, hx⟩ | hx | hx | ⟨i, hi, hx⟩
 ·
  exact .inl (.inl (hv hx))
 ·
  exact .inr ⟨i, hi, hv hx⟩
 ·
  exact .inl (.inr (.inl hx))
 ·
  exact .inl (.inr (.inr (.inl hx)))
 ·
  exact .inl (.inr (.inr (.inr ⟨i, hi, hv hx⟩)))
theorem flat_nd {f g : Nat → List Nat} : ∀ n, ((List.range n).flatMap g).Nodup → (∀ i, i < n → (f i).Nodup) → (∀ i, i < n → ∀ x ∈ f i, x ∈ g i) → ((List.range n).flatMap f).Nodup := by
 intro n hg hf hs
 refine nodup_flat n hf (fun i j hi hj hne x hx hy => ?_)
 have : ∀ n, ((List.range n).flatMap g).Nodup → ∀ i j, i < j → j < n → ∀ x, x ∈ g i → x ∉ g j := by
  intro n
  induction n with
  | zero => intro _ i j _ hj; omega
  | succ n ih =>
   intro hn i j hij hj x h1 h2
   rw [List.range_succ, List.flatMap_append] at hn
   simp only [List.flatMap_cons, List.flatMap_nil, List.append_nil] at hn
   obtain ⟨n1, n2, n3⟩ := List.nodup_append.1 hn
   by_cases e : j = n
   ·
    subst e
    exact n3 x (by simp only [List.mem_flatMap, List.mem_range]; exact ⟨i, hij, h1⟩) x h2 rfl
   ·
    exact ih n1 i j hij (by omega) x h1 h2
 rcases Nat.lt_or_gt_of_ne hne with h | h
 ·
  exact this n hg i j h hj x (hs i hi x hx) (hs j hj x hy)
 ·
  exact this n hg j i h hi x (hs j hj x hy) (hs i hi x hx)
theorem OwnSz.g {w : World} {base : Nat} {S : Swg} (h : OwnSz w base S) : OwnSg w base S := by
 refine ⟨h.e.vt (fun i hi => flatE_flat _ _ i hi), h.n.u, h.n.p, h.k.vt (fun i hi => pksV_flat _ _ i hi), h.l.l.vt (fun i hi => lnsV_flat _ _ i hi), fun i hi => (h.l.ls i hi).g, ?_⟩
 refine List.nodup_append.2 ⟨blkV_nodup _ _, flat_nd _ h.l.nd (fun i hi => (h.l.ls i hi).g.nd) (fun i hi => lz_sub _), fun x hx y hy e => h.un x hx ?_⟩
 subst e
 simp only [List.mem_flatMap, List.mem_range] at hy ⊢
 obtain ⟨i, hi, hy⟩ := hy
 exact ⟨i, hi, lz_sub _ x hy⟩
end Go.Proofs.YtfkpncopkgidfaaGreat
