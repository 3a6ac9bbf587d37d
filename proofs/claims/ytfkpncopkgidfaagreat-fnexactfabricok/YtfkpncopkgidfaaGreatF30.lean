import Derived.Test.YtfkpncopkgidfaaGreatF23
import Derived.Test.YtfkpncopkgidfaaGreatF24
import Derived.Test.YtfkpncopkgidfaaGreatF28
namespace Go.Proofs.YtfkpncopkgidfaaGreat
open Go.RowKit
set_option linter.unusedVariables false
set_option linter.unusedSimpArgs false
def Fab.wayU (F : Fab) : Prop := F.nU ≤ 1000 ∧ ∀ i, i < F.nU → (F.U i).way F.S.C.p F.S.now F.S.C.dl ∧ (F.U i).fOk
def Fab.datU (F : Fab) : Prop := ∀ i, i < F.nU → (F.U i).frOk
theorem Fab.upOk_iff (F : Fab) : F.upOk ↔ F.wayU ∧ F.datU :=
 ⟨fun h => ⟨⟨h.1, fun i hi => ⟨(h.2 i hi).1, (h.2 i hi).2.2⟩⟩, fun i hi => (h.2 i hi).2⟩, fun h => ⟨h.1.1, fun i hi => ⟨(h.1.2 i hi).1, h.2 i hi⟩⟩⟩
set_option maxRecDepth 100000 in
set_option maxHeartbeats 4000000 in
theorem sFabricOk_any (F : Fab) (w : World) (hs : F.Small) (hr : RdFb w F) (ok : Bool) (hok : ok = true ↔ F.Ok) :
  Calls Tryz.prog 6 #[.agg F.cells] w fun e w' => e = .returned (.bool ok) ∧ Below w.heap.size w w' := by
 have HO : Hid (ok = true ↔ F.Ok) := hok
 have HR : Hid (RdFb w F) := hr
 have HS : Hid F.Small := hs
 have hnH : F.nH ≤ 1048576 := hs.h
 obtain ⟨W, eW⟩ : ∃ W, w.alloc (.cells F.cells 49) = W := ⟨_, rfl⟩
 have hB : Below (w.heap.size + 1) (w.alloc (.cells F.cells 49)) W := by rw [eW]; exact Below.refl _ _
 have HL : Hid (∀ j, j < 17 → W.cell? ⟨w.heap.size, 0 + j, none⟩ = F.S.cells[j]?) := blkSw (kept1 hB)
 have HB : Hid (Below (w.heap.size + 1) (w.alloc (.cells F.cells 49)) W) := hB
 clear hok hr hs hB
 obtain ⟨b0, h0⟩ := ok_decS (F.S.Ok)
 have G0 : Hid (b0 = true ↔ F.S.Ok) := h0
 clear h0
 obtain ⟨b1, h1⟩ := ok_decS (F.wayU)
 have G1 : Hid (b1 = true ↔ F.wayU) := h1
 clear h1
 obtain ⟨b2, h2⟩ := ok_decS (F.downOk)
 have G2 : Hid (b2 = true ↔ F.downOk) := h2
 clear h2
 obtain ⟨b3, h3⟩ := ok_decS (F.datU)
 have G3 : Hid (b3 = true ↔ F.datU) := h3
 clear h3
 go_enter Tryz.func6, Tryz.ntmps6
 go_wp2_with (refine wpList_ldT rfl 45 17 _ Tryz.underlying45 rfl infoSg (.tmp 4) rfl w.heap.size 0 rfl F.S.cells rfl HL.out ?_)
 clear eW HL
 refine (sSwitchOk_any F.S _ HS.out.s (HR.out.s.up (under HB.out)) b0 G0.out).mono ?_
 rintro e w1 ⟨rfl, hb⟩
 replace HB : Hid (Below (w.heap.size + 1) (w.alloc (.cells F.cells 49)) w1) := next HB.out hb
 clear hb
 cases b0
 ·
  have HF : Hid (ok = false) := by
   rw [Hid, Bool.eq_false_iff]
   intro e
   exact absurd (G0.out.2 ((HO.out.1 e).s)) (by simp)
  have B9 := under HB.out
  go_wp2_with fail
  go_ret
  exact ⟨ret_bool HF.out.symm, B9⟩
 have P0 : Hid F.S.Ok := G0.out.1 rfl
 have c17 : w1.cell? ⟨w.heap.size, 17, none⟩ = some (.slice F.aH F.nH F.cH) := blk_cell (kept1 HB.out) 17
 have c0 : w1.cell? ⟨w.heap.size, 0, none⟩ = some (.int .i64 F.S.C.p) := blk_cell (kept1 HB.out) 0
 have c18 : w1.cell? ⟨w.heap.size, 18, none⟩ = some (.slice F.aU F.nU F.cU) := blk_cell (kept1 HB.out) 18
 clear G0
 by_cases hn : (F.nH : Int) = F.S.C.p
 rotate_left
 ·
  have hn' : ((F.nH : Int) != F.S.C.p) = true := by simp [hn]
  have HF : Hid (ok = false) := by
   rw [Hid, Bool.eq_false_iff]
   intro e
   exact hn (HO.out.1 e).h.1
  have B9 := under HB.out
  clear hn
  go_wp2_with fail
  go_ret
  exact ⟨ret_bool HF.out.symm, B9⟩
 have hn' : ((F.nH : Int) != F.S.C.p) = false := by simp [hn]
 have HN : Hid ((F.nH : Int) = F.S.C.p) := hn
 clear hn
 have HL : Hid (∀ j, j < 20 → w1.cell? ⟨w.heap.size, 0 + j, none⟩ = F.cells[j]?) := blkT (kept1 HB.out) 20
 go_wp2_with (refine wpList_ldTg 49 20 _ Tryz.underlying49 rfl infoFb20 (.tmp 1) rfl (by kernel_rfl) w.heap.size 0 rfl F.cells rfl HL.out ?_)
 clear HL c17 c0 c18 hn'
 refine (l7Flights_any F F.aU F.nU F.cU F.U _ HS.out.u HS.out.bu P0.out.nums9.1 P0.out.nums9.2.1 P0.out.nums9.2.2 (HR.out.u.up (under HB.out)) b1 G1.out).mono ?_
 rintro e w2 ⟨rfl, hb⟩
 replace HB : Hid (Below (w.heap.size + 1) (w.alloc (.cells F.cells 49)) w2) := next HB.out hb
 clear hb
 cases b1
 ·
  have HF : Hid (ok = false) := by
   rw [Hid, Bool.eq_false_iff]
   intro e
   exact absurd (G1.out.2 (((F.upOk_iff).1 (HO.out.1 e).u).1)) (by simp)
  have B9 := under HB.out
  go_wp2_with fail
  go_ret
  exact ⟨ret_bool HF.out.symm, B9⟩
 have P1 : Hid F.wayU := G1.out.1 rfl
 have HL : Hid (∀ j, j < 20 → w2.cell? ⟨w.heap.size, 0 + j, none⟩ = F.cells[j]?) := blkT (kept1 HB.out) 20
 have c19 : w2.cell? ⟨w.heap.size, 19, none⟩ = some (.slice F.aD F.nD F.cD) := blk_cell (kept1 HB.out) 19
 clear G1
 go_wp2_with (refine wpList_ldTg 49 20 _ Tryz.underlying49 rfl infoFb20 (.tmp 1) rfl (by kernel_rfl) w.heap.size 0 rfl F.cells rfl HL.out ?_)
 clear HL c19
 refine (l7Flights_any F F.aD F.nD F.cD F.D _ HS.out.d HS.out.bd P0.out.nums9.1 P0.out.nums9.2.1 P0.out.nums9.2.2 (HR.out.d.up (under HB.out)) b2 G2.out).mono ?_
 rintro e w3 ⟨rfl, hb⟩
 replace HB : Hid (Below (w.heap.size + 1) (w.alloc (.cells F.cells 49)) w3) := next HB.out hb
 clear hb
 cases b2
 ·
  have HF : Hid (ok = false) := by
   rw [Hid, Bool.eq_false_iff]
   intro e
   exact absurd (G2.out.2 ((HO.out.1 e).d)) (by simp)
  have B9 := under HB.out
  go_wp2_with fail
  go_ret
  exact ⟨ret_bool HF.out.symm, B9⟩
 have P2 : Hid F.downOk := G2.out.1 rfl
 have c18 : w3.cell? ⟨w.heap.size, 18, none⟩ = some (.slice F.aU F.nU F.cU) := blk_cell (kept1 HB.out) 18
 clear G2
 go_wp2_with fail
 clear c18
 refine (l7Of_any F.aU F.nU F.cU F.U _ HS.out.u (HR.out.u.up (under HB.out))).mono ?_
 rintro e w4 ⟨a2, c2, rfl, hrd, hb⟩
 replace HB : Hid (Below (w.heap.size + 1) (w.alloc (.cells F.cells 49)) w4) := next HB.out hb
 have HD : Hid (RdF w4 a2 F.nU F.U) := hrd
 clear hb hrd
 go_wp2_with fail
 refine (l7Frames_any a2 F.nU c2 F.U _ HS.out.u HS.out.bu HD.out b3 G3.out).mono ?_
 rintro e w5 ⟨rfl, hb⟩
 replace HB : Hid (Below (w.heap.size + 1) (w.alloc (.cells F.cells 49)) w5) := next HB.out hb
 clear hb
 clear HD
 cases b3
 ·
  have HF : Hid (ok = false) := by
   rw [Hid, Bool.eq_false_iff]
   intro e
   exact absurd (G3.out.2 (((F.upOk_iff).1 (HO.out.1 e).u).2)) (by simp)
  have B9 := under HB.out
  go_wp2_with fail
  go_ret
  exact ⟨ret_bool HF.out.symm, B9⟩
 have P3 : Hid F.datU := G3.out.1 rfl
 clear G3
 go_wp2_with fail
 go_loopw [3] (fun i wr => ∃ k : Nat, k ≤ F.nH ∧ i = .int .i64 k ∧ (∀ i, i < k → (F.H i).Ok) ∧ Hid (Below (w.heap.size + 1) (w.alloc (.cells F.cells 49)) wr)) (fun i _ => F.nH - (intOf i).toNat)
 case atStart => exact ⟨0, Nat.zero_le _, rfl, fun i hi => by omega, HB⟩
 case round =>
  clear HB
  obtain ⟨k, hk, rfl, hall, HB⟩ := hrel
  have HA : Hid (∀ i, i < k → (F.H i).Ok) := hall
  have c17 : wr.cell? ⟨w.heap.size, 17, none⟩ = some (.slice F.aH F.nH F.cH) := blk_cell (kept1 HB.out) 17
  clear hall
  by_cases hlt : k < F.nH
  ·
   have hlt' : (k : Int) < F.nH := by omega
   obtain ⟨g, o, ea, hc⟩ := (HR.out.h.up (under HB.out)).at hlt
   have v1 : wr.cell? ⟨g, o + k * 3 + 1, none⟩ = some (.slice (F.H k).aO (F.H k).nO (F.H k).cO) := hc 1 (by omega)
   have HC : Hid (∀ j, j < 3 → wr.cell? ⟨g, o + k * 3 + j, none⟩ = (F.H k).cells[j]?) := hc
   have HEA : Hid (F.aH = some ⟨g, o, none⟩) := ea
   have HSk : Hid (F.H k).Small := HS.out.hs k hlt
   rw [ea] at c17
   clear ea hc
   obtain ⟨lk, hlk⟩ := ok_decS (∀ i, i < (F.H k).nO → ((F.H k).O i).frOk)
   have HLk : Hid (lk = true ↔ ∀ i, i < (F.H k).nO → ((F.H k).O i).frOk) := hlk
   obtain ⟨mk, hmk⟩ := ok_decS (∀ i, i < (F.H k).nG → ((F.H k).G i).frOk)
   have HM : Hid (mk = true ↔ ∀ i, i < (F.H k).nG → ((F.H k).G i).frOk) := hmk
   clear hlk hmk
   go_wp2_with fail
   clear c17 v1
   refine (l7Frames_any (F.H k).aO (F.H k).nO (F.H k).cO (F.H k).O _ HSk.out.o HSk.out.bo ((HR.out.hs k hlt).up (under HB.out)).o lk HLk.out).mono ?_
   rintro e w7 ⟨rfl, hb⟩
   replace HB : Hid (Below (w.heap.size + 1) (w.alloc (.cells F.cells 49)) w7) := next HB.out hb
   replace HC : Hid (∀ j, j < 3 → w7.cell? ⟨g, o + k * 3 + j, none⟩ = (F.H k).cells[j]?) := keepT rfl HC.out hb
   clear hb
   cases lk
   ·
    have HF : Hid (ok = false) := by
     rw [Hid, Bool.eq_false_iff]
     intro e
     exact absurd (HLk.out.2 ((HO.out.1 e).h.2 k hlt).o) (by simp)
    have B9 := under HB.out
    go_wp2_with fail
    go_ret
    exact ⟨ret_bool HF.out.symm, B9⟩
   have HL2 : Hid (∀ i, i < (F.H k).nO → ((F.H k).O i).frOk) := HLk.out.1 rfl
   have c17 : w7.cell? ⟨w.heap.size, 17, none⟩ = some (.slice (some ⟨g, o, none⟩) F.nH F.cH) := by rw [← HEA.out]; exact blk_cell (kept1 HB.out) 17
   have v1 : w7.cell? ⟨g, o + k * 3 + 1, none⟩ = some (.slice (F.H k).aO (F.H k).nO (F.H k).cO) := HC.out 1 (by omega)
   have v2 : w7.cell? ⟨g, o + k * 3 + 2, none⟩ = some (.slice (F.H k).aG (F.H k).nG (F.H k).cG) := HC.out 2 (by omega)
   clear HLk
   by_cases h40 : (F.H k).nO ≤ 40
   rotate_left
   ·
    have h40' : (40 : Int) < (F.H k).nO := by omega
    have HF : Hid (ok = false) := by
     rw [Hid, Bool.eq_false_iff]
     intro e
     exact h40 ((HO.out.1 e).h.2 k hlt).le
    have B9 := under HB.out
    clear h40
    go_wp2_with fail
    go_ret
    exact ⟨ret_bool HF.out.symm, B9⟩
   have h40' : ¬ (40 : Int) < (F.H k).nO := by omega
   have H40 : Hid ((F.H k).nO ≤ 40) := h40
   clear h40
   go_wp2_with fail
   clear c17 v1 v2
   refine (l7Frames_any (F.H k).aG (F.H k).nG (F.H k).cG (F.H k).G _ HSk.out.g HSk.out.bg ((HR.out.hs k hlt).up (under HB.out)).g mk HM.out).mono ?_
   rintro e w8 ⟨rfl, hb⟩
   replace HB : Hid (Below (w.heap.size + 1) (w.alloc (.cells F.cells 49)) w8) := next HB.out hb
   clear hb HC
   cases mk
   ·
    have HF : Hid (ok = false) := by
     rw [Hid, Bool.eq_false_iff]
     intro e
     exact absurd (HM.out.2 ((HO.out.1 e).h.2 k hlt).g) (by simp)
    have B9 := under HB.out
    go_wp2_with fail
    go_ret
    exact ⟨ret_bool HF.out.symm, B9⟩
   have HM2 : Hid (∀ i, i < (F.H k).nG → ((F.H k).G i).frOk) := HM.out.1 rfl
   clear HM
   go_wp2_with fail
   go_roundw
   case rel => exact ⟨k + 1, by omega, by go_num, fun i hi => by
    by_cases e : i = k
    ·
     subst e; exact ⟨H40.out, HL2.out, HM2.out⟩
    ·
     exact HA.out i (by omega), HB⟩
   case measure => simp [intOf]; omega
  ·
   obtain rfl : k = F.nH := by omega
   have hge : ¬ ((F.nH : Nat) : Int) < ((F.nH : Nat) : Int) := by omega
   have HT : Hid (ok = true) := HO.out.2 ⟨P0.out, ⟨HN.out, HA.out⟩, (F.upOk_iff).2 ⟨P1.out, P3.out⟩, P2.out⟩
   have B9 := under HB.out
   go_wp2_with fail
   go_ret
   exact ⟨ret_bool HT.out.symm, B9⟩
end Go.Proofs.YtfkpncopkgidfaaGreat
