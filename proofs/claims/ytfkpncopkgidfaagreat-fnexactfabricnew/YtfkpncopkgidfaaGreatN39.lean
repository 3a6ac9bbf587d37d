import Derived.Test.YtfkpncopkgidfaaGreatN22
import Derived.Test.YtfkpncopkgidfaaGreatN30
import Derived.Test.YtfkpncopkgidfaaGreatN32
import Derived.Test.YtfkpncopkgidfaaGreatN36
import Derived.Test.YtfkpncopkgidfaaGreatN37
namespace Go.Proofs.YtfkpncopkgidfaaGreat
open Go.RowKit
set_option linter.unusedVariables false
set_option linter.unusedSimpArgs false
def Fab.wayU (F : Fab) : Prop := F.nU ≤ 1000 ∧ ∀ i, i < F.nU → (F.U i).way F.S.C.p F.S.now F.S.C.dl ∧ (F.U i).fOk
def Fab.datU (F : Fab) : Prop := ∀ i, i < F.nU → (F.U i).frOk
theorem Fab.upOk_iff (F : Fab) : F.upOk ↔ F.wayU ∧ F.datU :=
 ⟨fun h => ⟨⟨h.1, fun i hi => ⟨(h.2 i hi).1, (h.2 i hi).2.2⟩⟩, fun i hi => (h.2 i hi).2⟩, fun h => ⟨h.1.1, fun i hi => ⟨(h.1.2 i hi).1, h.2 i hi⟩⟩⟩
set_option maxRecDepth 100000 in
set_option maxHeartbeats 4000000 in
theorem sFabricOk_any (F : Fab) (w : World) (hs : F.Small) (hr : RdFb w F) (ok : Bool) (hok : ok = true ↔ F.Ok) :
  Calls Tryz.prog 6 #[.agg F.cells] w fun e w' => e = .returned (.bool ok) ∧ Below w.heap.size w w' := by
 have HO : Hid (ok = true ↔ F.Ok) := hok
 have HR : Hid (RdFb w F) := hr
 have HS : Hid F.Small := hs
 have hnH : F.nH ≤ 1048576 := hs.h
 obtain ⟨W, eW⟩ : ∃ W, w.alloc (.cells F.cells 49) = W := ⟨_, rfl⟩
 have hB : Below (w.heap.size + 1) (w.alloc (.cells F.cells 49)) W := by rw [eW]; exact Below.refl _ _
 have HL : Hid (∀ j, j < 17 → W.cell? ⟨w.heap.size, 0 + j, none⟩ = F.S.cells[j]?) := blkSw (kept1 hB)
 have HB : Hid (Below (w.heap.size + 1) (w.alloc (.cells F.cells 49)) W) := hB
 clear hok hr hs hB
 obtain ⟨b0, h0⟩ := ok_decS (F.S.Ok)
 have G0 : Hid (b0 = true ↔ F.S.Ok) := h0
 clear h0
 obtain ⟨b1, h1⟩ := ok_decS (F.wayU)
 have G1 : Hid (b1 = true ↔ F.wayU) := h1
 clear h1
 obtain ⟨b2, h2⟩ := ok_decS (F.downOk)
 have G2 : Hid (b2 = true ↔ F.downOk) := h2
 clear h2
 obtain ⟨b3, h3⟩ := ok_decS (F.datU)
 have G3 : Hid (b3 = true ↔ F.datU) := h3
 clear h3
 go_enter Tryz.func6, Tryz.ntmps6
 go_wp2_with (refine wpList_ldT rfl 45 17 _ Tryz.underlying45 rfl infoSg (.tmp 4) rfl w.heap.size 0 rfl F.S.cells rfl HL.out ?_)
 clear eW HL
 refine (sSwitchOk_any F.S _ HS.out.s (HR.out.s.up (under HB.out)) b0 G0.out).mono ?_
 rintro e w1 ⟨rfl, hb⟩
 replace HB : Hid (Below (w.heap.size + 1) (w.alloc (.cells F.cells 49)) w1) := next HB.out hb
 clear hb
 cases b0
 ·
  have HF : Hid (ok = false) := by
   rw [Hid, Bool.eq_false_iff]
   intro e
   exact absurd (G0.out.2 ((HO.out.1 e).s)) (by simp)
  have B9 := under HB.out
  go_wp2_with fail
  go_ret
  exact ⟨ret_bool HF.out.symm, B9⟩
 have P0 : Hid F.S.Ok := G0.out.1 rfl
 have c17 : w1.cell? ⟨w.heap.size, 17, none⟩ = some (.slice F.aH F.nH F.cH) := blk_cell (kept1 HB.out) 17
 have c0 : w1.cell? ⟨w.heap.size, 0, none⟩ = some (.int .i64 F.S.C.p) := blk_cell (kept1 HB.out) 0
 have c18 : w1.cell? ⟨w.heap.size, 18, none⟩ = some (.slice F.aU F.nU F.cU) := blk_cell (kept1 HB.out) 18
 clear G0
 by_cases hn : (F.nH : Int) = F.S.C.p
 rotate_left
 ·
  have hn' : ((F.nH : Int) != F.S.C.p) = true := by simp [hn]
  have HF : Hid (ok = false) := by
   rw [Hid, Bool.eq_false_iff]
   intro e
   exact hn (HO.out.1 e).h.1
  have B9 := under HB.out
  clear hn
  go_wp2_with fail
  go_ret
  exact ⟨ret_bool HF.out.symm, B9⟩
 have hn' : ((F.nH : Int) != F.S.C.p) = false := by simp [hn]
 have HN : Hid ((F.nH : Int) = F.S.C.p) := hn
 clear hn
 have HL : Hid (∀ j, j < 20 → w1.cell? ⟨w.heap.size, 0 + j, none⟩ = F.cells[j]?) := blkT (kept1 HB.out) 20
 go_wp2_with (refine wpList_ldTg 49 20 _ Tryz.underlying49 rfl infoFb20 (.tmp 1) rfl (by kernel_rfl) w.heap.size 0 rfl F.cells rfl HL.out ?_)
 clear HL c17 c0 c18 hn'
 refine (l7Flights_any F F.aU F.nU F.cU F.U _ HS.out.u HS.out.bu P0.out.nums9.1 P0.out.nums9.2.1 P0.out.nums9.2.2 (HR.out.u.up (under HB.out)) b1 G1.out).mono ?_
 rintro e w2 ⟨rfl, hb⟩
 replace HB : Hid (Below (w.heap.size + 1) (w.alloc (.cells F.cells 49)) w2) := next HB.out hb
 clear hb
 cases b1
 ·
  have HF : Hid (ok = false) := by
   rw [Hid, Bool.eq_false_iff]
   intro e
   exact absurd (G1.out.2 (((F.upOk_iff).1 (HO.out.1 e).u).1)) (by simp)
  have B9 := under HB.out
  go_wp2_with fail
  go_ret
  exact ⟨ret_bool HF.out.symm, B9⟩
 have P1 : Hid F.wayU := G1.out.1 rfl
 have HL : Hid (∀ j, j < 20 → w2.cell? ⟨w.heap.size, 0 + j, none⟩ = F.cells[j]?) := blkT (kept1 HB.out) 20
 have c19 : w2.cell? ⟨w.heap.size, 19, none⟩ = some (.slice F.aD F.nD F.cD) := blk_cell (kept1 HB.out) 19
 clear G1
 go_wp2_with (refine wpList_ldTg 49 20 _ Tryz.underlying49 rfl infoFb20 (.tmp 1) rfl (by kernel_rfl) w.heap.size 0 rfl F.cells rfl HL.out ?_)
 clear HL c19
 refine (l7Flights_any F F.aD F.nD F.cD F.D _ HS.out.d HS.out.bd P0.out.nums9.1 P0.out.nums9.2.1 P0.out.nums9.2.2 (HR.out.d.up (under HB.out)) b2 G2.out).mono ?_
 rintro e w3 ⟨rfl, hb⟩
 replace HB : Hid (Below (w.heap.size + 1) (w.alloc (.cells F.cells 49)) w3) := next HB.out hb
 clear hb
 cases b2
 ·
  have HF : Hid (ok = false) := by
   rw [Hid, Bool.eq_false_iff]
   intro e
   exact absurd (G2.out.2 ((HO.out.1 e).d)) (by simp)
  have B9 := under HB.out
  go_wp2_with fail
  go_ret
  exact ⟨ret_bool HF.out.symm, B9⟩
 have P2 : Hid F.downOk := G2.out.1 rfl
 have c18 : w3.cell? ⟨w.heap.size, 18, none⟩ = some (.slice F.aU F.nU F.cU) := blk_cell (kept1 HB.out) 18
 clear G2
 go_wp2_with fail
 clear c18
 refine (l7Of_any F.aU F.nU F.cU F.U _ HS.out.u (HR.out.u.up (under HB.out))).mono ?_
 rintro e w4 ⟨a2, c2, rfl, hrd, hb⟩
 replace HB : Hid (Below (w.heap.size + 1) (w.alloc (.cells F.cells 49)) w4) := next HB.out hb
 have HD : Hid (RdF w4 a2 F.nU F.U) := hrd
 clear hb hrd
 go_wp2_with fail
 refine (l7Frames_any a2 F.nU c2 F.U _ HS.out.u HS.out.bu HD.out b3 G3.out).mono ?_
 rintro e w5 ⟨rfl, hb⟩
 replace HB : Hid (Below (w.heap.size + 1) (w.alloc (.cells F.cells 49)) w5) := next HB.out hb
 clear hb
 clear HD
 cases b3
 ·
  have HF : Hid (ok = false) := by
   rw [Hid, Bool.eq_false_iff]
   intro e
   exact absurd (G3.out.2 (((F.upOk_iff).1 (HO.out.1 e).u).2)) (by simp)
  have B9 := under HB.out
  go_wp2_with fail
  go_ret
  exact ⟨ret_bool HF.out.symm, B9⟩
 have P3 : Hid F.datU := G3.out.1 rfl
 clear G3
 go_wp2_with fail
 go_loopw [3] (fun i wr => ∃ k : Nat, k ≤ F.nH ∧ i = .int .i64 k ∧ (∀ i, i < k → (F.H i).Ok) ∧ Hid (Below (w.heap.size + 1) (w.alloc (.cells F.cells 49)) wr)) (fun i _ => F.nH - (intOf i).toNat)
 case atStart => exact ⟨0, Nat.zero_le _, rfl, fun i hi => by omega, HB⟩
 case round =>
  clear HB
  obtain ⟨k, hk, rfl, hall, HB⟩ := hrel
  have HA : Hid (∀ i, i < k → (F.H i).Ok) := hall
  have c17 : wr.cell? ⟨w.heap.size, 17, none⟩ = some (.slice F.aH F.nH F.cH) := blk_cell (kept1 HB.out) 17
  clear hall
  by_cases hlt : k < F.nH
  ·
   have hlt' : (k : Int) < F.nH := by omega
   obtain ⟨g, o, ea, hc⟩ := (HR.out.h.up (under HB.out)).at hlt
   have v1 : wr.cell? ⟨g, o + k * 3 + 1, none⟩ = some (.slice (F.H k).aO (F.H k).nO (F.H k).cO) := hc 1 (by omega)
   have HC : Hid (∀ j, j < 3 → wr.cell? ⟨g, o + k * 3 + j, none⟩ = (F.H k).cells[j]?) := hc
   have HEA : Hid (F.aH = some ⟨g, o, none⟩) := ea
   have HSk : Hid (F.H k).Small := HS.out.hs k hlt
   rw [ea] at c17
   clear ea hc
   obtain ⟨lk, hlk⟩ := ok_decS (∀ i, i < (F.H k).nO → ((F.H k).O i).frOk)
   have HLk : Hid (lk = true ↔ ∀ i, i < (F.H k).nO → ((F.H k).O i).frOk) := hlk
   obtain ⟨mk, hmk⟩ := ok_decS (∀ i, i < (F.H k).nG → ((F.H k).G i).frOk)
   have HM : Hid (mk = true ↔ ∀ i, i < (F.H k).nG → ((F.H k).G i).frOk) := hmk
   clear hlk hmk
   go_wp2_with fail
   clear c17 v1
   refine (l7Frames_any (F.H k).aO (F.H k).nO (F.H k).cO (F.H k).O _ HSk.out.o HSk.out.bo ((HR.out.hs k hlt).up (under HB.out)).o lk HLk.out).mono ?_
   rintro e w7 ⟨rfl, hb⟩
   replace HB : Hid (Below (w.heap.size + 1) (w.alloc (.cells F.cells 49)) w7) := next HB.out hb
   replace HC : Hid (∀ j, j < 3 → w7.cell? ⟨g, o + k * 3 + j, none⟩ = (F.H k).cells[j]?) := keepT rfl HC.out hb
   clear hb
   cases lk
   ·
    have HF : Hid (ok = false) := by
     rw [Hid, Bool.eq_false_iff]
     intro e
     exact absurd (HLk.out.2 ((HO.out.1 e).h.2 k hlt).o) (by simp)
    have B9 := under HB.out
    go_wp2_with fail
    go_ret
    exact ⟨ret_bool HF.out.symm, B9⟩
   have HL2 : Hid (∀ i, i < (F.H k).nO → ((F.H k).O i).frOk) := HLk.out.1 rfl
   have c17 : w7.cell? ⟨w.heap.size, 17, none⟩ = some (.slice (some ⟨g, o, none⟩) F.nH F.cH) := by rw [← HEA.out]; exact blk_cell (kept1 HB.out) 17
   have v1 : w7.cell? ⟨g, o + k * 3 + 1, none⟩ = some (.slice (F.H k).aO (F.H k).nO (F.H k).cO) := HC.out 1 (by omega)
   have v2 : w7.cell? ⟨g, o + k * 3 + 2, none⟩ = some (.slice (F.H k).aG (F.H k).nG (F.H k).cG) := HC.out 2 (by omega)
   clear HLk
   by_cases h40 : (F.H k).nO ≤ 40
   rotate_left
   ·
    have h40' : (40 : Int) < (F.H k).nO := by omega
    have HF : Hid (ok = false) := by
     rw [Hid, Bool.eq_false_iff]
     intro e
     exact h40 ((HO.out.1 e).h.2 k hlt).le
    have B9 := under HB.out
    clear h40
    go_wp2_with fail
    go_ret
    exact ⟨ret_bool HF.out.symm, B9⟩
   have h40' : ¬ (40 : Int) < (F.H k).nO := by omega
   have H40 : Hid ((F.H k).nO ≤ 40) := h40
   clear h40
   go_wp2_with fail
   clear c17 v1 v2
   refine (l7Frames_any (F.H k).aG (F.H k).nG (F.H k).cG (F.H k).G _ HSk.out.g HSk.out.bg ((HR.out.hs k hlt).up (under HB.out)).g mk HM.out).mono ?_
   rintro e w8 ⟨rfl, hb⟩
   replace HB : Hid (Below (w.heap.size + 1) (w.alloc (.cells F.cells 49)) w8) := next HB.out hb
   clear hb HC
   cases mk
   ·
    have HF : Hid (ok = false) := by
     rw [Hid, Bool.eq_false_iff]
     intro e
     exact absurd (HM.out.2 ((HO.out.1 e).h.2 k hlt).g) (by simp)
    have B9 := under HB.out
    go_wp2_with fail
    go_ret
    exact ⟨ret_bool HF.out.symm, B9⟩
   have HM2 : Hid (∀ i, i < (F.H k).nG → ((F.H k).G i).frOk) := HM.out.1 rfl
   clear HM
   go_wp2_with fail
   go_roundw
   case rel => exact ⟨k + 1, by omega, by go_num, fun i hi => by
    by_cases e : i = k
    ·
     subst e; exact ⟨H40.out, HL2.out, HM2.out⟩
    ·
     exact HA.out i (by omega), HB⟩
   case measure => simp [intOf]; omega
  ·
   obtain rfl : k = F.nH := by omega
   have hge : ¬ ((F.nH : Nat) : Int) < ((F.nH : Nat) : Int) := by omega
   have HT : Hid (ok = true) := HO.out.2 ⟨P0.out, ⟨HN.out, HA.out⟩, (F.upOk_iff).2 ⟨P1.out, P3.out⟩, P2.out⟩
   have B9 := under HB.out
   go_wp2_with fail
   go_ret
   exact ⟨ret_bool HT.out.symm, B9⟩
theorem NwF.cong {w1 : World} {G : Swg} {H H' : Nat → Hst} {gF : Nat} {aH : Option Addr} {k cH : Nat} {wr : World} (h : NwF w1 G H gF aH k cH wr) (e : ∀ i, i < k → H i = H' i) : NwF w1 G H' gF aH k cH wr :=
 ⟨h.c, by rw [← tV_ext (c := fun i => (H i).cells) (c' := fun i => (H' i).cells) (fun i hi => by show (H i).cells = (H' i).cells; rw [e i hi])]; exact h.oh, h.b, h.lt⟩
theorem OwnSw.low {w w' : World} {base g : Nat} {b : Nat → Nat} {S : Sw} {T : List Nat} (h : OwnSw w base g b S) (ht : Touch T w w') (hT : ∀ x ∈ T, x < base) : OwnSw w' base g b S :=
 ⟨h.n.touch ht hT, h.bb, h.l.touchLo ht (fun x hx => Nat.lt_of_lt_of_le (hT x hx) h.bb), h.a, h.z⟩
structure NwS (w1 : World) (G : Swg) (R : Rws) (gF : Nat) (H : Nat → Hst) (aH : Option Addr) (k cH : Nat) (wr : World) : Prop where
 n : NwF w1 G H gF aH k cH wr
 a : ∀ i, i < k → AlikeH (hostM R i) (H i)
 o : ∀ i, i < k → OG 110 5 wr w1.heap.size (H i).aO (H i).nO (H i).cO (tV (H i).nO fun j => ((H i).O j).frame)
theorem NwS.up {w1 : World} {G : Swg} {R : Rws} {gF : Nat} {H : Nat → Hst} {aH : Option Addr} {k cH : Nat} {wr w' : World} (h : NwS w1 G R gF H aH k cH wr) (hb : Below wr.heap.size wr w') : NwS w1 G R gF H aH k cH w' :=
 ⟨⟨(hb.block _ (blk_lt h.n.c)).trans h.n.c, h.n.oh.up hb, h.n.b.trans (hb.mono h.n.b.size), h.n.lt⟩, h.a, fun i hi => (h.o i hi).up hb⟩
theorem NwS.more {w1 : World} {G : Swg} {R : Rws} {gF : Nat} {H : Nat → Hst} {aH : Option Addr} {k cH : Nat} {V X X3 X4 : World} {g1 c3 c2 : Nat} {a2 : Option Addr} (h : NwS w1 G R gF H aH k cH V) (hb : Below V.heap.size V X)
  (ho : OG 110 5 X V.heap.size a2 (R.L k) c2 (tV (R.L k) fun j => (R.F k j).frame))
  (hu : OG 73 3 X3 w1.heap.size (some ⟨g1, 0, none⟩) (k + 1) c3 (tV k (fun i => (H i).cells) ++ (#[.bool false, .slice a2 (R.L k) c2, .slice none 0 0] : Array Value).toList)) (ht : Touch (blkO aH) X X3) (hP : Put X3 X4 gF (nF G H (some ⟨g1, 0, none⟩) (k + 1) c3).cells 49) :
  NwS w1 G R gF (fun i => if i = k then ⟨false, a2, R.L k, c2, R.F k, none, 0, 0, fun _ => pk0⟩ else H i) (some ⟨g1, 0, none⟩) (k + 1) c3 X4 := by
 have e : ∀ i, i < k → H i = (if i = k then (⟨false, a2, R.L k, c2, R.F k, none, 0, 0, fun _ => pk0⟩ : Hst) else H i) := fun i hi => by rw [if_neg (by omega)]
 have hty := (h.n.oh.up hb).type
 have cX := (hb.block _ (blk_lt h.n.c)).trans h.n.c
 have c3' := (ht.block _ (blk_lt cX) ((h.n.oh.up hb).notT (by decide) cX)).trans cX
 refine ⟨(h.n.cong e).more hb ?_ ht hP, fun i hi => ?_, fun i hi => ?_⟩
 ·
  rw [tV_ext (c := fun i => (if i = k then (⟨false, a2, R.L k, c2, R.F k, none, 0, 0, fun _ => pk0⟩ : Hst) else H i).cells) (c' := fun i => (H i).cells) (fun i hi => by show (if i = k then (⟨false, a2, R.L k, c2, R.F k, none, 0, 0, fun _ => pk0⟩ : Hst) else H i).cells = _; rw [if_neg (by omega)])]
  rw [if_pos rfl]
  exact hu
 ·
  by_cases e2 : i = k
  ·
   subst e2
   simp only [if_true]
   exact ⟨rfl, rfl, rfl, rfl, rfl⟩
  ·
   simp only [if_neg e2]
   exact h.a i (by omega)
 ·
  by_cases e2 : i = k
  ·
   subst e2
   simp only [if_true]
   exact ((ho.farT ht hty (by decide)).farT hP.to (typ1 c3') (by decide)).mono h.n.b.size
  ·
   simp only [if_neg e2]
   exact (((h.o i (by omega)).up hb).farT ht hty (by decide)).farT hP.to (typ1 c3') (by decide)
set_option maxRecDepth 100000 in
set_option maxHeartbeats 4000000 in
theorem sFabricNew_any (C : Cfg) (n : Nat) (R : Rws) (w : World) (hp : 2 ≤ C.p ∧ C.p ≤ 4 → C.p = (n : Int)) (hs : R.Small) (h : RdRws w R) (ok : Bool) (hok : ok = true ↔ C.Ok ∧ (newF C n R).Ok) :
  Calls Tryz.prog 11 #[.agg C.cells, .slice R.a R.n R.c] w fun e w' => ∃ F2, e = .returned (.tuple #[.agg F2.cells, .bool ok]) ∧ AlikeF (if ok = true then newF C n R else zeroF) F2 ∧ RdFb w' F2 ∧ Below w.heap.size w w' := by
 have HO : Hid (ok = true ↔ C.Ok ∧ (newF C n R).Ok) := hok
 have HR : Hid (RdRws w R) := h
 have HS : Hid R.Small := hs
 have hnR := hs.n
 obtain ⟨okC, hC⟩ := ok_decS C.Ok
 have HC : Hid (okC = true ↔ C.Ok) := hC
 have HPp : Hid (2 ≤ C.p ∧ C.p ≤ 4 → C.p = (n : Int)) := hp
 obtain ⟨W0, eW⟩ : ∃ W, (w.alloc (.cells C.cells 39)).alloc (.cells zFb 49) = W := ⟨_, rfl⟩
 have HB : Hid (Below (w.heap.size + 2) ((w.alloc (.cells C.cells 39)).alloc (.cells zFb 49)) W0) := by rw [eW]; exact Below.refl _ _
 have HL : Hid (∀ j, j < 7 → W0.cell? ⟨w.heap.size, 0 + j, none⟩ = C.cells[j]?) := blkT (box2 HB.out).1 7
 clear hok h hs hC hp
 unfold zFb at eW
 go_enter Tryz.func11, Tryz.ntmps11
 go_wp2_with (refine wpList_ldT rfl 39 7 _ Tryz.underlying39 rfl infoCf7 (.tmp 2) rfl w.heap.size 0 rfl C.cells rfl HL.out ?_)
 clear eW HL
 have hW0 : w.heap.size + 2 ≤ W0.heap.size := upper2g HB.out
 refine (sSwitchNew_any C n _ HPp.out okC HC.out).mono ?_
 rintro e w1 ⟨S, rfl, hN, hb⟩
 replace HB : Hid (Below (w.heap.size + 2) ((w.alloc (.cells C.cells 39)).alloc (.cells zFb 49)) w1) := next2g HB.out hb
 have hl1 : w.heap.size + 2 ≤ w1.heap.size := upper2g HB.out
 have hl1' : w.heap.size ≤ w1.heap.size := by omega
 rw [S.toG_cells]
 have HRd : Hid (RdSg w1 S.toG) := hN.rd.g
 have HAl : Hid (okC = true → AlikeG (newG C n) S.toG ∧ n ≤ 4) := fun e => by subst e; exact ⟨hN.g, hN.le⟩
 have HGk : Hid (okC = true → ∀ X Y : World, Below w1.heap.size w1 X → Touch [w.heap.size + 1] X Y → RdSg Y S.toG) := fun e X Y hX hY => by
  subst e
  obtain ⟨_, _, _, _, _, _, _, g, b, h8⟩ := hN
  exact ((h8.up hX).low hY (fun x hx => by simp at hx; omega)).rd.g
 clear hb hN hW0
 generalize S.toG = G at *
 clear S
 obtain ⟨V, eV⟩ : ∃ V, w1.alloc (.cells G.cells 45) = V := ⟨_, rfl⟩
 have hbV : Below w1.heap.size w1 V := by rw [← eV]; exact (Below.refl _ _).alloc (Nat.le_refl _) _
 have HkV : Hid (∀ j, j < 17 → V.cell? ⟨w1.heap.size, 0 + j, none⟩ = (#[.int .i64 G.C.p, .int .i64 G.C.c, .int .i64 G.C.xo, .int .i64 G.C.xn, .int .i64 G.C.hd, .int .i64 G.C.lo, .int .i64 G.C.dl, .int .i64 G.now, .int .i64 G.nx, .slice G.aE G.nE G.cE, .slice G.N.aU G.N.nU G.N.cU, .int .i64 G.N.lo, .slice G.N.aP G.N.nP G.N.cP, .slice G.aK G.nK G.cK, .slice G.aL G.nL G.cL, .int .i64 G.dr, .int .i64 G.lst] : Array Value)[j]?) := blkT (cs := G.cells) (by rw [← eV]; exact blk_new _ _) 17
 have HbV : Hid (Below w1.heap.size w1 V ∧ V.heap.size = w1.heap.size + 1) := ⟨hbV, by rw [← eV]; simp⟩
 clear hbV
 obtain ⟨V2, eV2⟩ : ∃ V2, V.alloc (.cells (nF G (hostR R) none 0 0).cells 49) = V2 := ⟨_, rfl⟩
 have HN0 : Hid (NwS w1 G R V.heap.size (hostR R) none 0 0 V2) := by
  have hbb : Below V.heap.size V V2 := by rw [← eV2]; exact (Below.refl _ _).alloc (Nat.le_refl _) _
  exact ⟨⟨by rw [← eV2]; exact blk_new _ _, OG.nil _ _ _ _, HbV.out.1.trans (hbb.mono HbV.out.1.size), by have := HbV.out.2; omega⟩, fun i hi => absurd hi (Nat.not_lt_zero _), fun i hi => absurd hi (Nat.not_lt_zero _)⟩
 go_wp2_with (first | refine wpList_stNew 45 17 infoSgI rfl (.tmp 6) (.tmp 13) rfl G.cells _ rfl rfl rfl rfl rfl (Swg.oneC _) (eV ▸ ?_) | refine wpList_ldT rfl 45 17 _ Tryz.underlying45 rfl infoSgI (.tmp 6) rfl w1.heap.size 0 rfl (#[.int .i64 G.C.p, .int .i64 G.C.c, .int .i64 G.C.xo, .int .i64 G.C.xn, .int .i64 G.C.hd, .int .i64 G.C.lo, .int .i64 G.C.dl, .int .i64 G.now, .int .i64 G.nx, .slice G.aE G.nE G.cE, .slice G.N.aU G.N.nU G.N.cU, .int .i64 G.N.lo, .slice G.N.aP G.N.nP G.N.cP, .slice G.aK G.nK G.cK, .slice G.aL G.nL G.cL, .int .i64 G.dr, .int .i64 G.lst]) rfl HkV.out ?_ | refine wpList_stNew 49 20 infoFb20 rfl (.tmp 8) (.tmp 16) rfl (nF G (hostR R) none 0 0).cells _ rfl rfl rfl rfl rfl (Fab.oneC _) (eV2 ▸ ?_))
 generalize hgF : V.heap.size = gF at *
 clear hgF HbV eV eV2 HkV
 go_loopw [9] (fun i wr => ∃ (k : Nat) (H : Nat → Hst) (aH : Option Addr) (cH : Nat), k ≤ R.n ∧ i = .int .i64 k ∧ Hid (NwS w1 G R gF H aH k cH wr)) (fun i _ => R.n - (intOf i).toNat)
 case atStart => exact ⟨0, _, none, 0, Nat.zero_le _, rfl, HN0⟩
 case round =>
  clear HN0
  obtain ⟨k, H, aH, cH, hk, rfl, HN⟩ := hrel
  have HBr : Hid (Below w.heap.size w wr) := under2g (next2g HB.out HN.out.n.b)
  by_cases hlt : k < R.n
  ·
   have hlt' : (k : Int) < R.n := by omega
   obtain ⟨g, o, ha, hc⟩ := (HR.out.up HBr.out).t k hlt
   dsimp only at hc
   have HEA : Hid (R.a = some ⟨g, o, none⟩) := ha
   rw [ha]
   clear ha
   go_wp2_with fail
   refine wp_region_E (fun w' => w'.heap[gF]? = some (.cells (nF G H aH k cH).cells 49 (0, 0)) ∧ w'.cell? ⟨g, o + k, none⟩ = some (.slice (R.A k) (R.L k) (R.C k))) 12 (by kernel_rfl) ?_
   have hd : Below wr.heap.size wr wr.drew := (Below.refl _ _).drew
   replace HN : Hid (NwS w1 G R gF H aH k cH wr.drew) := HN.out.up hd
   replace hc : wr.drew.cell? ⟨g, o + k, none⟩ = some (.slice (R.A k) (R.L k) (R.C k)) := hc
   replace HBr : Hid (Below w.heap.size w wr.drew) := HBr.out.trans (hd.mono HBr.out.size)
   clear hd
   generalize wr.drew = V at *
   have hT0 : (fun w' => w'.heap[gF]? = some (.cells (nF G H aH k cH).cells 49 (0, 0)) ∧ w'.cell? ⟨g, o + k, none⟩ = some (.slice (R.A k) (R.L k) (R.C k))) V := ⟨HN.out.n.c, hc⟩
   refine takeE (i := 0) (some 23) (v := ?_) ?_ hT0 ?_
   rotate_left
   ·
    intro wx hSw
    go_simp
    try with_reducible rfl
   try simp only [Act.put, PZ]
   refine takeE (i := 1) (some 24) (v := ?_) ?_ hT0 ?_
   rotate_left
   ·
    intro wx hSw
    have c17 : wx.cell? ⟨gF, 17, none⟩ = some (.slice aH k cH) := blk_cell hSw.1 17
    go_simp
    try with_reducible rfl
   try simp only [Act.put, PZ]
   refine takeE (i := 3) (some 26) (v := ?_) ?_ hT0 ?_
   rotate_left
   ·
    intro wx hSw
    go_simp
    try with_reducible rfl
   try simp only [Act.put, PZ]
   refine takeE (i := 4) (some 27) (v := ?_) ?_ hT0 ?_
   rotate_left
   ·
    intro wx hSw
    go_simp
    try with_reducible rfl
   try simp only [Act.put, PZ]
   refine takeE (i := 5) (some 28) (v := ?_) ?_ hT0 ?_
   rotate_left
   ·
    intro wx hSw
    go_simp
    try with_reducible rfl
   try simp only [Act.put, PZ]
   refine takeE (i := 6) (some 29) (v := ?_) ?_ hT0 ?_
   rotate_left
   ·
    intro wx hSw
    have c9 := hSw.2
    go_simp
    try with_reducible rfl
   try simp only [Act.put, PZ]
   obtain ⟨a2, c2, X2, hr2, o2, hb2⟩ := appendRowNew (V := V) (c := R.C k) 70 110 _ 5 48 infoFrZ Tryz.underlying70 rfl (by decide) (by decide) (HS.out.l k hlt) (tV_len (c := fun j => (R.F k j).frame) (fun _ _ => rfl)) (RdT.cs (by decide) ((HR.out.r k hlt).up HBr.out)) (tV_one (fun i _ => Pkt.oneF _))
   have hA1 : Below V.heap.size V (V.alloc (.cells #[] 110)) := (Below.refl _ _).alloc (Nat.le_refl _) _
   have upT : ∀ {X : World}, Below V.heap.size V X → (fun w' => w'.heap[gF]? = some (.cells (nF G H aH k cH).cells 49 (0, 0)) ∧ w'.cell? ⟨g, o + k, none⟩ = some (.slice (R.A k) (R.L k) (R.C k))) X := fun hb => ⟨(hb.block _ (blk_lt HN.out.n.c)).trans HN.out.n.c, (hb.cell (cellLt hc)).trans hc⟩
   have hT1 := upT hA1
   have hT2 := upT hb2
   have hu0 : OG 73 3 X2 w1.heap.size aH k cH (tV k fun i => (H i).cells) := HN.out.n.oh.up hb2
   obtain ⟨g1, c3, X3, hr, hu, ht, hg⟩ := appendOG 46 73 _ 3 56 infoHtZ Tryz.underlying46 rfl (by decide) (by decide) hu0 (by omega) (Nat.le_trans HN.out.n.b.size hb2.size) (#[.bool false, .slice a2 (R.L k) c2, .slice none 0 0]) rfl (by simp [Value.oneCell'])
   have hA3 : Below X2.heap.size X2 (X2.alloc (.cells #[.bool false, .slice a2 (R.L k) c2, .slice none 0 0] 73)) := (Below.refl _ _).alloc (Nat.le_refl _) _
   have hT3 := upT (hb2.trans (hA3.mono hb2.size))
   have hc3 : X3.heap[gF]? = some (.cells (nF G H aH k cH).cells 49 (0, 0)) := (ht.block _ (blk_lt hT2.1) (hu0.notT (by decide) hT2.1)).trans hT2.1
   have hT4 : (fun w' => w'.heap[gF]? = some (.cells (nF G H aH k cH).cells 49 (0, 0)) ∧ w'.cell? ⟨g, o + k, none⟩ = some (.slice (R.A k) (R.L k) (R.C k))) X3 := ⟨hc3, by
    have hb3 : Below w.heap.size w X2 := HBr.out.trans (hb2.mono HBr.out.size)
    have hb4 : Below w.heap.size w X3 := hb3.trans (ht.below hb3.size (fun x hx => Nat.le_trans hl1' (hu0.blk x hx).1))
    obtain ⟨g9, o9, e9, h9⟩ := (HR.out.t.up hb4) k hlt
    rw [HEA.out] at e9
    cases e9
    exact h9⟩
   have HRa : Hid ((Builtin.append_ #[70, 70] 70 #[.slice (some ⟨V.heap.size, 0, none⟩) 0 0, .slice (R.A k) (R.L k) (R.C k)]).run Tryz.prog (V.alloc (.cells #[] 110)) = .ok (.slice a2 (R.L k) c2) X2) := hr2
   have HRb : Hid ((Builtin.append_ #[46, 46] 46 #[.slice aH k cH, .slice (some ⟨X2.heap.size, 0, none⟩) 1 1]).run Tryz.prog (X2.alloc (.cells #[.bool false, .slice a2 (R.L k) c2, .slice none 0 0] 73)) = .ok (.slice (some ⟨g1, 0, none⟩) (k + 1) c3) X3) := hr
   have HN3 : Hid (Below V.heap.size V X2 ∧ OG 110 5 X2 V.heap.size a2 (R.L k) c2 (tV (R.L k) fun j => (R.F k j).frame) ∧ OG 73 3 X3 w1.heap.size (some ⟨g1, 0, none⟩) (k + 1) c3 (tV k (fun i => (H i).cells) ++ (#[.bool false, .slice a2 (R.L k) c2, .slice none 0 0] : Array Value).toList) ∧ Touch (blkO aH) X2 X3) := ⟨hb2, o2, hu, ht⟩
   clear hr2 hr o2 hb2 hu ht hg hu0 hA1 hA3 upT hT0
   refine wpAnyE_ready (rs := [2]) (by kernel_rfl) (by simp) ?_
   refine AllReadyE.cons rfl (fun K hK => ?_) AllReadyE.nil
   go_simp
   refine hK.out _ _ hT1 ?_
   clear hK K
   try simp only [Act.put, PZ]
   refine wpAnyE_ready (rs := [7]) (by kernel_rfl) (by simp) ?_
   refine AllReadyE.cons rfl (fun K hK => ?_) AllReadyE.nil
   refine wp_appE (by kernel_rfl) (some 30) rfl (.tmp 25) (.tmp 29) 70 _ _ _ rfl rfl rfl rfl HRa.out ?_
   refine hK.out _ _ hT2 ?_
   clear hK K hT1 HRa
   try simp only [Act.put, PZ]
   have hT0 := hT2
   refine takeE (i := 8) (some 31) (v := ?_) ?_ hT0 ?_
   rotate_left
   ·
    intro wx hSw
    go_simp
    try with_reducible rfl
   try simp only [Act.put, PZ]
   refine wpAnyE_ready (rs := [9]) (by kernel_rfl) (by simp) ?_
   refine AllReadyE.cons rfl (fun K hK => ?_) AllReadyE.nil
   go_simp
   refine hK.out _ _ hT3 ?_
   clear hK K hT0
   try simp only [Act.put, PZ]
   refine wpAnyE_ready (rs := [10]) (by kernel_rfl) (by simp) ?_
   refine AllReadyE.cons rfl (fun K hK => ?_) AllReadyE.nil
   refine wp_appE (by kernel_rfl) (some 33) rfl (.tmp 24) (.tmp 32) 46 _ _ _ rfl rfl rfl rfl HRb.out ?_
   refine hK.out _ _ hT4 ?_
   clear hK K hT3 HRb hT2
   try simp only [Act.put, PZ]
   have hT0 := hT4
   refine takeE (i := 11) (some 34) (v := ?_) ?_ hT0 ?_
   rotate_left
   ·
    intro wx hSw
    go_simp
    try with_reducible rfl
   try simp only [Act.put, PZ]
   refine wpAnyE_ready (rs := [12]) (by kernel_rfl) (by simp) ?_
   refine AllReadyE.last rfl (fun K hK => ?_)
   refine wp_stE (by kernel_rfl) none rfl 46 (.tmp 34) (.tmp 33) rfl gF 17 rfl (.slice (some ⟨g1, 0, none⟩) (k + 1) c3) rfl 1 rfl 49 _ hc3 infoHs (Nat.le_of_ble_eq_true rfl) (by simp [Value.cells, Value.oneCell']) ?_
   intro X4 hP
   refine hK.out _ _ ?_
   clear hK K
   try simp only [Act.put, PZ]
   refine wpAnyE_done (by kernel_rfl) ?_ _
   have HN4 : Hid (NwS w1 G R gF (fun i => if i = k then ⟨false, a2, R.L k, c2, R.F k, none, 0, 0, fun _ => pk0⟩ else H i) (some ⟨g1, 0, none⟩) (k + 1) c3 X4) := HN.out.more HN3.out.1 HN3.out.2.1 HN3.out.2.2.1 HN3.out.2.2.2 (hP.cast rfl)
   clear hP hT0 hT4 hc3 HN3 HN hc HBr HEA
   go_wp2_with fail
   go_roundw
   case rel => exact ⟨k + 1, _, _, _, by omega, by go_num, HN4⟩
   case measure => simp [intOf]; omega
  ·
   obtain rfl : k = R.n := by omega
   have hge : ¬ ((R.n : Nat) : Int) < ((R.n : Nat) : Int) := by omega
   have HD : Hid (wr.heap[w.heap.size + 1]? = some (.cells zFb 49 (0, 0))) := (box2 (next2g HB.out HN.out.n.b)).2
   cases okC
   ·
    obtain rfl : ok = false := by
     rw [Bool.eq_false_iff]
     intro e
     exact absurd (HC.out.2 (HO.out.1 e).1) (by simp)
    go_wp2_with (refine wpList_stA rfl 49 (.tmp 4) (.tmp 42) rfl (w.heap.size + 1) 0 rfl (.agg zeroF.cells) rfl 20 rfl 49 _ HD.out infoFb20 (Nat.le_of_ble_eq_true rfl) (Fab.oneC _) ?_)
    intro X hP
    replace hP : Put wr X (w.heap.size + 1) zeroF.cells 49 := hP.cast rfl
    have HK : Hid (X.heap[w.heap.size + 1]? = some (.cells zeroF.cells 49 (0, 0))) := hP.blk
    have HF : Hid (Below w.heap.size w X) := HBr.out.trans (hP.to.below HBr.out.size (fun x hx => by simp at hx; omega))
    clear hP
    go_wp2_with fail
    exact bodyPost_ret (res_cellF2 Tryz.results11 20 _ Tryz.underlying49 rfl infoFb20 _ _ (w.heap.size + 1) zeroF.cells rfl 49 HK.out rfl (.bool false) rfl) rfl ⟨zeroF, rfl, AlikeF.refl _, (zeroF_own _ 0).rd, HF.out⟩
   replace HAl : Hid (AlikeG (newG C n) G ∧ n ≤ 4) := HAl.out rfl
   replace HC : Hid C.Ok := HC.out.1 rfl
   replace HGk : Hid (∀ X Y : World, Below w1.heap.size w1 X → Touch [w.heap.size + 1] X Y → RdSg Y G) := HGk.out rfl
   have HAF : Hid (AlikeF (newF C n R) (nF G H aH R.n cH)) := nF_alike HAl.out.1 HN.out.a rfl
   have HSF : Hid (nF G H aH R.n cH).Small := HAF.out.small (newF_small HAl.out.2 HS.out)
   have HRF : Hid (RdFb wr (nF G H aH R.n cH)) := ⟨HRd.out.up HN.out.n.b, HN.out.n.oh.hosts, fun i hi => ⟨(HN.out.o i hi).frames, by
    have h9 : (H i).nG = 0 := (HN.out.a i hi).nG
    show RdF wr (H i).aG (H i).nG (H i).G
    rw [h9]
    exact RdT.nil _ _ _ _⟩, RdT.nil _ _ _ _, RdT.nil _ _ _ _⟩
   have HOF : Hid (ok = true ↔ (nF G H aH R.n cH).Ok) := HO.out.trans ⟨fun h => HAF.out.ok.2 h.2, fun h => ⟨HC.out, HAF.out.ok.1 h⟩⟩
   have HL : Hid (∀ j, j < 20 → wr.cell? ⟨gF, 0 + j, none⟩ = (nF G H aH R.n cH).cells[j]?) := blkT HN.out.n.c 20
   go_wp2_with (refine wpList_ldTg 49 20 _ Tryz.underlying49 rfl infoFb20 (.tmp 8) rfl (by kernel_rfl) gF 0 rfl (nF G H aH R.n cH).cells rfl HL.out ?_)
   clear HL HD
   refine (sFabricOk_any _ _ HSF.out HRF.out ok HOF.out).mono ?_
   rintro e w5 ⟨rfl, hb⟩
   have HK5 : Hid (w5.heap[gF]? = some (.cells (nF G H aH R.n cH).cells 49 (0, 0))) := (hb.block _ (blk_lt HN.out.n.c)).trans HN.out.n.c
   have HB5 : Hid (Below (w.heap.size + 2) ((w.alloc (.cells C.cells 39)).alloc (.cells zFb 49)) w5) := next2g (next2g HB.out HN.out.n.b) hb
   have HR5 : Hid (RdFb w5 (nF G H aH R.n cH)) := HRF.out.up hb
   have HG5 : Hid (w.heap.size + 1 < gF) := by have := HN.out.n.lt; show _ < _; omega
   have HTS : Hid (∀ X, Put w5 X (w.heap.size + 1) (nF G H aH R.n cH).cells 49 → RdFb X (nF G H aH R.n cH)) := fun X hP => by
    have q := HN.out.up hb
    have ht1 := hP.to
    have hd1 : ∀ x ∈ [w.heap.size + 1], x < w1.heap.size := fun x hx => by simp at hx; omega
    refine ⟨?_, (q.n.oh.low ht1 hd1).hosts, fun i hi => ⟨((q.o i hi).low ht1 hd1).frames, by
     have h9 : (H i).nG = 0 := (HN.out.a i hi).nG
     show RdF X (H i).aG (H i).nG (H i).G
     rw [h9]
     exact RdT.nil _ _ _ _⟩, RdT.nil _ _ _ _, RdT.nil _ _ _ _⟩
    exact HGk.out w5 X (HN.out.n.b.trans (hb.mono HN.out.n.b.size)) hP.to
   clear hb HN HRF HBr
   have hz5 : w.heap.size + 2 ≤ w5.heap.size := upper2g HB5.out
   have HD : Hid (w5.heap[w.heap.size + 1]? = some (.cells zFb 49 (0, 0))) := (box2 HB5.out).2
   cases ok
   ·
    go_wp2_with (refine wpList_stA rfl 49 (.tmp 4) (.tmp 42) rfl (w.heap.size + 1) 0 rfl (.agg zeroF.cells) rfl 20 rfl 49 _ HD.out infoFb20 (Nat.le_of_ble_eq_true rfl) (Fab.oneC _) ?_)
    intro X hP
    replace hP : Put w5 X (w.heap.size + 1) zeroF.cells 49 := hP.cast rfl
    have HK : Hid (X.heap[w.heap.size + 1]? = some (.cells zeroF.cells 49 (0, 0))) := hP.blk
    have HF : Hid (Below w.heap.size w X) := (under2g HB5.out).trans (hP.to.below (by omega) (fun x hx => by simp at hx; omega))
    clear hP
    go_wp2_with fail
    exact bodyPost_ret (res_cellF2 Tryz.results11 20 _ Tryz.underlying49 rfl infoFb20 _ _ (w.heap.size + 1) zeroF.cells rfl 49 HK.out rfl (.bool false) rfl) rfl ⟨zeroF, rfl, AlikeF.refl _, (zeroF_own _ 0).rd, HF.out⟩
   have HL : Hid (∀ j, j < 20 → w5.cell? ⟨gF, 0 + j, none⟩ = (nF G H aH R.n cH).cells[j]?) := blkT HK5.out 20
   go_wp2_with (first | refine wpList_ldT rfl 49 20 _ Tryz.underlying49 rfl infoFb20 (.tmp 8) rfl gF 0 rfl (nF G H aH R.n cH).cells rfl HL.out ?_ | refine wpList_stA rfl 49 (.tmp 4) (.tmp 43) rfl (w.heap.size + 1) 0 rfl (.agg (nF G H aH R.n cH).cells) rfl 20 rfl 49 _ HD.out infoFb20 (Nat.le_of_ble_eq_true rfl) (Fab.oneC _) ?_)
   intro X hP
   replace hP : Put w5 X (w.heap.size + 1) (nF G H aH R.n cH).cells 49 := hP.cast rfl
   have HK : Hid (X.heap[w.heap.size + 1]? = some (.cells (nF G H aH R.n cH).cells 49 (0, 0))) := hP.blk
   have HF : Hid (Below w.heap.size w X ∧ RdFb X (nF G H aH R.n cH)) := ⟨(under2g HB5.out).trans (hP.to.below (by omega) (fun x hx => by simp at hx; omega)), HTS.out X hP⟩
   clear hP HL
   go_wp2_with fail
   exact bodyPost_ret (res_cellF2 Tryz.results11 20 _ Tryz.underlying49 rfl infoFb20 _ _ (w.heap.size + 1) (nF G H aH R.n cH).cells rfl 49 HK.out rfl (.bool true) rfl) rfl ⟨_, rfl, HAF.out, HF.out.2, HF.out.1⟩
end Go.Proofs.YtfkpncopkgidfaaGreat
