import Derived.Test.YtfkpncopkgidfaaGreatF04
import Derived.Test.YtfkpncopkgidfaaGreatF24
import Derived.Test.YtfkpncopkgidfaaGreatF26
import Derived.Test.YtfkpncopkgidfaaGreatF27
import Derived.Test.YtfkpncopkgidfaaGreatRows
import Derived.Below
import Derived.ChangeOld
import Derived.Deep.Grids
import Derived.Deep.Matrix
import Derived.Deep.Slices
import Derived.OpenShut
import Derived.ProofKit
import Derived.ShutString
namespace Go.Proofs.YtfkpncopkgidfaaGreat
open Go.RowKit
set_option linter.unusedVariables false
set_option linter.unusedSimpArgs false
theorem szPacket_any (x : Pkt) (left : Int) (w : World) (h0 : 0 ≤ left) (h1 : left ≤ 1048576) (hf : x.b.size ≤ maxLen) :
  Calls Tryz.prog 109 #[.agg x.cells, .int .i64 left] w fun e w' => (∃ r : Int, e = .returned (.int .i64 r) ∧ (r = -1 ∨ 0 ≤ r ∧ x.b.size ≤ 1048576 ∧ r ≤ left)) ∧ Below w.heap.size w w' := by
 obtain ⟨W, eW⟩ : ∃ W, w.alloc (.cells x.cells 158) = W := ⟨_, rfl⟩
 have hB : Below (w.heap.size + 1) (w.alloc (.cells x.cells 158)) W := by rw [eW]; exact Below.refl _ _
 have hb0 := under hB
 have kS := boxed hB
 have c3 : W.cell? ⟨w.heap.size, 3, none⟩ = some (.int .i64 x.k) := kS 3
 have c4 : W.cell? ⟨w.heap.size, 4, none⟩ = some (.int .i64 x.d) := kS 4
 have c5 : W.cell? ⟨w.heap.size, 5, none⟩ = some (.int .i64 x.s) := kS 5
 have c6 : W.cell? ⟨w.heap.size, 6, none⟩ = some (.int .i64 x.p) := kS 6
 have c7 : W.cell? ⟨w.heap.size, 7, none⟩ = some (.string x.b) := kS 7
 have HB : Hid (Below w.heap.size w W) := hb0
 clear kS hB hb0
 go_enter Tryz.func109, Tryz.ntmps109
 go_wp2_with fail
 clear eW
 refine (szFrame_any x.k x.d x.s x.p left x.b _ hf h0 h1).mono ?_
 rintro e w1 ⟨rfl, hb1⟩
 have HB1 : Hid (Below w.heap.size w w1) := HB.out.trans (hb1.mono HB.out.size)
 clear hb1 c3 c4 c5 c6 c7
 by_cases hl : left < x.b.size
 ·
  rw [if_pos hl]
  go_wp2_with fail
  go_ret
  exact ⟨⟨_, rfl, .inl rfl⟩, HB1.out⟩
 ·
  rw [if_neg hl]
  have hr0 : ¬ left - x.b.size < 0 := by omega
  go_wp2_with fail
  go_ret
  exact ⟨⟨_, rfl, .inr ⟨by omega, by omega, by omega⟩⟩, HB1.out⟩
set_option maxHeartbeats 1000000 in
theorem szPackets_any (a : Option Addr) (n cap : Nat) (K : Nat → Pkt) (left : Int) (w : World) (h0 : 0 ≤ left) (h1 : left ≤ 1048576) (hn : n ≤ maxLen) (hf : ∀ i, i < n → (K i).b.size ≤ maxLen) (h : RdPk w a n K) :
  Calls Tryz.prog 52 #[.slice a n cap, .int .i64 left] w fun e w' => (∃ r : Int, e = .returned (.int .i64 r) ∧ (r = -1 ∨ 0 ≤ r ∧ n ≤ 1048576 ∧ (∀ i, i < n → (K i).b.size ≤ 1048576) ∧ r + n ≤ left)) ∧ Below w.heap.size w w' := by
 have hm : (n : Int) ≤ 9223372036854775807 := by unfold maxLen at hn; omega
 have HR : Hid (RdPk w a n K) := h
 have HF : Hid (∀ i, i < n → (K i).b.size ≤ maxLen) := hf
 clear h hf
 by_cases h2 : left - n < 0
 ·
  go_enter Tryz.func52, Tryz.ntmps52
  go_wp2_with fail
  go_ret
  exact ⟨⟨_, rfl, .inl rfl⟩, Below.refl _ _⟩
 ·
  go_enter Tryz.func52, Tryz.ntmps52
  go_wp2_with fail
  go_loopw [1, 5] (fun x i wr => ∃ (k : Nat) (r : Int), k ≤ n ∧ i = .int .i64 k ∧ x = .int .i64 r ∧ 0 ≤ r ∧ Hid (r + n ≤ left ∧ ∀ j, j < k → (K j).b.size ≤ 1048576) ∧ Below w.heap.size w wr) (fun _ i _ => n - (intOf i).toNat)
  case atStart => exact ⟨0, left - n, Nat.zero_le _, rfl, rfl, by omega, ⟨by omega, fun j hj => by omega⟩, Below.refl _ _⟩
  case round =>
   obtain ⟨k, r, hk, rfl, rfl, r0, HS, hB⟩ := hrel
   by_cases hlt : k < n
   ·
    have hlt' : (k : Int) < n := by omega
    obtain ⟨g, o, ha, hc⟩ := (HR.out.up hB) k hlt
    subst ha
    have HC : Hid (∀ j, j < 8 → wr.cell? ⟨g, o + k * 8 + j, none⟩ = (K k).cells[j]?) := hc
    clear hc
    go_wp2_with (refine wpList_ldT rfl 158 8 _ Tryz.underlying158 rfl infoPkL (.tmp 20) rfl g (o + k * 8) rfl (K k).cells rfl HC.out ?_)
    refine (szPacket_any (K k) r _ r0 (by have := HS.out.1; omega) (HF.out k hlt)).mono ?_
    rintro e w1 ⟨⟨r', rfl, hr⟩, hb1⟩
    have HB1 : Hid (Below w.heap.size w w1) := hB.trans (hb1.mono hB.size)
    clear hb1 hB HC
    rcases hr with rfl | ⟨r0', hsm, hr9⟩
    ·
     go_wp2_with fail
     go_ret
     exact ⟨⟨_, rfl, .inl rfl⟩, HB1.out⟩
    ·
     have HN : Hid (r' + n ≤ left ∧ ∀ j, j < k + 1 → (K j).b.size ≤ 1048576) := ⟨by have := HS.out.1; omega, fun j hj => by
       by_cases e : j = k
       ·
        subst e; exact hsm
       ·
        exact HS.out.2 j (by omega)⟩
     have hr0 : ¬ r' < 0 := by omega
     clear hsm hr9 HS
     go_wp2_with fail
     go_roundw
     case rel => exact ⟨k + 1, r', by omega, by go_num, rfl, r0', HN, HB1.out⟩
     case measure => simp [intOf]; omega
   ·
    obtain rfl : k = n := by omega
    go_wp2_with fail
    go_ret
    exact ⟨⟨_, rfl, .inr ⟨r0, by omega, HS.out.2, HS.out.1⟩⟩, hB⟩
set_option maxHeartbeats 2000000 in
theorem szSwitch_any (S : Swg) (w : World) (hf : S.Fit) (h : RdSg w S) :
  Calls Tryz.prog 19 #[.agg S.cells, .int .i64 1048576] w fun e w' => (∃ r : Int, e = .returned (.int .i64 r) ∧ (r = -1 ∨ 0 ≤ r ∧ S.Small ∧ S.tot ≤ 1048576 ∧ r ≤ 1048576)) ∧ Below w.heap.size w w' := by
 have HR : Hid (RdSg w S) := h
 have HF : Hid S.Fit := hf
 obtain ⟨W, eW⟩ : ∃ W, w.alloc (.cells S.cells 32) = W := ⟨_, rfl⟩
 have hB : Below (w.heap.size + 1) (w.alloc (.cells S.cells 32)) W := by rw [eW]; exact Below.refl _ _
 have kS := boxed hB
 have c9 : W.cell? ⟨w.heap.size, 9, none⟩ = some (.slice S.aE S.nE S.cE) := kS 9
 have c10 : W.cell? ⟨w.heap.size, 10, none⟩ = some (.slice S.N.aU S.N.nU S.N.cU) := kS 10
 have c11 : W.cell? ⟨w.heap.size, 11, none⟩ = some (.int .i64 S.N.lo) := kS 11
 have c12 : W.cell? ⟨w.heap.size, 12, none⟩ = some (.slice S.N.aP S.N.nP S.N.cP) := kS 12
 clear h hf kS
 go_enter Tryz.func19, Tryz.ntmps19
 go_wp2_with fail
 clear eW
 refine (szEntsS_any S.aE S.nE S.cE 1048576 _ HF.out.e (by omega) (by omega)).mono ?_
 rintro e w1 ⟨⟨r, rfl, hr⟩, rfl⟩
 rcases hr with rfl | ⟨r0, hn1, hs1⟩
 ·
  have B9 := under hB
  go_wp2_with fail
  go_ret
  exact ⟨⟨_, rfl, .inl rfl⟩, B9⟩
 have hr0 : ¬ r < 0 := by omega
 go_wp2_with fail
 refine (szCountsL_any S.N r _ r0 (by omega) HF.out.n).mono ?_
 rintro e w2 ⟨⟨r2, rfl, hr2⟩, hb2⟩
 replace hB := next hB hb2
 clear hb2 c9 c10 c11 c12
 rcases hr2 with rfl | ⟨r20, hn2, hs2⟩
 ·
  have B9 := under hB
  go_wp2_with fail
  go_ret
  exact ⟨⟨_, rfl, .inl rfl⟩, B9⟩
 have hr20 : ¬ r2 < 0 := by omega
 have c13 : w2.cell? ⟨w.heap.size, 13, none⟩ = some (.slice S.aK S.nK S.cK) := boxed hB 13
 have HN2 : Hid S.N.Small := hn2
 clear hn2
 go_wp2_with fail
 refine (szPackets_any S.aK S.nK S.cK S.K r2 _ r20 (by omega) HF.out.k HF.out.b (HR.out.k.up (under hB))).mono ?_
 rintro e w3 ⟨⟨r3, rfl, hr3⟩, hb3⟩
 replace hB := next hB hb3
 clear hb3 c13
 rcases hr3 with rfl | ⟨r30, hn3, hb3, hs3⟩
 ·
  have B9 := under hB
  go_wp2_with fail
  go_ret
  exact ⟨⟨_, rfl, .inl rfl⟩, B9⟩
 have hr30 : ¬ r3 < 0 := by omega
 have c14 : w3.cell? ⟨w.heap.size, 14, none⟩ = some (.slice S.aL S.nL S.cL) := boxed hB 14
 have HK : Hid (∀ i, i < S.nK → (S.K i).b.size ≤ 1048576) := hb3
 clear hb3
 go_wp2_with fail
 refine (szLanes_any S.aL S.nL S.cL S.L r3 _ r30 (by omega) HF.out.l HF.out.ls (HR.out.l.up (under hB)) (fun i hi => (HR.out.ls i hi).up (under hB))).mono ?_
 rintro e w4 ⟨⟨r4, rfl, hr4⟩, hb4⟩
 replace hB := next hB hb4
 clear hb4 c14
 have B9 := under hB
 rcases hr4 with rfl | ⟨r40, hn4, hl4, hs4⟩
 ·
  go_wp2_with fail
  go_ret
  exact ⟨⟨_, rfl, .inl rfl⟩, B9⟩
 have hr40 : ¬ r4 < 0 := by omega
 have HS : Hid (S.Small ∧ S.tot ≤ 1048576 ∧ r4 ≤ 1048576) := ⟨⟨hn1, HN2.out, hn3, HK.out, hn4, hl4⟩, by
  show S.nE + (S.N.nU + S.N.nP) + S.nK + (S.nL + sumL (fun i => (S.L i).tot) S.nL) ≤ 1048576
  omega, by omega⟩
 clear hl4 hs4 hs3 hs2 hs1 hB
 go_wp2_with fail
 go_ret
 exact ⟨⟨_, rfl, .inr ⟨r40, HS.out.1, HS.out.2⟩⟩, B9⟩
theorem infoFrL : (Tryz.prog.info? 102).map (·.size) = some 5 := by kernel_rfl
theorem infoHtL : (Tryz.prog.info? 99).map (·.size) = some 3 := by kernel_rfl
theorem infoFlL : (Tryz.prog.info? 104).map (·.size) = some 7 := by kernel_rfl
theorem szFrameL_any (x : Pkt) (left : Int) (w : World) (h0 : 0 ≤ left) (h1 : left ≤ 1048576) (hf : x.b.size ≤ maxLen) :
  Calls Tryz.prog 87 #[.agg x.frame, .int .i64 left] w fun e w' => (∃ r : Int, e = .returned (.int .i64 r) ∧ (r = -1 ∨ 0 ≤ r ∧ x.b.size ≤ 1048576 ∧ r ≤ left)) ∧ Below w.heap.size w w' := by
 refine (szFrame_any x.k x.d x.s x.p left x.b _ hf h0 h1).mono ?_
 rintro e w1 ⟨rfl, hb1⟩
 refine ⟨⟨_, rfl, ?_⟩, hb1⟩
 by_cases hl : left < x.b.size
 ·
  rw [if_pos hl]; exact .inl rfl
 ·
  rw [if_neg hl]; exact .inr ⟨by omega, by omega, by omega⟩
theorem szFlight_any (x : Pkt) (left : Int) (w : World) (h0 : 0 ≤ left) (h1 : left ≤ 1048576) (hf : x.b.size ≤ maxLen) :
  Calls Tryz.prog 55 #[.agg x.flight, .int .i64 left] w fun e w' => (∃ r : Int, e = .returned (.int .i64 r) ∧ (r = -1 ∨ 0 ≤ r ∧ x.b.size ≤ 1048576 ∧ r ≤ left)) ∧ Below w.heap.size w w' := by
 obtain ⟨W, eW⟩ : ∃ W, w.alloc (.cells x.flight 104) = W := ⟨_, rfl⟩
 have hB : Below (w.heap.size + 1) (w.alloc (.cells x.flight 104)) W := by rw [eW]; exact Below.refl _ _
 have hb0 := under hB
 have kS := boxed hB
 have c2 : W.cell? ⟨w.heap.size, 2, none⟩ = some (.int .i64 x.k) := kS 2
 have c3 : W.cell? ⟨w.heap.size, 3, none⟩ = some (.int .i64 x.d) := kS 3
 have c4 : W.cell? ⟨w.heap.size, 4, none⟩ = some (.int .i64 x.s) := kS 4
 have c5 : W.cell? ⟨w.heap.size, 5, none⟩ = some (.int .i64 x.p) := kS 5
 have c6 : W.cell? ⟨w.heap.size, 6, none⟩ = some (.string x.b) := kS 6
 have HB : Hid (Below w.heap.size w W) := hb0
 clear kS hB hb0
 go_enter Tryz.func55, Tryz.ntmps55
 go_wp2_with fail
 clear eW
 refine (szFrameL_any x left _ h0 h1 hf).mono ?_
 rintro e w1 ⟨⟨r, rfl, hr⟩, hb1⟩
 have HB1 : Hid (Below w.heap.size w w1) := HB.out.trans (hb1.mono HB.out.size)
 clear hb1 c2 c3 c4 c5 c6
 rcases hr with rfl | ⟨r0, hr1, hr2⟩
 ·
  go_wp2_with fail
  go_ret
  exact ⟨⟨_, rfl, .inl rfl⟩, HB1.out⟩
 ·
  have hr0 : ¬ r < 0 := by omega
  go_wp2_with fail
  go_ret
  exact ⟨⟨_, rfl, .inr ⟨by omega, hr1, by omega⟩⟩, HB1.out⟩
set_option maxHeartbeats 1000000 in
theorem szFramesL_any (a : Option Addr) (n cap : Nat) (K : Nat → Pkt) (left : Int) (w : World) (h0 : 0 ≤ left) (h1 : left ≤ 1048576) (hn : n ≤ maxLen) (hf : ∀ i, i < n → (K i).b.size ≤ maxLen) (h : RdF w a n K) :
  Calls Tryz.prog 37 #[.slice a n cap, .int .i64 left] w fun e w' => (∃ r : Int, e = .returned (.int .i64 r) ∧ (r = -1 ∨ 0 ≤ r ∧ n ≤ 1048576 ∧ (∀ i, i < n → (K i).b.size ≤ 1048576) ∧ r ≤ left)) ∧ Below w.heap.size w w' := by
 have hm : (n : Int) ≤ 9223372036854775807 := by unfold maxLen at hn; omega
 have HR : Hid (RdF w a n K) := h
 have HF : Hid (∀ i, i < n → (K i).b.size ≤ maxLen) := hf
 clear h hf
 by_cases h2 : left - n < 0
 ·
  go_enter Tryz.func37, Tryz.ntmps37
  go_wp2_with fail
  go_ret
  exact ⟨⟨_, rfl, .inl rfl⟩, Below.refl _ _⟩
 ·
  go_enter Tryz.func37, Tryz.ntmps37
  go_wp2_with fail
  go_loopw [1, 5] (fun x i wr => ∃ (k : Nat) (r : Int), k ≤ n ∧ i = .int .i64 k ∧ x = .int .i64 r ∧ 0 ≤ r ∧ Hid (r + n ≤ left ∧ ∀ i, i < k → (K i).b.size ≤ 1048576) ∧ Below w.heap.size w wr) (fun _ i _ => n - (intOf i).toNat)
  case atStart => exact ⟨0, left - n, Nat.zero_le _, rfl, rfl, by omega, ⟨by omega, fun j hj => by omega⟩, Below.refl _ _⟩
  case round =>
   obtain ⟨k, r, hk, rfl, rfl, r0, HS, hB⟩ := hrel
   by_cases hlt : k < n
   ·
    have hlt' : (k : Int) < n := by omega
    obtain ⟨g, o, ha, hc⟩ := (HR.out.up hB).at hlt
    subst ha
    have HC : Hid (∀ j, j < 5 → wr.cell? ⟨g, o + k * 5 + j, none⟩ = (K k).frame[j]?) := hc
    clear hc
    go_wp2_with (refine wpList_ldT rfl 102 5 _ Tryz.underlying102 rfl infoFrL (.tmp 20) rfl g (o + k * 5) rfl (K k).frame rfl HC.out ?_)
    refine (szFrameL_any (K k) r _ r0 (by have := HS.out.1; omega) (HF.out k hlt)).mono ?_
    rintro e w1 ⟨⟨r', rfl, hr⟩, hb1⟩
    have HB1 : Hid (Below w.heap.size w w1) := hB.trans (hb1.mono hB.size)
    clear hb1 hB HC
    rcases hr with rfl | ⟨r0', hsm, hr9⟩
    ·
     go_wp2_with fail
     go_ret
     exact ⟨⟨_, rfl, .inl rfl⟩, HB1.out⟩
    ·
     have HN : Hid (r' + n ≤ left ∧ ∀ i, i < k + 1 → (K i).b.size ≤ 1048576) := ⟨by have := HS.out.1; omega, fun j hj => by
       by_cases e : j = k
       ·
        subst e; exact hsm
       ·
        exact HS.out.2 j (by omega)⟩
     have hr0 : ¬ r' < 0 := by omega
     clear hsm hr9 HS
     go_wp2_with fail
     go_roundw
     case rel => exact ⟨k + 1, r', by omega, by go_num, rfl, r0', HN, HB1.out⟩
     case measure => simp [intOf]; omega
   ·
    obtain rfl : k = n := by omega
    have hle := HS.out.1
    go_wp2_with fail
    go_ret
    exact ⟨⟨_, rfl, .inr ⟨r0, by omega, HS.out.2, by omega⟩⟩, hB⟩
set_option maxHeartbeats 1000000 in
theorem szFlights_any (a : Option Addr) (n cap : Nat) (K : Nat → Pkt) (left : Int) (w : World) (h0 : 0 ≤ left) (h1 : left ≤ 1048576) (hn : n ≤ maxLen) (hf : ∀ i, i < n → (K i).b.size ≤ maxLen) (h : RdV w a n K) :
  Calls Tryz.prog 21 #[.slice a n cap, .int .i64 left] w fun e w' => (∃ r : Int, e = .returned (.int .i64 r) ∧ (r = -1 ∨ 0 ≤ r ∧ n ≤ 1048576 ∧ (∀ i, i < n → (K i).b.size ≤ 1048576) ∧ r ≤ left)) ∧ Below w.heap.size w w' := by
 have hm : (n : Int) ≤ 9223372036854775807 := by unfold maxLen at hn; omega
 have HR : Hid (RdV w a n K) := h
 have HF : Hid (∀ i, i < n → (K i).b.size ≤ maxLen) := hf
 clear h hf
 by_cases h2 : left - n < 0
 ·
  go_enter Tryz.func21, Tryz.ntmps21
  go_wp2_with fail
  go_ret
  exact ⟨⟨_, rfl, .inl rfl⟩, Below.refl _ _⟩
 ·
  go_enter Tryz.func21, Tryz.ntmps21
  go_wp2_with fail
  go_loopw [1, 5] (fun x i wr => ∃ (k : Nat) (r : Int), k ≤ n ∧ i = .int .i64 k ∧ x = .int .i64 r ∧ 0 ≤ r ∧ Hid (r + n ≤ left ∧ ∀ i, i < k → (K i).b.size ≤ 1048576) ∧ Below w.heap.size w wr) (fun _ i _ => n - (intOf i).toNat)
  case atStart => exact ⟨0, left - n, Nat.zero_le _, rfl, rfl, by omega, ⟨by omega, fun j hj => by omega⟩, Below.refl _ _⟩
  case round =>
   obtain ⟨k, r, hk, rfl, rfl, r0, HS, hB⟩ := hrel
   by_cases hlt : k < n
   ·
    have hlt' : (k : Int) < n := by omega
    obtain ⟨g, o, ha, hc⟩ := (HR.out.up hB).at hlt
    subst ha
    have HC : Hid (∀ j, j < 7 → wr.cell? ⟨g, o + k * 7 + j, none⟩ = (K k).flight[j]?) := hc
    clear hc
    go_wp2_with (refine wpList_ldT rfl 104 7 _ Tryz.underlying104 rfl infoFlL (.tmp 20) rfl g (o + k * 7) rfl (K k).flight rfl HC.out ?_)
    refine (szFlight_any (K k) r _ r0 (by have := HS.out.1; omega) (HF.out k hlt)).mono ?_
    rintro e w1 ⟨⟨r', rfl, hr⟩, hb1⟩
    have HB1 : Hid (Below w.heap.size w w1) := hB.trans (hb1.mono hB.size)
    clear hb1 hB HC
    rcases hr with rfl | ⟨r0', hsm, hr9⟩
    ·
     go_wp2_with fail
     go_ret
     exact ⟨⟨_, rfl, .inl rfl⟩, HB1.out⟩
    ·
     have HN : Hid (r' + n ≤ left ∧ ∀ i, i < k + 1 → (K i).b.size ≤ 1048576) := ⟨by have := HS.out.1; omega, fun j hj => by
       by_cases e : j = k
       ·
        subst e; exact hsm
       ·
        exact HS.out.2 j (by omega)⟩
     have hr0 : ¬ r' < 0 := by omega
     clear hsm hr9 HS
     go_wp2_with fail
     go_roundw
     case rel => exact ⟨k + 1, r', by omega, by go_num, rfl, r0', HN, HB1.out⟩
     case measure => simp [intOf]; omega
   ·
    obtain rfl : k = n := by omega
    have hle := HS.out.1
    go_wp2_with fail
    go_ret
    exact ⟨⟨_, rfl, .inr ⟨r0, by omega, HS.out.2, by omega⟩⟩, hB⟩
theorem szHost_any (h : Hst) (left : Int) (w : World) (h0 : 0 ≤ left) (h1 : left ≤ 1048576) (hf : h.Fit) (hr : RdHt w h) :
  Calls Tryz.prog 54 #[.agg h.cells, .int .i64 left] w fun e w' => (∃ r : Int, e = .returned (.int .i64 r) ∧ (r = -1 ∨ 0 ≤ r ∧ h.Small ∧ r ≤ left)) ∧ Below w.heap.size w w' := by
 have HR : Hid (RdHt w h) := hr
 have HF : Hid h.Fit := hf
 obtain ⟨W, eW⟩ : ∃ W, w.alloc (.cells h.cells 99) = W := ⟨_, rfl⟩
 have hB : Below (w.heap.size + 1) (w.alloc (.cells h.cells 99)) W := by rw [eW]; exact Below.refl _ _
 have kS := boxed hB
 have c1 : W.cell? ⟨w.heap.size, 1, none⟩ = some (.slice h.aO h.nO h.cO) := kS 1
 clear hr hf kS
 go_enter Tryz.func54, Tryz.ntmps54
 go_wp2_with fail
 clear eW
 refine (szFramesL_any h.aO h.nO h.cO h.O left _ h0 h1 HF.out.o HF.out.bo (HR.out.o.up (under hB))).mono ?_
 rintro e w1 ⟨⟨r, rfl, hr⟩, hb⟩
 replace hB := next hB hb
 clear hb c1
 rcases hr with rfl | ⟨r0, hn1, hb1, hs1⟩
 ·
  have B9 := under hB
  go_wp2_with fail
  go_ret
  exact ⟨⟨_, rfl, .inl rfl⟩, B9⟩
 have hr0 : ¬ r < 0 := by omega
 have HZ : Hid (∀ i, i < h.nO → (h.O i).b.size ≤ 1048576) := hb1
 have c2 : w1.cell? ⟨w.heap.size, 2, none⟩ = some (.slice h.aG h.nG h.cG) := boxed hB 2
 clear hb1
 go_wp2_with fail
 clear c2
 refine (szFramesL_any h.aG h.nG h.cG h.G r _ r0 (by omega) HF.out.g HF.out.bg (HR.out.g.up (under hB))).mono ?_
 rintro e w2 ⟨⟨r2, rfl, hr2⟩, hb⟩
 replace hB := next hB hb
 have B9 := under hB
 clear hb hB
 rcases hr2 with rfl | ⟨r20, hn2, hb2, hs2⟩
 ·
  go_wp2_with fail
  go_ret
  exact ⟨⟨_, rfl, .inl rfl⟩, B9⟩
 have hr20 : ¬ r2 < 0 := by omega
 have HS : Hid h.Small := ⟨hn1, HZ.out, hn2, hb2⟩
 clear hb2
 go_wp2_with fail
 go_ret
 exact ⟨⟨_, rfl, .inr ⟨r20, HS.out, by omega⟩⟩, B9⟩
set_option maxHeartbeats 1000000 in
theorem szHosts_any (a : Option Addr) (n cap : Nat) (K : Nat → Hst) (left : Int) (w : World) (h0 : 0 ≤ left) (h1 : left ≤ 1048576) (hn : n ≤ maxLen) (hf : ∀ i, i < n → (K i).Fit) (h : RdHs w a n K) (hq : ∀ i, i < n → RdHt w (K i)) :
  Calls Tryz.prog 20 #[.slice a n cap, .int .i64 left] w fun e w' => (∃ r : Int, e = .returned (.int .i64 r) ∧ (r = -1 ∨ 0 ≤ r ∧ n ≤ 1048576 ∧ (∀ i, i < n → (K i).Small) ∧ r ≤ left)) ∧ Below w.heap.size w w' := by
 have hm : (n : Int) ≤ 9223372036854775807 := by unfold maxLen at hn; omega
 have HR : Hid (RdHs w a n K) := h
 have HF : Hid (∀ i, i < n → (K i).Fit) := hf
 have HQ : Hid (∀ i, i < n → RdHt w (K i)) := hq
 clear hq
 clear h hf
 by_cases h2 : left - n < 0
 ·
  go_enter Tryz.func20, Tryz.ntmps20
  go_wp2_with fail
  go_ret
  exact ⟨⟨_, rfl, .inl rfl⟩, Below.refl _ _⟩
 ·
  go_enter Tryz.func20, Tryz.ntmps20
  go_wp2_with fail
  go_loopw [1, 5] (fun x i wr => ∃ (k : Nat) (r : Int), k ≤ n ∧ i = .int .i64 k ∧ x = .int .i64 r ∧ 0 ≤ r ∧ Hid (r + n ≤ left ∧ ∀ i, i < k → (K i).Small) ∧ Below w.heap.size w wr) (fun _ i _ => n - (intOf i).toNat)
  case atStart => exact ⟨0, left - n, Nat.zero_le _, rfl, rfl, by omega, ⟨by omega, fun j hj => by omega⟩, Below.refl _ _⟩
  case round =>
   obtain ⟨k, r, hk, rfl, rfl, r0, HS, hB⟩ := hrel
   by_cases hlt : k < n
   ·
    have hlt' : (k : Int) < n := by omega
    obtain ⟨g, o, ha, hc⟩ := (HR.out.up hB).at hlt
    subst ha
    have HC : Hid (∀ j, j < 3 → wr.cell? ⟨g, o + k * 3 + j, none⟩ = (K k).cells[j]?) := hc
    clear hc
    go_wp2_with (refine wpList_ldT rfl 99 3 _ Tryz.underlying99 rfl infoHtL (.tmp 20) rfl g (o + k * 3) rfl (K k).cells rfl HC.out ?_)
    refine (szHost_any (K k) r _ r0 (by have := HS.out.1; omega) (HF.out k hlt) ((HQ.out k hlt).up hB)).mono ?_
    rintro e w1 ⟨⟨r', rfl, hr⟩, hb1⟩
    have HB1 : Hid (Below w.heap.size w w1) := hB.trans (hb1.mono hB.size)
    clear hb1 hB HC
    rcases hr with rfl | ⟨r0', hsm, hr9⟩
    ·
     go_wp2_with fail
     go_ret
     exact ⟨⟨_, rfl, .inl rfl⟩, HB1.out⟩
    ·
     have HN : Hid (r' + n ≤ left ∧ ∀ i, i < k + 1 → (K i).Small) := ⟨by have := HS.out.1; omega, fun j hj => by
       by_cases e : j = k
       ·
        subst e; exact hsm
       ·
        exact HS.out.2 j (by omega)⟩
     have hr0 : ¬ r' < 0 := by omega
     clear hsm hr9 HS
     go_wp2_with fail
     go_roundw
     case rel => exact ⟨k + 1, r', by omega, by go_num, rfl, r0', HN, HB1.out⟩
     case measure => simp [intOf]; omega
   ·
    obtain rfl : k = n := by omega
    have hle := HS.out.1
    go_wp2_with fail
    go_ret
    exact ⟨⟨_, rfl, .inr ⟨r0, by omega, HS.out.2, by omega⟩⟩, hB⟩
theorem infoSwL : (Tryz.prog.info? 32).map (·.size) = some 17 := by kernel_rfl
theorem boxSw {w wi : World} {F : Fab} {t : TypeId} (h : Below (w.heap.size + 1) (w.alloc (.cells F.cells t)) wi) : ∀ j, j < 17 → wi.cell? ⟨w.heap.size, 0 + j, none⟩ = F.S.cells[j]? := fun j hj => by
 rw [Nat.zero_add, boxed h j]
 exact F.sw j hj
set_option maxRecDepth 10000 in
set_option maxHeartbeats 2000000 in
theorem szFabric_any (F : Fab) (w : World) (hf : F.Fit) (h : RdFb w F) :
  Calls Tryz.prog 5 #[.agg F.cells, .int .i64 1048576] w fun e w' => (∃ r : Int, e = .returned (.int .i64 r) ∧ (r = -1 ∨ 0 ≤ r ∧ F.Small)) ∧ Below w.heap.size w w' := by
 have HR : Hid (RdFb w F) := h
 have HF : Hid F.Fit := hf
 obtain ⟨W, eW⟩ : ∃ W, w.alloc (.cells F.cells 36) = W := ⟨_, rfl⟩
 have hB : Below (w.heap.size + 1) (w.alloc (.cells F.cells 36)) W := by rw [eW]; exact Below.refl _ _
 have HL : Hid (∀ j, j < 17 → W.cell? ⟨w.heap.size, 0 + j, none⟩ = F.S.cells[j]?) := boxSw hB
 clear h hf
 go_enter Tryz.func5, Tryz.ntmps5
 go_wp2_with (refine wpList_ldT rfl 32 17 _ Tryz.underlying32 rfl infoSwL (.tmp 5) rfl w.heap.size 0 rfl F.S.cells rfl HL.out ?_)
 clear eW HL
 refine (szSwitch_any F.S _ HF.out.s (HR.out.s.up (under hB))).mono ?_
 rintro e w1 ⟨⟨r, rfl, hr⟩, hb⟩
 replace hB := next hB hb
 clear hb
 rcases hr with rfl | ⟨r0, hs1, _, hs2⟩
 ·
  have B9 := under hB
  go_wp2_with fail
  go_ret
  exact ⟨⟨_, rfl, .inl rfl⟩, B9⟩
 have hr0 : ¬ r < 0 := by omega
 have H1 : Hid F.S.Small := hs1
 have c17 : w1.cell? ⟨w.heap.size, 17, none⟩ = some (.slice F.aH F.nH F.cH) := boxed hB 17
 clear hs1
 go_wp2_with fail
 clear c17
 refine (szHosts_any F.aH F.nH F.cH F.H r _ r0 hs2 HF.out.h HF.out.hs (HR.out.h.up (under hB)) (fun i hi => (HR.out.hs i hi).up (under hB))).mono ?_
 rintro e w2 ⟨⟨r2, rfl, hr2⟩, hb⟩
 replace hB := next hB hb
 clear hb
 rcases hr2 with rfl | ⟨r20, hn2, hb2, hs2'⟩
 ·
  have B9 := under hB
  go_wp2_with fail
  go_ret
  exact ⟨⟨_, rfl, .inl rfl⟩, B9⟩
 have hr20 : ¬ r2 < 0 := by omega
 have H2 : Hid (∀ i, i < F.nH → (F.H i).Small) := hb2
 have c18 : w2.cell? ⟨w.heap.size, 18, none⟩ = some (.slice F.aU F.nU F.cU) := boxed hB 18
 clear hb2
 go_wp2_with fail
 clear c18
 refine (szFlights_any F.aU F.nU F.cU F.U r2 _ r20 (by omega) HF.out.u HF.out.bu (HR.out.u.up (under hB))).mono ?_
 rintro e w3 ⟨⟨r3, rfl, hr3⟩, hb⟩
 replace hB := next hB hb
 clear hb
 rcases hr3 with rfl | ⟨r30, hn3, hb3, hs3⟩
 ·
  have B9 := under hB
  go_wp2_with fail
  go_ret
  exact ⟨⟨_, rfl, .inl rfl⟩, B9⟩
 have hr30 : ¬ r3 < 0 := by omega
 have H3 : Hid (∀ i, i < F.nU → (F.U i).b.size ≤ 1048576) := hb3
 have c19 : w3.cell? ⟨w.heap.size, 19, none⟩ = some (.slice F.aD F.nD F.cD) := boxed hB 19
 clear hb3
 go_wp2_with fail
 clear c19
 refine (szFlights_any F.aD F.nD F.cD F.D r3 _ r30 (by omega) HF.out.d HF.out.bd (HR.out.d.up (under hB))).mono ?_
 rintro e w4 ⟨⟨r4, rfl, hr4⟩, hb⟩
 replace hB := next hB hb
 have B9 := under hB
 clear hb hB
 rcases hr4 with rfl | ⟨r40, hn4, hb4, hs4⟩
 ·
  go_wp2_with fail
  go_ret
  exact ⟨⟨_, rfl, .inl rfl⟩, B9⟩
 have hr40 : ¬ r4 < 0 := by omega
 have HS : Hid F.Small := ⟨H1.out, hn2, H2.out, hn3, H3.out, hn4, hb4⟩
 clear hb4
 go_wp2_with fail
 go_ret
 exact ⟨⟨_, rfl, .inr ⟨r40, HS.out⟩⟩, B9⟩
set_option maxHeartbeats 1000000 in
theorem eqFlight_self (x : Pkt) (w : World) :
  Calls Tryz.prog 86 #[.agg x.flight, .agg x.flight] w fun e w' => e = .returned (.bool true) ∧ Below w.heap.size w w' := by
 obtain ⟨W, eW⟩ : ∃ W, (w.alloc (.cells x.flight 122)).alloc (.cells x.flight 122) = W := ⟨_, rfl⟩
 have HX : Hid (Two w x.flight x.flight 122 W) := by rw [← eW]; exact Two.start _ _ _ _
 have c0 : W.cell? ⟨w.heap.size, 0, none⟩ = some (.int .i64 x.id) := blk_cell HX.out.a 0
 have d0 : W.cell? ⟨w.heap.size + 1, 0, none⟩ = some (.int .i64 x.id) := blk_cell HX.out.b 0
 have c1 : W.cell? ⟨w.heap.size, 1, none⟩ = some (.int .i64 x.inn) := blk_cell HX.out.a 1
 have d1 : W.cell? ⟨w.heap.size + 1, 1, none⟩ = some (.int .i64 x.inn) := blk_cell HX.out.b 1
 have c2 : W.cell? ⟨w.heap.size, 2, none⟩ = some (.int .i64 x.k) := blk_cell HX.out.a 2
 have d2 : W.cell? ⟨w.heap.size + 1, 2, none⟩ = some (.int .i64 x.k) := blk_cell HX.out.b 2
 have c3 : W.cell? ⟨w.heap.size, 3, none⟩ = some (.int .i64 x.d) := blk_cell HX.out.a 3
 have d3 : W.cell? ⟨w.heap.size + 1, 3, none⟩ = some (.int .i64 x.d) := blk_cell HX.out.b 3
 have c4 : W.cell? ⟨w.heap.size, 4, none⟩ = some (.int .i64 x.s) := blk_cell HX.out.a 4
 have d4 : W.cell? ⟨w.heap.size + 1, 4, none⟩ = some (.int .i64 x.s) := blk_cell HX.out.b 4
 have c5 : W.cell? ⟨w.heap.size, 5, none⟩ = some (.int .i64 x.p) := blk_cell HX.out.a 5
 have d5 : W.cell? ⟨w.heap.size + 1, 5, none⟩ = some (.int .i64 x.p) := blk_cell HX.out.b 5
 have c6 : W.cell? ⟨w.heap.size, 6, none⟩ = some (.string x.b) := blk_cell HX.out.a 6
 have d6 : W.cell? ⟨w.heap.size + 1, 6, none⟩ = some (.string x.b) := blk_cell HX.out.b 6
 go_enter Tryz.func86, Tryz.ntmps86
 go_wp2_with fail
 clear eW
 refine (eqFrame_self x.k x.d x.s x.p x.b _).mono ?_
 rintro e w1 ⟨rfl, hb⟩
 have B := (HX.out.up hb).bel
 clear c0 d0 c1 d1 c2 d2 c3 d3 c4 d4 c5 d5 c6 d6
 clear hb
 go_wp2_with fail
 go_ret
 exact ⟨rfl, B⟩
set_option maxRecDepth 10000 in
set_option maxHeartbeats 2000000 in
theorem eqFrames_any (a1 a2 : Option Addr) (n c1 c2 : Nat) (K1 : Nat → Pkt) (w : World) (hn : n ≤ 1048576) (h1 : RdF w a1 n K1) (h2 : RdF w a2 n K1) :
  Calls Tryz.prog 42 #[.slice a1 n c1, .slice a2 n c2] w fun e w' => e = .returned (.bool true) ∧ Below w.heap.size w w' := by
 have H1 : Hid (RdF w a1 n K1) := h1
 have H2 : Hid (RdF w a2 n K1) := h2
 clear h1 h2
 go_enter Tryz.func42, Tryz.ntmps42
 go_wp2_with fail
 go_loopw [5] (fun i wr => ∃ k : Nat, k ≤ n ∧ i = .int .i64 k ∧ Below w.heap.size w wr) (fun i _ => n - (intOf i).toNat)
 case atStart => exact ⟨0, Nat.zero_le _, rfl, Below.refl _ _⟩
 case round =>
  obtain ⟨k, hk, rfl, hB⟩ := hrel
  by_cases hlt : k < n
  ·
   have hlt' : (k : Int) < n := by omega
   obtain ⟨g, o, ha, hc⟩ := (H1.out.up hB.drew).at hlt
   obtain ⟨g2, o2, ha2, hc2⟩ := (H2.out.up hB.drew).at hlt
   subst ha ha2
   have HC : Hid ((∀ j, j < 5 → wr.drew.cell? ⟨g, o + k * 5 + j, none⟩ = (K1 k).frame[j]?) ∧ ∀ j, j < 5 → wr.drew.cell? ⟨g2, o2 + k * 5 + j, none⟩ = (K1 k).frame[j]?) := ⟨hc, hc2⟩
   clear hc hc2
   go_wp2_with fail
   refine wp_region_held_drew (S := fun w' => (∀ j, j < 5 → w'.cell? ⟨g, o + k * 5 + j, none⟩ = (K1 k).frame[j]?) ∧ ∀ j, j < 5 → w'.cell? ⟨g2, o2 + k * 5 + j, none⟩ = (K1 k).frame[j]?) (by kernel_rfl) HC.out (fun hHeld => ?_)
   refine tP 0 17 ?_
   try simp only [Act.put, PZ]
   refine tP 1 18 ?_
   try simp only [Act.put, PZ]
   refine tP 2 19 ?_
   try simp only [Act.put, PZ]
   refine tC 3 20 (v := .agg (K1 k).frame) (fun wx hSw => run_ldT 110 5 _ Tryz.underlying110 rfl infoFr5 (.tmp 19) rfl g (o + k * 5) rfl (K1 k).frame rfl hSw.1) ?_
   try simp only [Act.put, PZ]
   refine tP 4 21 ?_
   try simp only [Act.put, PZ]
   refine tP 5 22 ?_
   try simp only [Act.put, PZ]
   refine tP 6 23 ?_
   try simp only [Act.put, PZ]
   refine tC 7 24 (v := .agg (K1 k).frame) (fun wx hSw => run_ldT 110 5 _ Tryz.underlying110 rfl infoFr5 (.tmp 23) rfl g2 (o2 + k * 5) rfl (K1 k).frame rfl hSw.2) ?_
   try simp only [Act.put, PZ]
   refine wpAnyH_ready (rs := [8]) (by kernel_rfl) (by simp) ?_
   refine AllReadyH.cons rfl (fun K hK => ?_) AllReadyH.nil
   go_simp
   refine (eqFrame_self (K1 k).k (K1 k).d (K1 k).s (K1 k).p (K1 k).b _).mono ?_
   rintro e w1 ⟨rfl, hb⟩
   have HB1 : Hid (Below w.heap.size w w1) := hB.drew.trans (hb.mono hB.drew.size)
   have HC1 : Hid ((∀ j, j < 5 → w1.cell? ⟨g, o + k * 5 + j, none⟩ = (K1 k).frame[j]?) ∧ ∀ j, j < 5 → w1.cell? ⟨g2, o2 + k * 5 + j, none⟩ = (K1 k).frame[j]?) := ⟨keepT rfl HC.out.1 hb, keepT rfl HC.out.2 hb⟩
   clear hb HC hB
   go_wp2_with fail
   refine hK.out _ _ HC1.out (fun hHeld => ?_)
   clear hK K
   try simp only [Act.put, PZ]
   refine tP 9 26 ?_
   try simp only [Act.put, PZ]
   refine wpAnyH_done (by kernel_rfl) ?_ _
   clear hHeld HC1
   go_wp2_with fail
   go_roundw
   case rel => exact ⟨k + 1, by omega, by go_num, HB1.out⟩
   case measure => simp [intOf]; omega
  ·
   obtain rfl : k = n := by omega
   go_wp2_with fail
   go_ret
   exact ⟨rfl, hB⟩
set_option maxRecDepth 10000 in
set_option maxHeartbeats 2000000 in
theorem eqFlights_any (a1 a2 : Option Addr) (n c1 c2 : Nat) (K1 : Nat → Pkt) (w : World) (hn : n ≤ 1048576) (h1 : RdV w a1 n K1) (h2 : RdV w a2 n K1) :
  Calls Tryz.prog 36 #[.slice a1 n c1, .slice a2 n c2] w fun e w' => e = .returned (.bool true) ∧ Below w.heap.size w w' := by
 have H1 : Hid (RdV w a1 n K1) := h1
 have H2 : Hid (RdV w a2 n K1) := h2
 clear h1 h2
 go_enter Tryz.func36, Tryz.ntmps36
 go_wp2_with fail
 go_loopw [5] (fun i wr => ∃ k : Nat, k ≤ n ∧ i = .int .i64 k ∧ Below w.heap.size w wr) (fun i _ => n - (intOf i).toNat)
 case atStart => exact ⟨0, Nat.zero_le _, rfl, Below.refl _ _⟩
 case round =>
  obtain ⟨k, hk, rfl, hB⟩ := hrel
  by_cases hlt : k < n
  ·
   have hlt' : (k : Int) < n := by omega
   obtain ⟨g, o, ha, hc⟩ := (H1.out.up hB.drew).at hlt
   obtain ⟨g2, o2, ha2, hc2⟩ := (H2.out.up hB.drew).at hlt
   subst ha ha2
   have HC : Hid ((∀ j, j < 7 → wr.drew.cell? ⟨g, o + k * 7 + j, none⟩ = (K1 k).flight[j]?) ∧ ∀ j, j < 7 → wr.drew.cell? ⟨g2, o2 + k * 7 + j, none⟩ = (K1 k).flight[j]?) := ⟨hc, hc2⟩
   clear hc hc2
   go_wp2_with fail
   refine wp_region_held_drew (S := fun w' => (∀ j, j < 7 → w'.cell? ⟨g, o + k * 7 + j, none⟩ = (K1 k).flight[j]?) ∧ ∀ j, j < 7 → w'.cell? ⟨g2, o2 + k * 7 + j, none⟩ = (K1 k).flight[j]?) (by kernel_rfl) HC.out (fun hHeld => ?_)
   refine tP 0 17 ?_
   try simp only [Act.put, PZ]
   refine tP 1 18 ?_
   try simp only [Act.put, PZ]
   refine tP 2 19 ?_
   try simp only [Act.put, PZ]
   refine tC 3 20 (v := .agg (K1 k).flight) (fun wx hSw => run_ldT 122 7 _ Tryz.underlying122 rfl infoFl7 (.tmp 19) rfl g (o + k * 7) rfl (K1 k).flight rfl hSw.1) ?_
   try simp only [Act.put, PZ]
   refine tP 4 21 ?_
   try simp only [Act.put, PZ]
   refine tP 5 22 ?_
   try simp only [Act.put, PZ]
   refine tP 6 23 ?_
   try simp only [Act.put, PZ]
   refine tC 7 24 (v := .agg (K1 k).flight) (fun wx hSw => run_ldT 122 7 _ Tryz.underlying122 rfl infoFl7 (.tmp 23) rfl g2 (o2 + k * 7) rfl (K1 k).flight rfl hSw.2) ?_
   try simp only [Act.put, PZ]
   refine wpAnyH_ready (rs := [8]) (by kernel_rfl) (by simp) ?_
   refine AllReadyH.cons rfl (fun K hK => ?_) AllReadyH.nil
   go_simp
   refine (eqFlight_self (K1 k) _).mono ?_
   rintro e w1 ⟨rfl, hb⟩
   have HB1 : Hid (Below w.heap.size w w1) := hB.drew.trans (hb.mono hB.drew.size)
   have HC1 : Hid ((∀ j, j < 7 → w1.cell? ⟨g, o + k * 7 + j, none⟩ = (K1 k).flight[j]?) ∧ ∀ j, j < 7 → w1.cell? ⟨g2, o2 + k * 7 + j, none⟩ = (K1 k).flight[j]?) := ⟨keepT rfl HC.out.1 hb, keepT rfl HC.out.2 hb⟩
   clear hb HC hB
   go_wp2_with fail
   refine hK.out _ _ HC1.out (fun hHeld => ?_)
   clear hK K
   try simp only [Act.put, PZ]
   refine tP 9 26 ?_
   try simp only [Act.put, PZ]
   refine wpAnyH_done (by kernel_rfl) ?_ _
   clear hHeld HC1
   go_wp2_with fail
   go_roundw
   case rel => exact ⟨k + 1, by omega, by go_num, HB1.out⟩
   case measure => simp [intOf]; omega
  ·
   obtain rfl : k = n := by omega
   go_wp2_with fail
   go_ret
   exact ⟨rfl, hB⟩
set_option maxHeartbeats 2000000 in
theorem eqHost_any (l1 l2 : Hst) (w : World) (hs : l1.Small) (h1 : RdHt w l1) (h2 : RdHt w l2) (ha : AlikeH l1 l2) :
  Calls Tryz.prog 85 #[.agg l1.cells, .agg l2.cells] w fun e w' => e = .returned (.bool true) ∧ Below w.heap.size w w' := by
 have HS : Hid l1.Small := hs
 have H1 : Hid (RdHt w l1) := h1
 have hbb : (l1.st != l1.st) = false := by cases l1.st <;> rfl
 obtain ⟨W, eW⟩ : ∃ W, (w.alloc (.cells l1.cells 73)).alloc (.cells l2.cells 73) = W := ⟨_, rfl⟩
 have HX : Hid (Two w l1.cells l2.cells 73 W) := by rw [← eW]; exact Two.start _ _ _ _
 have HEB : Hid (l2.cells = #[.bool l1.st, .slice l2.aO l1.nO l2.cO, .slice l2.aG l1.nG l2.cG]) := by
  show l2.cells = _
  unfold Hst.cells
  rw [ha.st, ha.nO, ha.nG]
 have c0 : W.cell? ⟨w.heap.size, 0, none⟩ = some (.bool l1.st) := blk_cell HX.out.a 0
 have d0 : W.cell? ⟨w.heap.size + 1, 0, none⟩ = some (.bool l1.st) := by rw [blk_cell HX.out.b 0, HEB.out]; rfl
 have c1 : W.cell? ⟨w.heap.size, 1, none⟩ = some (.slice l1.aO l1.nO l1.cO) := blk_cell HX.out.a 1
 have d1 : W.cell? ⟨w.heap.size + 1, 1, none⟩ = some (.slice l2.aO l1.nO l2.cO) := by rw [blk_cell HX.out.b 1, HEB.out]; rfl
 have HO2 : Hid (RdF w l2.aO l1.nO l1.O) := by have := h2.o; rw [ha.nO, ha.O] at this; exact this
 have HG2 : Hid (RdF w l2.aG l1.nG l1.G) := by have := h2.g; rw [ha.nG, ha.G] at this; exact this
 clear hs h1 h2 ha
 go_enter Tryz.func85, Tryz.ntmps85
 go_wp2_with fail
 clear eW c0 d0 c1 d1
 refine (eqFrames_any l1.aO l2.aO l1.nO l1.cO l2.cO l1.O _ HS.out.o (H1.out.o.up HX.out.bel) (HO2.out.up HX.out.bel)).mono ?_
 rintro e w1 ⟨rfl, hb⟩
 replace HX : Hid (Two w l1.cells l2.cells 73 w1) := HX.out.up hb
 clear hb
 have c2 : w1.cell? ⟨w.heap.size, 2, none⟩ = some (.slice l1.aG l1.nG l1.cG) := blk_cell HX.out.a 2
 have d2 : w1.cell? ⟨w.heap.size + 1, 2, none⟩ = some (.slice l2.aG l1.nG l2.cG) := by rw [blk_cell HX.out.b 2, HEB.out]; rfl
 go_wp2_with fail
 clear c2 d2
 refine (eqFrames_any l1.aG l2.aG l1.nG l1.cG l2.cG l1.G _ HS.out.g (H1.out.g.up HX.out.bel) (HG2.out.up HX.out.bel)).mono ?_
 rintro e w2 ⟨rfl, hb⟩
 have B := (HX.out.up hb).bel
 clear hb
 go_wp2_with fail
 go_ret
 exact ⟨rfl, B⟩
set_option maxRecDepth 10000 in
set_option maxHeartbeats 2000000 in
theorem eqHosts_any (a1 a2 : Option Addr) (n c1 c2 : Nat) (L1 L2 : Nat → Hst) (w : World) (hn : n ≤ 1048576) (h1 : RdHs w a1 n L1) (h2 : RdHs w a2 n L2) (hs : ∀ i, i < n → (L1 i).Small) (q1 : ∀ i, i < n → RdHt w (L1 i)) (q2 : ∀ i, i < n → RdHt w (L2 i)) (hl : ∀ i, i < n → AlikeH (L1 i) (L2 i)) :
  Calls Tryz.prog 35 #[.slice a1 n c1, .slice a2 n c2] w fun e w' => e = .returned (.bool true) ∧ Below w.heap.size w w' := by
 have H1 : Hid (RdHs w a1 n L1) := h1
 have H2 : Hid (RdHs w a2 n L2) := h2
 have HS : Hid (∀ i, i < n → (L1 i).Small) := hs
 have Q1 : Hid (∀ i, i < n → RdHt w (L1 i)) := q1
 have Q2 : Hid (∀ i, i < n → RdHt w (L2 i)) := q2
 have HA : Hid (∀ i, i < n → AlikeH (L1 i) (L2 i)) := hl
 clear h1 h2 hs q1 q2 hl
 go_enter Tryz.func35, Tryz.ntmps35
 go_wp2_with fail
 go_loopw [5] (fun i wr => ∃ k : Nat, k ≤ n ∧ i = .int .i64 k ∧ Below w.heap.size w wr) (fun i _ => n - (intOf i).toNat)
 case atStart => exact ⟨0, Nat.zero_le _, rfl, Below.refl _ _⟩
 case round =>
  obtain ⟨k, hk, rfl, hB⟩ := hrel
  by_cases hlt : k < n
  ·
   have hlt' : (k : Int) < n := by omega
   obtain ⟨g, o, ha, hc⟩ := (H1.out.up hB.drew).at hlt
   obtain ⟨g2, o2, ha2, hc2⟩ := (H2.out.up hB.drew).at hlt
   subst ha ha2
   have HC : Hid ((∀ j, j < 3 → wr.drew.cell? ⟨g, o + k * 3 + j, none⟩ = (L1 k).cells[j]?) ∧ ∀ j, j < 3 → wr.drew.cell? ⟨g2, o2 + k * 3 + j, none⟩ = (L2 k).cells[j]?) := ⟨hc, hc2⟩
   clear hc hc2
   go_wp2_with fail
   refine wp_region_held_drew (S := fun w' => (∀ j, j < 3 → w'.cell? ⟨g, o + k * 3 + j, none⟩ = (L1 k).cells[j]?) ∧ ∀ j, j < 3 → w'.cell? ⟨g2, o2 + k * 3 + j, none⟩ = (L2 k).cells[j]?) (by kernel_rfl) HC.out (fun hHeld => ?_)
   refine tP 0 17 ?_
   try simp only [Act.put, PZ]
   refine tP 1 18 ?_
   try simp only [Act.put, PZ]
   refine tP 2 19 ?_
   try simp only [Act.put, PZ]
   refine tC 3 20 (v := .agg (L1 k).cells) (fun wx hSw => run_ldT 73 3 _ Tryz.underlying73 rfl infoHt3 (.tmp 19) rfl g (o + k * 3) rfl (L1 k).cells rfl hSw.1) ?_
   try simp only [Act.put, PZ]
   refine tP 4 21 ?_
   try simp only [Act.put, PZ]
   refine tP 5 22 ?_
   try simp only [Act.put, PZ]
   refine tP 6 23 ?_
   try simp only [Act.put, PZ]
   refine tC 7 24 (v := .agg (L2 k).cells) (fun wx hSw => run_ldT 73 3 _ Tryz.underlying73 rfl infoHt3 (.tmp 23) rfl g2 (o2 + k * 3) rfl (L2 k).cells rfl hSw.2) ?_
   try simp only [Act.put, PZ]
   refine wpAnyH_ready (rs := [8]) (by kernel_rfl) (by simp) ?_
   refine AllReadyH.cons rfl (fun K hK => ?_) AllReadyH.nil
   go_simp
   refine (eqHost_any (L1 k) (L2 k) _ (HS.out k hlt) ((Q1.out k hlt).up hB.drew) ((Q2.out k hlt).up hB.drew) (HA.out k hlt)).mono ?_
   rintro e w1 ⟨rfl, hb⟩
   have HB1 : Hid (Below w.heap.size w w1) := hB.drew.trans (hb.mono hB.drew.size)
   have HC1 : Hid ((∀ j, j < 3 → w1.cell? ⟨g, o + k * 3 + j, none⟩ = (L1 k).cells[j]?) ∧ ∀ j, j < 3 → w1.cell? ⟨g2, o2 + k * 3 + j, none⟩ = (L2 k).cells[j]?) := ⟨keepT rfl HC.out.1 hb, keepT rfl HC.out.2 hb⟩
   clear hb HC hB
   go_wp2_with fail
   refine hK.out _ _ HC1.out (fun hHeld => ?_)
   clear hK K
   try simp only [Act.put, PZ]
   refine tP 9 26 ?_
   try simp only [Act.put, PZ]
   refine wpAnyH_done (by kernel_rfl) ?_ _
   clear hHeld HC1
   go_wp2_with fail
   go_roundw
   case rel => exact ⟨k + 1, by omega, by go_num, HB1.out⟩
   case measure => simp [intOf]; omega
  ·
   obtain rfl : k = n := by omega
   go_wp2_with fail
   go_ret
   exact ⟨rfl, hB⟩
set_option maxRecDepth 10000 in
set_option maxHeartbeats 4000000 in
theorem eqFabric_any (A B : Fab) (w : World) (hs : A.Small) (h1 : RdFb w A) (h2 : RdFb w B) (ha : AlikeF A B) :
  Calls Tryz.prog 9 #[.agg A.cells, .agg B.cells] w fun e w' => e = .returned (.bool true) ∧ Below w.heap.size w w' := by
 have HS : Hid A.Small := hs
 have H1 : Hid (RdFb w A) := h1
 have HG : Hid (AlikeG A.S B.S) := ha.s
 have HH : Hid (∀ i, i < A.nH → AlikeH (A.H i) (B.H i)) := ha.h
 have HS2 : Hid (RdSg w B.S) := h2.s
 have HH2 : Hid (RdHs w B.aH A.nH B.H) := by have := h2.h; rw [ha.nH] at this; exact this
 have HQ2 : Hid (∀ i, i < A.nH → RdHt w (B.H i)) := by have := h2.hs; rw [ha.nH] at this; exact this
 have HU2 : Hid (RdV w B.aU A.nU A.U) := by have := h2.u; rw [ha.nU, ha.u] at this; exact this
 have HD2 : Hid (RdV w B.aD A.nD A.D) := by have := h2.d; rw [ha.nD, ha.d] at this; exact this
 have HEB : Hid (∀ j, 17 ≤ j → j < 20 → B.cells[j]? = #[.slice B.aH A.nH B.cH, .slice B.aU A.nU B.cU, .slice B.aD A.nD B.cD][j - 17]?) := by
  intro j hj hj2
  have : j = 17 ∨ j = 18 ∨ j = 19 := by omega
  rcases this with rfl | rfl | rfl
  ·
   rw [← ha.nH]; rfl
  ·
   rw [← ha.nU]; rfl
  ·
   rw [← ha.nD]; rfl
 obtain ⟨W, eW⟩ : ∃ W, (w.alloc (.cells A.cells 49)).alloc (.cells B.cells 49) = W := ⟨_, rfl⟩
 have HX : Hid (Two w A.cells B.cells 49 W) := by rw [← eW]; exact Two.start _ _ _ _
 have HL : Hid ((∀ j, j < 17 → W.cell? ⟨w.heap.size, 0 + j, none⟩ = A.S.cells[j]?) ∧ ∀ j, j < 17 → W.cell? ⟨w.heap.size + 1, 0 + j, none⟩ = B.S.cells[j]?) := ⟨blkSw HX.out.a, blkSw HX.out.b⟩
 clear hs h1 h2 ha
 go_enter Tryz.func9, Tryz.ntmps9
 go_wp2_with (first | refine wpList_ldT rfl 45 17 _ Tryz.underlying45 rfl infoSgI (.tmp 5) rfl w.heap.size 0 rfl A.S.cells rfl HL.out.1 ?_ | refine wpList_ldT rfl 45 17 _ Tryz.underlying45 rfl infoSgI (.tmp 7) rfl (w.heap.size + 1) 0 rfl B.S.cells rfl HL.out.2 ?_)
 clear eW HL
 refine (eqSwitchG_any A.S B.S _ HS.out.s (H1.out.s.up HX.out.bel) (HS2.out.up HX.out.bel) HG.out).mono ?_
 rintro e w1 ⟨rfl, hb⟩
 replace HX : Hid (Two w A.cells B.cells 49 w1) := HX.out.up hb
 clear hb
 have c17 : w1.cell? ⟨w.heap.size, 17, none⟩ = some (.slice A.aH A.nH A.cH) := blk_cell HX.out.a 17
 have d17 : w1.cell? ⟨w.heap.size + 1, 17, none⟩ = some (.slice B.aH A.nH B.cH) := by rw [blk_cell HX.out.b 17, HEB.out 17 (by omega) (by omega)]; rfl
 go_wp2_with fail
 clear c17 d17
 refine (eqHosts_any A.aH B.aH A.nH A.cH B.cH A.H B.H _ HS.out.h (H1.out.h.up HX.out.bel) (HH2.out.up HX.out.bel) HS.out.hs (fun i hi => (H1.out.hs i hi).up HX.out.bel) (fun i hi => (HQ2.out i hi).up HX.out.bel) HH.out).mono ?_
 rintro e w2 ⟨rfl, hb⟩
 replace HX : Hid (Two w A.cells B.cells 49 w2) := HX.out.up hb
 clear hb
 have c18 : w2.cell? ⟨w.heap.size, 18, none⟩ = some (.slice A.aU A.nU A.cU) := blk_cell HX.out.a 18
 have d18 : w2.cell? ⟨w.heap.size + 1, 18, none⟩ = some (.slice B.aU A.nU B.cU) := by rw [blk_cell HX.out.b 18, HEB.out 18 (by omega) (by omega)]; rfl
 go_wp2_with fail
 clear c18 d18
 refine (eqFlights_any A.aU B.aU A.nU A.cU B.cU A.U _ HS.out.u (H1.out.u.up HX.out.bel) (HU2.out.up HX.out.bel)).mono ?_
 rintro e w3 ⟨rfl, hb⟩
 replace HX : Hid (Two w A.cells B.cells 49 w3) := HX.out.up hb
 clear hb
 have c19 : w3.cell? ⟨w.heap.size, 19, none⟩ = some (.slice A.aD A.nD A.cD) := blk_cell HX.out.a 19
 have d19 : w3.cell? ⟨w.heap.size + 1, 19, none⟩ = some (.slice B.aD A.nD B.cD) := by rw [blk_cell HX.out.b 19, HEB.out 19 (by omega) (by omega)]; rfl
 go_wp2_with fail
 clear c19 d19
 refine (eqFlights_any A.aD B.aD A.nD A.cD B.cD A.D _ HS.out.d (H1.out.d.up HX.out.bel) (HD2.out.up HX.out.bel)).mono ?_
 rintro e w4 ⟨rfl, hb⟩
 have B9 := (HX.out.up hb).bel
 clear hb
 go_wp2_with fail
 go_ret
 exact ⟨rfl, B9⟩
open Go.ChangeShapes Go.WideShapes Go.ChangeAt Go.RowKit
set_option maxRecDepth 100000
theorem laidOutC : laidOutB Tryz.prog = true := by kernel_rfl
theorem ownOkC : ownKnob Tryz.prog.godebug = none := by kernel_rfl
theorem addr_addC (b off i : Nat) : (⟨b, off, none⟩ : Addr).add i = ⟨b, off + i, none⟩ := by unfold Addr.add; split <;> simp_all
theorem open_boolRowC {H : Type} {enc : TypeId × Value → H} {W : World} {held : Bool} {fuel : Nat} {v : Value} {x : DataW H × List MemPlace}
  (h : DataW.trod enc Tryz.prog W 0 (fun _ => true) held fuel 26 [v] = some x) : ∃ (a : Option Addr) (n c : Nat) (f : Nat → Bool), v = .slice a n c ∧ n ≤ maxLen ∧ RdRow W a n (fun i => .bool (f i)) := by
 rcases Go.Deep.open_bools Tryz.underlying26 Tryz.underlying4 (by kernel_rfl) h with ⟨hcs, _⟩ | ⟨x, l, c, B, hcs, _, hl, hm, _, hcell⟩
 ·
  simp at hcs
  exact ⟨_, _, _, fun _ => false, hcs, Nat.zero_le _, RdRow.nil _ _ _⟩
 ·
  simp at hcs
  refine ⟨_, _, _, B, hcs, by omega, fun i hi => ?_⟩
  have hci := hcell i (by omega)
  obtain ⟨b, off, spot⟩ := x
  have hspot : spot = none := by simpa [Addr.add] using World.cell?_spot (hcell 0 (by omega))
  subst hspot
  refine ⟨b, off, rfl, ?_⟩
  rw [addr_addC] at hci
  exact hci
theorem addr_addR (b off i : Nat) : (⟨b, off, none⟩ : Addr).add i = ⟨b, off + i, none⟩ := by unfold Addr.add; split <;> simp_all
theorem open_intRowR {H : Type} {enc : TypeId × Value → H} {W : World} {held : Bool} {fuel : Nat} {v : Value} {x : DataW H × List MemPlace}
  (h : DataW.trod enc Tryz.prog W 0 (fun _ => true) held fuel 25 [v] = some x) : ∃ (a : Option Addr) (n c : Nat) (f : Nat → Int), v = .slice a n c ∧ n ≤ maxLen ∧ RdRow W a n (fun i => .int .i64 (f i)) := by
 rcases open_ints Tryz.underlying25 Tryz.underlying2 (by kernel_rfl) h with ⟨hcs, _⟩ | ⟨x, l, c, zs, hcs, _, hl, hm, hz, _, hcell, hwz⟩
 ·
  simp at hcs
  exact ⟨_, _, _, fun _ => 0, hcs, Nat.zero_le _, RdRow.nil _ _ _⟩
 ·
  simp at hcs
  refine ⟨_, _, _, fun i => zs.getD i 0, hcs, by omega, fun i hi => ?_⟩
  have hz' : zs.length = c := by simpa using hz
  have hci := hcell i (by omega)
  obtain ⟨b, off, spot⟩ := x
  have hspot : spot = none := by simpa [Addr.add] using World.cell?_spot (hcell 0 (by omega))
  subst hspot
  refine ⟨b, off, rfl, ?_⟩
  rw [addr_addR] at hci
  exact hci
theorem open_rowsR {H : Type} {enc : TypeId × Value → H} {W : World} {held : Bool} {fuel : Nat} {v : Value} {x : DataW H × List MemPlace}
  (h : DataW.trod enc Tryz.prog W 0 (fun _ => true) held fuel 114 [v] = some x) : ∃ (a : Option Addr) (n c : Nat) (A : Nat → Option Addr) (L C : Nat → Nat) (z : Nat → Nat → Int), v = .slice a n c ∧ n ≤ maxLen ∧ RdRow W a n (fun i => .slice (A i) (L i) (C i)) ∧ (∀ i, i < n → L i ≤ maxLen) ∧ ∀ i, i < n → RdRow W (A i) (L i) (fun j => .int .i64 (z i j)) := by
 rcases Go.Deep.open_int_rows Tryz.underlying114 Tryz.underlying25 Tryz.underlying2 (by kernel_rfl) (by kernel_rfl) h with ⟨hcs, _⟩ | ⟨a, len, cap, A, L, C, Z, hcs, _, hl, hm, _, hx⟩
 ·
  simp at hcs
  exact ⟨_, _, _, fun _ => none, fun _ => 0, fun _ => 0, fun _ _ => 0, hcs, Nat.zero_le _, RdRow.nil _ _ _, fun i hi => by omega, fun i hi => by omega⟩
 ·
  simp at hcs
  refine ⟨_, _, _, A, L, C, fun i j => (Z i).getD j 0, hcs, by omega, fun i hi => ?_, fun i hi => ?_, fun i hi j hj => ?_⟩
  ·
   have hci := (hx i (by omega)).1
   obtain ⟨b, off, spot⟩ := a
   have hspot : spot = none := by simpa [Addr.add] using World.cell?_spot (hx 0 (by omega)).1
   subst hspot
   rw [addr_addR] at hci
   exact ⟨b, off, rfl, hci⟩
  ·
   have h1 := hx i (by omega)
   have := h1.2.1
   have := h1.2.2.1
   omega
  ·
   have h1 := hx i (by omega)
   have hLC := h1.2.1
   cases hA : A i with
   | none =>
    have := h1.2.2.2.2.2.1 hA
    omega
   | some a' =>
    have hc := h1.2.2.2.2.2.2 a' hA
    have hci := hc.2 j (by omega)
    obtain ⟨b, off, spot⟩ := a'
    have hspot : spot = none := by simpa [Addr.add] using World.cell?_spot (hc.2 0 (by omega))
    subst hspot
    rw [addr_addR] at hci
    exact ⟨b, off, rfl, hci⟩
theorem addr_addT (b off i : Nat) : (⟨b, off, none⟩ : Addr).add i = ⟨b, off + i, none⟩ := by unfold Addr.add; split <;> simp_all
theorem open_entRow {H : Type} {enc : TypeId × Value → H} {W : World} {held : Bool} {fuel : Nat} {v : Value} {x : DataW H × List MemPlace}
  (h : DataW.trod enc Tryz.prog W 0 (fun _ => true) held fuel 24 [v] = some x) : ∃ (a : Option Addr) (n c : Nat) (f : Nat → Ent), v = .slice a n c ∧ n ≤ maxLen ∧ RdEnt W a n f := by
 rcases Go.Deep.open_slice Tryz.underlying24 h with ⟨hcs, _⟩ | ⟨a, len, cap, m, n, D, Pl, hcs, hb, hl, hm, hmm, _, hx⟩
 ·
  simp at hcs
  exact ⟨_, _, _, fun _ => default, hcs, Nat.zero_le _, RdEnt.nil _ _ _⟩
 ·
  simp at hcs hmm
  subst hmm
  have each : ∀ i, i < m → ∃ y : Ent, W.cell? (a.add (i * 3)) = some (.int .i64 y.m) ∧ W.cell? (a.add (i * 3 + 1)) = some (.int .i64 y.p) ∧ W.cell? (a.add (i * 3 + 2)) = some (.int .i64 y.t) := by
   intro i hi
   obtain ⟨cs', h1, h2⟩ := hx i hi
   rw [show Tryz.prog.cellsOf 167 = 3 by kernel_rfl] at h1
   obtain ⟨_, hlen, hcell⟩ := World.cells?_some h1
   obtain ⟨xs, k, hk, hxy, _, hxl, hf⟩ := DataW.trod_struct Tryz.underlying167 h2
   match xs, hxl, cs', hlen with
   | [y0, y1, y2], _, [v0, v1, v2], _ =>
    have g0 := hf 0 _ rfl
    have g1 := hf 1 _ rfl
    have g2 := hf 2 _ rfl
    simp [show Tryz.prog.cellsOf 2 = 1 by kernel_rfl] at g0 g1 g2
    obtain ⟨z0, q0, _, _⟩ := DataW.trod_int Tryz.underlying2 g0
    obtain ⟨z1, q1, _, _⟩ := DataW.trod_int Tryz.underlying2 g1
    obtain ⟨z2, q2, _, _⟩ := DataW.trod_int Tryz.underlying2 g2
    simp at q0 q1 q2
    subst q0 q1 q2
    have e0 := hcell 0 (by omega)
    have e1 := hcell 1 (by omega)
    have e2 := hcell 2 (by omega)
    rw [Go.Deep.add_add] at e0 e1 e2
    exact ⟨⟨z0, z1, z2⟩, by simpa using e0, by simpa using e1, by simpa using e2⟩
  obtain ⟨f, hf⟩ := Go.Deep.choose_lt each
  refine ⟨_, _, _, f, hcs, by omega, fun i hi => ?_⟩
  obtain ⟨q1, q2, q3⟩ := hf i (by omega)
  obtain ⟨b, off, spot⟩ := a
  have hspot : spot = none := by simpa [Addr.add] using World.cell?_spot (hf 0 (by omega)).1
  subst hspot
  rw [addr_addT] at q1 q2 q3
  exact ⟨b, off, rfl, q1, q2, q3⟩
theorem openL_config {H : Type} {enc : TypeId × Value → H} {W : World} {held : Bool} {fuel : Nat} {cs : List Value} {x : DataW H × List MemPlace}
  (h : DataW.trod enc Tryz.prog W 0 (fun _ => true) held fuel 23 cs = some x) : ∃ C : Cfg, cs = C.cells.toList := by
 obtain ⟨xs, k, _, _, hl, hlen, hfs⟩ := DataW.trod_struct Tryz.underlying23 h
 rw [show Tryz.prog.cellsOf 23 = 7 by kernel_rfl] at hl
 match xs, hlen, cs, hl with
 | [y0, y1, y2, y3, y4, y5, y6], _, [v0, v1, v2, v3, v4, v5, v6], _ =>
  have h0 := hfs 0 _ rfl
  have h1 := hfs 1 _ rfl
  have h2 := hfs 2 _ rfl
  have h3 := hfs 3 _ rfl
  have h4 := hfs 4 _ rfl
  have h5 := hfs 5 _ rfl
  have h6 := hfs 6 _ rfl
  have e0 : Tryz.prog.cellsOf 2 = 1 := by kernel_rfl
  simp [e0] at h0 h1 h2 h3 h4 h5 h6
  obtain ⟨z0, q0, _, _⟩ := DataW.trod_int Tryz.underlying2 h0
  simp at q0
  subst q0
  obtain ⟨z1, q1, _, _⟩ := DataW.trod_int Tryz.underlying2 h1
  simp at q1
  subst q1
  obtain ⟨z2, q2, _, _⟩ := DataW.trod_int Tryz.underlying2 h2
  simp at q2
  subst q2
  obtain ⟨z3, q3, _, _⟩ := DataW.trod_int Tryz.underlying2 h3
  simp at q3
  subst q3
  obtain ⟨z4, q4, _, _⟩ := DataW.trod_int Tryz.underlying2 h4
  simp at q4
  subst q4
  obtain ⟨z5, q5, _, _⟩ := DataW.trod_int Tryz.underlying2 h5
  simp at q5
  subst q5
  obtain ⟨z6, q6, _, _⟩ := DataW.trod_int Tryz.underlying2 h6
  simp at q6
  subst q6
  exact ⟨⟨z0, z1, z2, z3, z4, z5, z6⟩, rfl⟩
theorem openL_counts {H : Type} {enc : TypeId × Value → H} {W : World} {held : Bool} {fuel : Nat} {cs : List Value} {x : DataW H × List MemPlace}
  (h : DataW.trod enc Tryz.prog W 0 (fun _ => true) held fuel 28 cs = some x) : ∃ N : Cnt, cs = N.cells.toList ∧ N.Fit ∧ RdCnt W N := by
 obtain ⟨xs, k, _, _, hl, hlen, hfs⟩ := DataW.trod_struct Tryz.underlying28 h
 rw [show Tryz.prog.cellsOf 28 = 3 by kernel_rfl] at hl
 match xs, hlen, cs, hl with
 | [y0, y1, y2], _, [v0, v1, v2], _ =>
  have h0 := hfs 0 _ rfl
  have h1 := hfs 1 _ rfl
  have h2 := hfs 2 _ rfl
  have e0 : Tryz.prog.cellsOf 25 = 1 := by kernel_rfl
  have e1 : Tryz.prog.cellsOf 2 = 1 := by kernel_rfl
  have e2 : Tryz.prog.cellsOf 26 = 1 := by kernel_rfl
  simp [e0, e1, e2] at h0 h1 h2
  obtain ⟨aU, nU, cU, u, rfl, fu, ru⟩ := open_intRowR h0
  obtain ⟨lo, q1, _, _⟩ := DataW.trod_int Tryz.underlying2 h1
  simp at q1
  subst q1
  obtain ⟨aP, nP, cP, p, rfl, fp, rp⟩ := open_boolRowC h2
  exact ⟨⟨aU, nU, cU, u, lo, aP, nP, cP, p⟩, rfl, ⟨fu, fp⟩, ⟨ru, rp⟩⟩
theorem openL_round {H : Type} {enc : TypeId × Value → H} {W : World} {held : Bool} {fuel : Nat} {cs : List Value} {x : DataW H × List MemPlace}
  (h : DataW.trod enc Tryz.prog W 0 (fun _ => true) held fuel 160 cs = some x) : ∃ R : Rnd, cs = R.cells.toList ∧ R.Fit ∧ RdRnd W R := by
 obtain ⟨xs, k, _, _, hl, hlen, hfs⟩ := DataW.trod_struct Tryz.underlying160 h
 rw [show Tryz.prog.cellsOf 160 = 5 by kernel_rfl] at hl
 match xs, hlen, cs, hl with
 | [y0, y1, y2, y3, y4], _, [v0, v1, v2, v3, v4], _ =>
  have h0 := hfs 0 _ rfl
  have h1 := hfs 1 _ rfl
  have h2 := hfs 2 _ rfl
  have h3 := hfs 3 _ rfl
  have h4 := hfs 4 _ rfl
  have e0 : Tryz.prog.cellsOf 25 = 1 := by kernel_rfl
  have e1 : Tryz.prog.cellsOf 2 = 1 := by kernel_rfl
  have e2 : Tryz.prog.cellsOf 4 = 1 := by kernel_rfl
  have e3 : Tryz.prog.cellsOf 114 = 1 := by kernel_rfl
  simp [e0, e1, e2, e3] at h0 h1 h2 h3 h4
  obtain ⟨aQ, nQ, cQ, q, rfl, fq, rq⟩ := open_intRowR h0
  obtain ⟨aD, nD, cD, d, rfl, fd, rd⟩ := open_intRowR h1
  obtain ⟨tn, q2, _, _⟩ := DataW.trod_int Tryz.underlying2 h2
  simp at q2
  subst q2
  obtain ⟨fr, q3, _⟩ := DataW.trod_bool Tryz.underlying4 h3
  simp at q3
  subst q3
  obtain ⟨aS, nS, cS, A, L, C, z, rfl, fs, rs, fl, rz⟩ := open_rowsR h4
  exact ⟨⟨aQ, nQ, cQ, q, aD, nD, cD, d, tn, fr, aS, nS, cS, A, L, C, z⟩, rfl, ⟨fq, fd, fs, fl⟩, ⟨rq, rd, rs, rz⟩⟩
theorem openL_lane {H : Type} {enc : TypeId × Value → H} {W : World} {held : Bool} {fuel : Nat} {cs : List Value} {x : DataW H × List MemPlace}
  (h : DataW.trod enc Tryz.prog W 0 (fun _ => true) held fuel 162 cs = some x) : ∃ l : Lng, cs = l.cells.toList ∧ l.Fit ∧ RdLg W l := by
 obtain ⟨xs, k, _, _, hl, hlen, hfs⟩ := DataW.trod_struct Tryz.underlying162 h
 rw [show Tryz.prog.cellsOf 162 = 8 by kernel_rfl] at hl
 match xs, hlen, cs, hl with
 | [y0, y1, y2, y3], _, [v0, v1, v2, v3, v4, v5, v6, v7], _ =>
  have h0 := hfs 0 _ rfl
  have h1 := hfs 1 _ rfl
  have h2 := hfs 2 _ rfl
  have h3 := hfs 3 _ rfl
  have e0 : Tryz.prog.cellsOf 4 = 1 := by kernel_rfl
  have e1 : Tryz.prog.cellsOf 25 = 1 := by kernel_rfl
  have e2 : Tryz.prog.cellsOf 114 = 1 := by kernel_rfl
  have e3 : Tryz.prog.cellsOf 160 = 5 := by kernel_rfl
  simp [e0, e1, e2, e3] at h0 h1 h2 h3
  obtain ⟨st, q0, _⟩ := DataW.trod_bool Tryz.underlying4 h0
  simp at q0
  subst q0
  obtain ⟨aT, nT, cT, t, rfl, ft, rt⟩ := open_intRowR h1
  obtain ⟨aU, nU, cU, uA, uL, uC, uz, rfl, fu, ru, fl, rz⟩ := open_rowsR h2
  obtain ⟨R, q3, fR, rR⟩ := openL_round h3
  simp only [Rnd.cells, List.cons.injEq, and_true] at q3
  obtain ⟨rfl, rfl, rfl, rfl, rfl⟩ := q3
  exact ⟨⟨st, aT, nT, cT, t, aU, nU, cU, uA, uL, uC, uz, R⟩, rfl, ⟨ft, fu, fl, fR⟩, ⟨rt, ru, rz, rR⟩⟩
theorem openL_frame {H : Type} {enc : TypeId × Value → H} {W : World} {held : Bool} {fuel : Nat} {cs : List Value} {x : DataW H × List MemPlace}
  (h : DataW.trod enc Tryz.prog W 0 (fun _ => true) held fuel 102 cs = some x) : ∃ x : Pkt, cs = [.int .i64 x.k, .int .i64 x.d, .int .i64 x.s, .int .i64 x.p, .string x.b] ∧ x.b.size ≤ maxLen := by
 obtain ⟨xs, k, _, _, hl, hlen, hfs⟩ := DataW.trod_struct Tryz.underlying102 h
 rw [show Tryz.prog.cellsOf 102 = 5 by kernel_rfl] at hl
 match xs, hlen, cs, hl with
 | [y0, y1, y2, y3, y4], _, [v0, v1, v2, v3, v4], _ =>
  have h0 := hfs 0 _ rfl
  have h1 := hfs 1 _ rfl
  have h2 := hfs 2 _ rfl
  have h3 := hfs 3 _ rfl
  have h4 := hfs 4 _ rfl
  have e0 : Tryz.prog.cellsOf 2 = 1 := by kernel_rfl
  have e1 : Tryz.prog.cellsOf 9 = 1 := by kernel_rfl
  simp [e0, e1] at h0 h1 h2 h3 h4
  obtain ⟨kk, q0, _, _⟩ := DataW.trod_int Tryz.underlying2 h0
  simp at q0
  subst q0
  obtain ⟨d, q1, _, _⟩ := DataW.trod_int Tryz.underlying2 h1
  simp at q1
  subst q1
  obtain ⟨s, q2, _, _⟩ := DataW.trod_int Tryz.underlying2 h2
  simp at q2
  subst q2
  obtain ⟨p, q3, _, _⟩ := DataW.trod_int Tryz.underlying2 h3
  simp at q3
  subst q3
  obtain ⟨b, q4, _, b4⟩ := DataW.trod_string Tryz.underlying9 h4
  simp at q4
  subst q4
  exact ⟨⟨0, 0, 0, kk, d, s, p, b⟩, rfl, b4⟩
theorem openL_packet {H : Type} {enc : TypeId × Value → H} {W : World} {held : Bool} {fuel : Nat} {cs : List Value} {x : DataW H × List MemPlace}
  (h : DataW.trod enc Tryz.prog W 0 (fun _ => true) held fuel 158 cs = some x) : ∃ x : Pkt, cs = x.cells.toList ∧ x.b.size ≤ maxLen := by
 obtain ⟨xs, k, _, _, hl, hlen, hfs⟩ := DataW.trod_struct Tryz.underlying158 h
 rw [show Tryz.prog.cellsOf 158 = 8 by kernel_rfl] at hl
 match xs, hlen, cs, hl with
 | [y0, y1, y2, y3], _, [v0, v1, v2, v3, v4, v5, v6, v7], _ =>
  have h0 := hfs 0 _ rfl
  have h1 := hfs 1 _ rfl
  have h2 := hfs 2 _ rfl
  have h3 := hfs 3 _ rfl
  have e0 : Tryz.prog.cellsOf 2 = 1 := by kernel_rfl
  have e1 : Tryz.prog.cellsOf 102 = 5 := by kernel_rfl
  simp [e0, e1] at h0 h1 h2 h3
  obtain ⟨id, q0, _, _⟩ := DataW.trod_int Tryz.underlying2 h0
  simp at q0
  subst q0
  obtain ⟨inn, q1, _, _⟩ := DataW.trod_int Tryz.underlying2 h1
  simp at q1
  subst q1
  obtain ⟨refs, q2, _, _⟩ := DataW.trod_int Tryz.underlying2 h2
  simp at q2
  subst q2
  obtain ⟨x, q3, fx⟩ := openL_frame h3
  simp only [Pkt.cells, List.cons.injEq, and_true] at q3
  obtain ⟨rfl, rfl, rfl, rfl, rfl⟩ := q3
  exact ⟨⟨id, inn, refs, x.k, x.d, x.s, x.p, x.b⟩, rfl, fx⟩
instance : Inhabited Pkt := ⟨⟨0, 0, 0, 0, 0, 0, 0, ⟨#[]⟩⟩⟩
instance : Inhabited Lng := ⟨⟨false, none, 0, 0, fun _ => 0, none, 0, 0, fun _ => none, fun _ => 0, fun _ => 0, fun _ _ => 0, ⟨none, 0, 0, fun _ => 0, none, 0, 0, fun _ => 0, 0, false, none, 0, 0, fun _ => none, fun _ => 0, fun _ => 0, fun _ _ => 0⟩⟩⟩
theorem openL_packets {H : Type} {enc : TypeId × Value → H} {W : World} {held : Bool} {fuel : Nat} {v : Value} {x : DataW H × List MemPlace}
  (h : DataW.trod enc Tryz.prog W 0 (fun _ => true) held fuel 29 [v] = some x) : ∃ (a : Option Addr) (n c : Nat) (K : Nat → Pkt), v = .slice a n c ∧ n ≤ maxLen ∧ RdPk W a n K ∧ ∀ i, i < n → (K i).b.size ≤ maxLen := by
 rcases Go.Deep.open_slice Tryz.underlying29 h with ⟨hcs, _⟩ | ⟨a, len, cap, m, n, D, Pl, hcs, hb, hl, hm, hmm, _, hx⟩
 ·
  simp at hcs
  exact ⟨_, _, _, fun _ => ⟨0, 0, 0, 0, 0, 0, 0, ⟨#[]⟩⟩, hcs, Nat.zero_le _, RdPk.nil _ _ _, fun i hi => by omega⟩
 ·
  simp at hcs hmm
  subst hmm
  have each : ∀ i, i < m → ∃ y : Pkt, (∀ j, j < 8 → W.cell? (a.add (i * 8 + j)) = y.cells[j]?) ∧ y.b.size ≤ maxLen := by
   intro i hi
   obtain ⟨cs', h1, h2⟩ := hx i hi
   rw [show Tryz.prog.cellsOf 158 = 8 by kernel_rfl] at h1
   obtain ⟨_, hlen, hcell⟩ := World.cells?_some h1
   obtain ⟨y, e, hy⟩ := openL_packet h2
   refine ⟨y, fun j hj => ?_, hy⟩
   have e0 := hcell j (by omega)
   rw [Go.Deep.add_add] at e0
   rw [e0, ← Array.getElem?_toList, ← e, List.getElem?_eq_getElem (by omega)]
  obtain ⟨f, hf⟩ := Go.Deep.choose_lt each
  refine ⟨_, _, _, f, hcs, by omega, fun i hi => ?_, fun i hi => (hf i (by omega)).2⟩
  have q := (hf i (by omega)).1
  obtain ⟨b, off, spot⟩ := a
  have hspot : spot = none := by
   have h0 := (hf 0 (by omega)).1 0 (by omega)
   rw [Array.getElem?_eq_getElem (by rw [Pkt.cells_size]; omega)] at h0
   simpa [Addr.add] using World.cell?_spot h0
  subst hspot
  refine ⟨b, off, rfl, fun j hj => ?_⟩
  have q2 := q j hj
  rw [addr_addR] at q2
  rw [Nat.add_assoc]
  exact q2
theorem openL_lanes {H : Type} {enc : TypeId × Value → H} {W : World} {held : Bool} {fuel : Nat} {v : Value} {x : DataW H × List MemPlace}
  (h : DataW.trod enc Tryz.prog W 0 (fun _ => true) held fuel 30 [v] = some x) : ∃ (a : Option Addr) (n c : Nat) (K : Nat → Lng), v = .slice a n c ∧ n ≤ maxLen ∧ RdLs W a n K ∧ ∀ i, i < n → (K i).Fit ∧ RdLg W (K i) := by
 rcases Go.Deep.open_slice Tryz.underlying30 h with ⟨hcs, _⟩ | ⟨a, len, cap, m, n, D, Pl, hcs, hb, hl, hm, hmm, _, hx⟩
 ·
  simp at hcs
  exact ⟨_, _, _, fun _ => ⟨false, none, 0, 0, fun _ => 0, none, 0, 0, fun _ => none, fun _ => 0, fun _ => 0, fun _ _ => 0, ⟨none, 0, 0, fun _ => 0, none, 0, 0, fun _ => 0, 0, false, none, 0, 0, fun _ => none, fun _ => 0, fun _ => 0, fun _ _ => 0⟩⟩, hcs, Nat.zero_le _, RdLs.nil _ _ _, fun i hi => by omega⟩
 ·
  simp at hcs hmm
  subst hmm
  have each : ∀ i, i < m → ∃ y : Lng, (∀ j, j < 8 → W.cell? (a.add (i * 8 + j)) = y.cells[j]?) ∧ y.Fit ∧ RdLg W y := by
   intro i hi
   obtain ⟨cs', h1, h2⟩ := hx i hi
   rw [show Tryz.prog.cellsOf 162 = 8 by kernel_rfl] at h1
   obtain ⟨_, hlen, hcell⟩ := World.cells?_some h1
   obtain ⟨y, e, hy⟩ := openL_lane h2
   refine ⟨y, fun j hj => ?_, hy⟩
   have e0 := hcell j (by omega)
   rw [Go.Deep.add_add] at e0
   rw [e0, ← Array.getElem?_toList, ← e, List.getElem?_eq_getElem (by omega)]
  obtain ⟨f, hf⟩ := Go.Deep.choose_lt each
  refine ⟨_, _, _, f, hcs, by omega, fun i hi => ?_, fun i hi => (hf i (by omega)).2⟩
  have q := (hf i (by omega)).1
  obtain ⟨b, off, spot⟩ := a
  have hspot : spot = none := by
   have h0 := (hf 0 (by omega)).1 0 (by omega)
   rw [Array.getElem?_eq_getElem (by rw [Lng.cells_size]; omega)] at h0
   simpa [Addr.add] using World.cell?_spot h0
  subst hspot
  refine ⟨b, off, rfl, fun j hj => ?_⟩
  have q2 := q j hj
  rw [addr_addR] at q2
  rw [Nat.add_assoc]
  exact q2
theorem openL_switch {H : Type} {enc : TypeId × Value → H} {W : World} {held : Bool} {fuel : Nat} {cs : List Value} {x : DataW H × List MemPlace}
  (h : DataW.trod enc Tryz.prog W 0 (fun _ => true) held fuel 32 cs = some x) : ∃ S : Swg, cs = S.cells.toList ∧ S.Fit ∧ RdSg W S := by
 obtain ⟨xs, k, _, _, hl, hlen, hfs⟩ := DataW.trod_struct Tryz.underlying32 h
 rw [show Tryz.prog.cellsOf 32 = 17 by kernel_rfl] at hl
 match xs, hlen, cs, hl with
 | [y0, y1, y2, y3, y4, y5, y6, y7, y8], _, [v0, v1, v2, v3, v4, v5, v6, v7, v8, v9, v10, v11, v12, v13, v14, v15, v16], _ =>
  have h0 := hfs 0 _ rfl
  have h1 := hfs 1 _ rfl
  have h2 := hfs 2 _ rfl
  have h3 := hfs 3 _ rfl
  have h4 := hfs 4 _ rfl
  have h5 := hfs 5 _ rfl
  have h6 := hfs 6 _ rfl
  have h7 := hfs 7 _ rfl
  have h8 := hfs 8 _ rfl
  have e0 : Tryz.prog.cellsOf 23 = 7 := by kernel_rfl
  have e1 : Tryz.prog.cellsOf 2 = 1 := by kernel_rfl
  have e2 : Tryz.prog.cellsOf 24 = 1 := by kernel_rfl
  have e3 : Tryz.prog.cellsOf 28 = 3 := by kernel_rfl
  have e4 : Tryz.prog.cellsOf 29 = 1 := by kernel_rfl
  have e5 : Tryz.prog.cellsOf 30 = 1 := by kernel_rfl
  simp [e0, e1, e2, e3, e4, e5] at h0 h1 h2 h3 h4 h5 h6 h7 h8
  obtain ⟨C, q0⟩ := openL_config h0
  simp only [Cfg.cells, List.cons.injEq, and_true] at q0
  obtain ⟨rfl, rfl, rfl, rfl, rfl, rfl, rfl⟩ := q0
  obtain ⟨now, q1, _, _⟩ := DataW.trod_int Tryz.underlying2 h1
  simp at q1
  subst q1
  obtain ⟨nx, q2, _, _⟩ := DataW.trod_int Tryz.underlying2 h2
  simp at q2
  subst q2
  obtain ⟨aE, nE, cE, e, rfl, fe, re⟩ := open_entRow h3
  obtain ⟨N, q4, fN, rN⟩ := openL_counts h4
  simp only [Cnt.cells, List.cons.injEq, and_true] at q4
  obtain ⟨rfl, rfl, rfl⟩ := q4
  obtain ⟨aK, nK, cK, K, rfl, fk, rk, bk⟩ := openL_packets h5
  obtain ⟨aL, nL, cL, L, rfl, fl, rl, ll⟩ := openL_lanes h6
  obtain ⟨dr, q7, _, _⟩ := DataW.trod_int Tryz.underlying2 h7
  simp at q7
  subst q7
  obtain ⟨lst, q8, _, _⟩ := DataW.trod_int Tryz.underlying2 h8
  simp at q8
  subst q8
  exact ⟨⟨C, now, nx, aE, nE, cE, e, N, aK, nK, cK, K, aL, nL, cL, L, dr, lst⟩, rfl, ⟨fe, fN, fk, bk, fl, fun i hi => (ll i hi).1⟩, ⟨re, rN, rk, rl, fun i hi => (ll i hi).2⟩⟩
theorem openL_flight {H : Type} {enc : TypeId × Value → H} {W : World} {held : Bool} {fuel : Nat} {cs : List Value} {x : DataW H × List MemPlace}
  (h : DataW.trod enc Tryz.prog W 0 (fun _ => true) held fuel 104 cs = some x) : ∃ x : Pkt, cs = x.flight.toList ∧ x.b.size ≤ maxLen := by
 obtain ⟨xs, k, _, _, hl, hlen, hfs⟩ := DataW.trod_struct Tryz.underlying104 h
 rw [show Tryz.prog.cellsOf 104 = 7 by kernel_rfl] at hl
 match xs, hlen, cs, hl with
 | [y0, y1, y2], _, [v0, v1, v2, v3, v4, v5, v6], _ =>
  have h0 := hfs 0 _ rfl
  have h1 := hfs 1 _ rfl
  have h2 := hfs 2 _ rfl
  have e0 : Tryz.prog.cellsOf 2 = 1 := by kernel_rfl
  have e1 : Tryz.prog.cellsOf 102 = 5 := by kernel_rfl
  simp [e0, e1] at h0 h1 h2
  obtain ⟨id, q0, _, _⟩ := DataW.trod_int Tryz.underlying2 h0
  simp at q0
  subst q0
  obtain ⟨inn, q1, _, _⟩ := DataW.trod_int Tryz.underlying2 h1
  simp at q1
  subst q1
  obtain ⟨x, q3, fx⟩ := openL_frame h2
  simp only [List.cons.injEq, and_true] at q3
  obtain ⟨rfl, rfl, rfl, rfl, rfl⟩ := q3
  exact ⟨⟨id, inn, 0, x.k, x.d, x.s, x.p, x.b⟩, rfl, fx⟩
theorem openL_frameP {H : Type} {enc : TypeId × Value → H} {W : World} {held : Bool} {fuel : Nat} {cs : List Value} {x : DataW H × List MemPlace}
  (h : DataW.trod enc Tryz.prog W 0 (fun _ => true) held fuel 102 cs = some x) : ∃ x : Pkt, cs = x.frame.toList ∧ x.b.size ≤ maxLen := openL_frame h
instance : Inhabited Hst := ⟨⟨false, none, 0, 0, fun _ => ⟨0, 0, 0, 0, 0, 0, 0, ⟨#[]⟩⟩, none, 0, 0, fun _ => ⟨0, 0, 0, 0, 0, 0, 0, ⟨#[]⟩⟩⟩⟩
theorem openL_frames {H : Type} {enc : TypeId × Value → H} {W : World} {held : Bool} {fuel : Nat} {v : Value} {x : DataW H × List MemPlace}
  (h : DataW.trod enc Tryz.prog W 0 (fun _ => true) held fuel 83 [v] = some x) : ∃ (a : Option Addr) (n c : Nat) (K : Nat → Pkt), v = .slice a n c ∧ n ≤ maxLen ∧ RdF W a n K ∧ ∀ i, i < n → (K i).b.size ≤ maxLen := by
 rcases Go.Deep.open_slice Tryz.underlying83 h with ⟨hcs, _⟩ | ⟨a, len, cap, m, n, D, Pl, hcs, hb, hl, hm, hmm, _, hx⟩
 ·
  simp at hcs
  exact ⟨_, _, _, fun _ => ⟨0, 0, 0, 0, 0, 0, 0, ⟨#[]⟩⟩, hcs, Nat.zero_le _, RdT.nil _ _ _ _, fun i hi => by omega⟩
 ·
  simp at hcs hmm
  subst hmm
  have each : ∀ i, i < m → ∃ y : Pkt, (∀ j, j < 5 → W.cell? (a.add (i * 5 + j)) = y.frame[j]?) ∧ y.b.size ≤ maxLen := by
   intro i hi
   obtain ⟨cs', h1, h2⟩ := hx i hi
   rw [show Tryz.prog.cellsOf 102 = 5 by kernel_rfl] at h1
   obtain ⟨_, hlen, hcell⟩ := World.cells?_some h1
   obtain ⟨y, e, hy⟩ := openL_frameP h2
   refine ⟨y, fun j hj => ?_, hy⟩
   have e0 := hcell j (by omega)
   rw [Go.Deep.add_add] at e0
   rw [e0, ← Array.getElem?_toList, ← e, List.getElem?_eq_getElem (by omega)]
  obtain ⟨f, hf⟩ := Go.Deep.choose_lt each
  refine ⟨_, _, _, f, hcs, by omega, fun i hi => ?_, fun i hi => (hf i (by omega)).2⟩
  have q := (hf i (by omega)).1
  obtain ⟨b, off, spot⟩ := a
  have hspot : spot = none := by
   have h0 := (hf 0 (by omega)).1 0 (by omega)
   rw [Array.getElem?_eq_getElem (by show 0 < 5; omega)] at h0
   simpa [Addr.add] using World.cell?_spot h0
  subst hspot
  refine ⟨rfl, b, off, rfl, fun j hj => ?_⟩
  have q2 := q j hj
  rw [addr_addR] at q2
  rw [Nat.add_assoc]
  exact q2
theorem openL_flights {H : Type} {enc : TypeId × Value → H} {W : World} {held : Bool} {fuel : Nat} {v : Value} {x : DataW H × List MemPlace}
  (h : DataW.trod enc Tryz.prog W 0 (fun _ => true) held fuel 34 [v] = some x) : ∃ (a : Option Addr) (n c : Nat) (K : Nat → Pkt), v = .slice a n c ∧ n ≤ maxLen ∧ RdV W a n K ∧ ∀ i, i < n → (K i).b.size ≤ maxLen := by
 rcases Go.Deep.open_slice Tryz.underlying34 h with ⟨hcs, _⟩ | ⟨a, len, cap, m, n, D, Pl, hcs, hb, hl, hm, hmm, _, hx⟩
 ·
  simp at hcs
  exact ⟨_, _, _, fun _ => ⟨0, 0, 0, 0, 0, 0, 0, ⟨#[]⟩⟩, hcs, Nat.zero_le _, RdT.nil _ _ _ _, fun i hi => by omega⟩
 ·
  simp at hcs hmm
  subst hmm
  have each : ∀ i, i < m → ∃ y : Pkt, (∀ j, j < 7 → W.cell? (a.add (i * 7 + j)) = y.flight[j]?) ∧ y.b.size ≤ maxLen := by
   intro i hi
   obtain ⟨cs', h1, h2⟩ := hx i hi
   rw [show Tryz.prog.cellsOf 104 = 7 by kernel_rfl] at h1
   obtain ⟨_, hlen, hcell⟩ := World.cells?_some h1
   obtain ⟨y, e, hy⟩ := openL_flight h2
   refine ⟨y, fun j hj => ?_, hy⟩
   have e0 := hcell j (by omega)
   rw [Go.Deep.add_add] at e0
   rw [e0, ← Array.getElem?_toList, ← e, List.getElem?_eq_getElem (by omega)]
  obtain ⟨f, hf⟩ := Go.Deep.choose_lt each
  refine ⟨_, _, _, f, hcs, by omega, fun i hi => ?_, fun i hi => (hf i (by omega)).2⟩
  have q := (hf i (by omega)).1
  obtain ⟨b, off, spot⟩ := a
  have hspot : spot = none := by
   have h0 := (hf 0 (by omega)).1 0 (by omega)
   rw [Array.getElem?_eq_getElem (by show 0 < 7; omega)] at h0
   simpa [Addr.add] using World.cell?_spot h0
  subst hspot
  refine ⟨rfl, b, off, rfl, fun j hj => ?_⟩
  have q2 := q j hj
  rw [addr_addR] at q2
  rw [Nat.add_assoc]
  exact q2
theorem openL_host {H : Type} {enc : TypeId × Value → H} {W : World} {held : Bool} {fuel : Nat} {cs : List Value} {x : DataW H × List MemPlace}
  (h : DataW.trod enc Tryz.prog W 0 (fun _ => true) held fuel 99 cs = some x) : ∃ h : Hst, cs = h.cells.toList ∧ h.Fit ∧ RdHt W h := by
 obtain ⟨xs, k, _, _, hl, hlen, hfs⟩ := DataW.trod_struct Tryz.underlying99 h
 rw [show Tryz.prog.cellsOf 99 = 3 by kernel_rfl] at hl
 match xs, hlen, cs, hl with
 | [y0, y1, y2], _, [v0, v1, v2], _ =>
  have h0 := hfs 0 _ rfl
  have h1 := hfs 1 _ rfl
  have h2 := hfs 2 _ rfl
  have e0 : Tryz.prog.cellsOf 4 = 1 := by kernel_rfl
  have e1 : Tryz.prog.cellsOf 83 = 1 := by kernel_rfl
  simp [e0, e1] at h0 h1 h2
  obtain ⟨st, q0, _⟩ := DataW.trod_bool Tryz.underlying4 h0
  simp at q0
  subst q0
  obtain ⟨aO, nO, cO, O, rfl, fo, ro, bo⟩ := openL_frames h1
  obtain ⟨aG, nG, cG, G, rfl, fg, rg, bg⟩ := openL_frames h2
  exact ⟨⟨st, aO, nO, cO, O, aG, nG, cG, G⟩, rfl, ⟨fo, bo, fg, bg⟩, ⟨ro, rg⟩⟩
theorem openL_hosts {H : Type} {enc : TypeId × Value → H} {W : World} {held : Bool} {fuel : Nat} {v : Value} {x : DataW H × List MemPlace}
  (h : DataW.trod enc Tryz.prog W 0 (fun _ => true) held fuel 33 [v] = some x) : ∃ (a : Option Addr) (n c : Nat) (K : Nat → Hst), v = .slice a n c ∧ n ≤ maxLen ∧ RdHs W a n K ∧ ∀ i, i < n → (K i).Fit ∧ RdHt W (K i) := by
 rcases Go.Deep.open_slice Tryz.underlying33 h with ⟨hcs, _⟩ | ⟨a, len, cap, m, n, D, Pl, hcs, hb, hl, hm, hmm, _, hx⟩
 ·
  simp at hcs
  exact ⟨_, _, _, fun _ => ⟨false, none, 0, 0, fun _ => ⟨0, 0, 0, 0, 0, 0, 0, ⟨#[]⟩⟩, none, 0, 0, fun _ => ⟨0, 0, 0, 0, 0, 0, 0, ⟨#[]⟩⟩⟩, hcs, Nat.zero_le _, RdT.nil _ _ _ _, fun i hi => by omega⟩
 ·
  simp at hcs hmm
  subst hmm
  have each : ∀ i, i < m → ∃ y : Hst, (∀ j, j < 3 → W.cell? (a.add (i * 3 + j)) = y.cells[j]?) ∧ y.Fit ∧ RdHt W y := by
   intro i hi
   obtain ⟨cs', h1, h2⟩ := hx i hi
   rw [show Tryz.prog.cellsOf 99 = 3 by kernel_rfl] at h1
   obtain ⟨_, hlen, hcell⟩ := World.cells?_some h1
   obtain ⟨y, e, hy⟩ := openL_host h2
   refine ⟨y, fun j hj => ?_, hy⟩
   have e0 := hcell j (by omega)
   rw [Go.Deep.add_add] at e0
   rw [e0, ← Array.getElem?_toList, ← e, List.getElem?_eq_getElem (by omega)]
  obtain ⟨f, hf⟩ := Go.Deep.choose_lt each
  refine ⟨_, _, _, f, hcs, by omega, fun i hi => ?_, fun i hi => (hf i (by omega)).2⟩
  have q := (hf i (by omega)).1
  obtain ⟨b, off, spot⟩ := a
  have hspot : spot = none := by
   have h0 := (hf 0 (by omega)).1 0 (by omega)
   rw [Array.getElem?_eq_getElem (by show 0 < 3; omega)] at h0
   simpa [Addr.add] using World.cell?_spot h0
  subst hspot
  refine ⟨rfl, b, off, rfl, fun j hj => ?_⟩
  have q2 := q j hj
  rw [addr_addR] at q2
  rw [Nat.add_assoc]
  exact q2
theorem openL_fabric {H : Type} {enc : TypeId × Value → H} {W : World} {held : Bool} {fuel : Nat} {cs : List Value} {x : DataW H × List MemPlace}
  (h : DataW.trod enc Tryz.prog W 0 (fun _ => true) held fuel 36 cs = some x) : ∃ F : Fab, cs = F.cells.toList ∧ F.Fit ∧ RdFb W F := by
 obtain ⟨xs, k, _, _, hl, hlen, hfs⟩ := DataW.trod_struct Tryz.underlying36 h
 rw [show Tryz.prog.cellsOf 36 = 20 by kernel_rfl] at hl
 match xs, hlen, cs, hl with
 | [y0, y1, y2, y3], _, [v0, v1, v2, v3, v4, v5, v6, v7, v8, v9, v10, v11, v12, v13, v14, v15, v16, v17, v18, v19], _ =>
  have h0 := hfs 0 _ rfl
  have h1 := hfs 1 _ rfl
  have h2 := hfs 2 _ rfl
  have h3 := hfs 3 _ rfl
  have e0 : Tryz.prog.cellsOf 32 = 17 := by kernel_rfl
  have e1 : Tryz.prog.cellsOf 33 = 1 := by kernel_rfl
  have e2 : Tryz.prog.cellsOf 34 = 1 := by kernel_rfl
  simp [e0, e1, e2] at h0 h1 h2 h3
  obtain ⟨S, q0, fS, rS⟩ := openL_switch h0
  simp only [Swg.cells, List.cons.injEq, and_true] at q0
  obtain ⟨rfl, rfl, rfl, rfl, rfl, rfl, rfl, rfl, rfl, rfl, rfl, rfl, rfl, rfl, rfl, rfl, rfl⟩ := q0
  obtain ⟨aH, nH, cH, Hs, rfl, fh, rh, hh⟩ := openL_hosts h1
  obtain ⟨aU, nU, cU, U, rfl, fu, ru, bu⟩ := openL_flights h2
  obtain ⟨aD, nD, cD, D, rfl, fd, rd, bd⟩ := openL_flights h3
  exact ⟨⟨S, aH, nH, cH, Hs, aU, nU, cU, U, aD, nD, cD, D⟩, rfl, ⟨fS, fh, fun i hi => (hh i hi).1, fu, bu, fd, bd⟩, ⟨rS, rh, fun i hi => (hh i hi).2, ru, rd⟩⟩
theorem open_fabric {H : Type} {enc : TypeId × Value → H} {W : World} {b0 : Nat} {held : Bool} {r : Reach} {v : Value} {d : DataW H} {p : List MemPlace}
  (hv : Value.okWide Tryz.prog W r b0 36 v) (h : DataW.Trod enc Tryz.prog W 0 (fun _ => true) held 36 v d p) : ∃ F : Fab, v = .agg F.cells ∧ F.Fit ∧ RdFb W F := by
 obtain ⟨cs, rfl, hsz⟩ := okWide_struct Tryz.underlying36 hv
 obtain ⟨fuel, hf⟩ := h
 obtain ⟨S, e, h1, h2⟩ := openL_fabric hf
 have e2 : cs.toList = S.cells.toList := e
 have e3 : cs = S.cells := Array.toList_inj.1 e2
 exact ⟨S, by rw [e3], h1, h2⟩
end Go.Proofs.YtfkpncopkgidfaaGreat
