import Derived.Test.YtfkpncopkgidfaaGreatN24
import Derived.Test.YtfkpncopkgidfaaGreatN25
namespace Go.Proofs.YtfkpncopkgidfaaGreat
open Go.RowKit
set_option linter.unusedVariables false
set_option linter.unusedSimpArgs false
theorem cellU {w w2 : World} {p : Addr} {v : Value} (h : w.cell? p = some v) (hb : Below w.heap.size w w2) : w2.cell? p = some v := (hb.cell (cellLt h)).trans h
theorem cell_up {w w2 : World} {g o x : Nat} {v0 v1 v3 v4 v5 : Value} {cs : Array Value} (h : w.cell? ⟨g, o, none⟩ = some v0 ∧ w.cell? ⟨g, o + 1, none⟩ = some v1 ∧ Hid (∀ j, j < 5 → w.cell? ⟨g, o + 2 + j, none⟩ = (cs)[j]?) ∧ w.cell? ⟨x, 0, none⟩ = some v3 ∧ w.cell? ⟨x, 7, none⟩ = some v4 ∧ w.cell? ⟨x, 6, none⟩ = some v5) (hb : Below w.heap.size w w2) (hs : cs.size = 5 := by rfl) :
  w2.cell? ⟨g, o, none⟩ = some v0 ∧ w2.cell? ⟨g, o + 1, none⟩ = some v1 ∧ Hid (∀ j, j < 5 → w2.cell? ⟨g, o + 2 + j, none⟩ = (cs)[j]?) ∧ w2.cell? ⟨x, 0, none⟩ = some v3 ∧ w2.cell? ⟨x, 7, none⟩ = some v4 ∧ w2.cell? ⟨x, 6, none⟩ = some v5 :=
 ⟨cellU h.1 hb, cellU h.2.1 hb, keepT hs h.2.2.1.out hb, cellU h.2.2.2.1 hb, cellU h.2.2.2.2.1 hb, cellU h.2.2.2.2.2 hb⟩
set_option maxRecDepth 100000 in
set_option maxHeartbeats 4000000 in
theorem l7Flights_any (F : Fab) (a : Option Addr) (n c : Nat) (U : Nat → Pkt) (w : World) (hn : n ≤ 1048576) (hb : ∀ i, i < n → (U i).b.size ≤ 1048576) (h1 : 0 ≤ F.S.C.p ∧ F.S.C.p ≤ 1000000) (h2 : 0 ≤ F.S.now ∧ F.S.now ≤ 1000000000) (h3 : 0 ≤ F.S.C.dl ∧ F.S.C.dl ≤ 1000000) (hr : RdV w a n U) (ok : Bool) (hok : ok = true ↔ n ≤ 1000 ∧ ∀ i, i < n → (U i).way F.S.C.p F.S.now F.S.C.dl ∧ (U i).fOk) :
  Calls Tryz.prog 23 #[.agg F.cells, .slice a n c] w fun e w' => e = .returned (.bool ok) ∧ Below w.heap.size w w' := by
 have HO : Hid (ok = true ↔ n ≤ 1000 ∧ ∀ i, i < n → (U i).way F.S.C.p F.S.now F.S.C.dl ∧ (U i).fOk) := hok
 have HR : Hid (RdV w a n U) := hr
 have HZ : Hid (∀ i, i < n → (U i).b.size ≤ 1048576) := hb
 have hB : Below (w.heap.size + 1) (w.alloc (.cells F.cells 49)) (w.alloc (.cells F.cells 49)) := Below.refl _ _
 have EW : Hid (IntKind.i64.wrap (F.S.C.p - 1) = F.S.C.p - 1 ∧ IntKind.i64.wrap (F.S.now + 1) = F.S.now + 1 ∧ IntKind.i64.wrap (F.S.now + F.S.C.dl) = F.S.now + F.S.C.dl) := ⟨by rw [IntKind.wrap_i64]; omega, by rw [IntKind.wrap_i64]; omega, by rw [IntKind.wrap_i64]; omega⟩
 clear hok hr hb
 go_enter Tryz.func23, Tryz.ntmps23
 go_wp2_with fail
 go_loopw [5] (fun i wr => ∃ k : Nat, k ≤ n ∧ i = .int .i64 k ∧ (∀ i, i < k → (U i).way F.S.C.p F.S.now F.S.C.dl ∧ (U i).fOk) ∧ Below (w.heap.size + 1) (w.alloc (.cells F.cells 49)) wr) (fun i _ => n - (intOf i).toNat)
 case atStart => exact ⟨0, Nat.zero_le _, rfl, fun i hi => by omega, hB⟩
 case round =>
  clear hB
  obtain ⟨k, hk, rfl, hall, hB⟩ := hrel
  have HA : Hid (∀ i, i < k → (U i).way F.S.C.p F.S.now F.S.C.dl ∧ (U i).fOk) := hall
  clear hall
  by_cases hlt : k < n
  ·
   have hlt' : (k : Int) < n := by omega
   obtain ⟨g, o, ea, hc⟩ := (HR.out.up (under hB.drew)).at hlt
   have kS := kept1 hB.drew
   have HC : Hid (wr.drew.cell? ⟨g, o + k * 7, none⟩ = some (.int .i64 (U k).id) ∧ wr.drew.cell? ⟨g, o + k * 7 + 1, none⟩ = some (.int .i64 (U k).inn) ∧ Hid (∀ j, j < 5 → wr.drew.cell? ⟨g, o + k * 7 + 2 + j, none⟩ = (U k).frame[j]?) ∧ wr.drew.cell? ⟨w.heap.size, 0, none⟩ = some (.int .i64 F.S.C.p) ∧ wr.drew.cell? ⟨w.heap.size, 7, none⟩ = some (.int .i64 F.S.now) ∧ wr.drew.cell? ⟨w.heap.size, 6, none⟩ = some (.int .i64 F.S.C.dl)) := ⟨hc 0 (by omega), hc 1 (by omega), fun j hj => (by
    have := hc (2 + j) (by omega)
    rw [← Nat.add_assoc] at this
    rw [this]
    have : j = 0 ∨ j = 1 ∨ j = 2 ∨ j = 3 ∨ j = 4 := by omega
    rcases this with rfl | rfl | rfl | rfl | rfl <;> rfl), blk_cell kS 0, blk_cell kS 7, blk_cell kS 6⟩
   rw [ea]
   clear ea hc kS
   go_wp2_with fail
   refine wp_region_held_drew (S := fun w' => w'.cell? ⟨g, o + k * 7, none⟩ = some (.int .i64 (U k).id) ∧ w'.cell? ⟨g, o + k * 7 + 1, none⟩ = some (.int .i64 (U k).inn) ∧ Hid (∀ j, j < 5 → w'.cell? ⟨g, o + k * 7 + 2 + j, none⟩ = (U k).frame[j]?) ∧ w'.cell? ⟨w.heap.size, 0, none⟩ = some (.int .i64 F.S.C.p) ∧ w'.cell? ⟨w.heap.size, 7, none⟩ = some (.int .i64 F.S.now) ∧ w'.cell? ⟨w.heap.size, 6, none⟩ = some (.int .i64 F.S.C.dl)) (by kernel_rfl) HC.out (fun hHeld => ?_)
   refine t0 ?_
   try simp only [Act.put, PZ]
   iterate 9 (refine tN ?_; try simp only [Act.put, PZ])
   refine r1 10 (fun K hK => ?_)
   go_simp
   rw [EW.out.1]
   refine (l1In_any (U k).id 0 (F.S.C.p - 1) _).mono ?_
   rintro e w1 ⟨rfl, rfl⟩
   by_cases hp : 0 ≤ (U k).id ∧ (U k).id ≤ F.S.C.p - 1
   ·
    rw [decide_eq_true hp]
    have HP : Hid (0 ≤ (U k).id ∧ (U k).id ≤ F.S.C.p - 1) := hp
    clear hp
    go_wp2_with fail
    refine hK.out _ _ HC.out (fun hHeld => ?_)
    clear hK K
    try simp only [Act.put, PZ]
    iterate 19 (refine tN ?_; try simp only [Act.put, PZ])
    refine r1 30 (fun K hK => ?_)
    go_simp
    rw [EW.out.2.1, EW.out.2.2]
    refine (l1In_any (U k).inn (F.S.now + 1) (F.S.now + F.S.C.dl) _).mono ?_
    rintro e w1 ⟨rfl, rfl⟩
    by_cases ht : F.S.now + 1 ≤ (U k).inn ∧ (U k).inn ≤ F.S.now + F.S.C.dl
    ·
     rw [decide_eq_true ht]
     have HT : Hid (F.S.now + 1 ≤ (U k).inn ∧ (U k).inn ≤ F.S.now + F.S.C.dl) := ht
     clear ht
     go_wp2_with fail
     refine hK.out _ _ HC.out (fun hHeld => ?_)
     clear hK K
     try simp only [Act.put, PZ]
     iterate 3 (refine tN ?_; try simp only [Act.put, PZ])
     iterate 4 (refine tN ?_; try simp only [Act.put, PZ])
     refine tC 38 50 (v := .agg (U k).frame) (fun wx hSw => run_ldT 110 5 _ Tryz.underlying110 rfl infoFr5 (.tmp 49) rfl g (o + k * 7 + 2) rfl (U k).frame rfl hSw.2.2.1.out) ?_
     try simp only [Act.put, PZ]
     obtain ⟨lk, hlk⟩ := ok_decS ((U k).fOk)
     have HL : Hid (lk = true ↔ (U k).fOk) := hlk
     clear hlk
     refine r1 39 (fun K hK => ?_)
     go_simp
     refine (sFrameOk_ok (U k) _ (fitOf (HZ.out k hlt)) lk HL.out).mono ?_
     rintro e w4 ⟨rfl, hb⟩
     have hB4 := next hB.drew hb
     have HC4 : Hid (w4.cell? ⟨g, o + k * 7, none⟩ = some (.int .i64 (U k).id) ∧ w4.cell? ⟨g, o + k * 7 + 1, none⟩ = some (.int .i64 (U k).inn) ∧ Hid (∀ j, j < 5 → w4.cell? ⟨g, o + k * 7 + 2 + j, none⟩ = (U k).frame[j]?) ∧ w4.cell? ⟨w.heap.size, 0, none⟩ = some (.int .i64 F.S.C.p) ∧ w4.cell? ⟨w.heap.size, 7, none⟩ = some (.int .i64 F.S.now) ∧ w4.cell? ⟨w.heap.size, 6, none⟩ = some (.int .i64 F.S.C.dl)) := cell_up HC.out hb
     clear hb HC hB
     go_wp2_with fail
     refine hK.out _ _ HC4.out (fun hHeld => ?_)
     clear hK K
     try simp only [Act.put, PZ]
     cases lk
     ·
      iterate 2 (refine tN ?_; try simp only [Act.put, PZ])
      refine dn ?_
      have HF : Hid (ok = false) := by
       rw [Hid, Bool.eq_false_iff]
       intro e
       exact absurd (HL.out.2 ((HO.out.1 e).2 k hlt).2) (by simp)
      clear hHeld HC4
      go_wp2_with fail
      go_ret
      exact ⟨ret_bool HF.out.symm, under hB4⟩
     ·
      iterate 2 (refine tN ?_; try simp only [Act.put, PZ])
      refine dn ?_
      have HL2 : Hid ((U k).fOk) := HL.out.1 rfl
      clear HL hHeld HC4
      go_wp2_with fail
      go_roundw
      case rel => exact ⟨k + 1, by omega, by go_num, fun i hi => by
       by_cases e : i = k
       ·
        subst e; exact ⟨⟨HP.out, HT.out⟩, HL2.out⟩
       ·
        exact HA.out i (by omega), hB4⟩
      case measure => simp [intOf]; omega
    ·
     rw [decide_eq_false ht]
     have HF : Hid (ok = false) := by
      rw [Hid, Bool.eq_false_iff]
      intro e
      exact ht ((HO.out.1 e).2 k hlt).1.2
     clear ht
     go_wp2_with fail
     refine hK.out _ _ HC.out (fun hHeld => ?_)
     clear hK K
     try simp only [Act.put, PZ]
     iterate 3 (refine tN ?_; try simp only [Act.put, PZ])
     iterate 7 (refine sN ?_; try simp only [Act.put, PZ])
     refine tN ?_
     try simp only [Act.put, PZ]
     refine dn ?_
     clear hHeld HC
     go_wp2_with fail
     go_ret
     exact ⟨ret_bool HF.out.symm, under hB.drew⟩
   ·
    rw [decide_eq_false hp]
    have HF : Hid (ok = false) := by
     rw [Hid, Bool.eq_false_iff]
     intro e
     exact hp ((HO.out.1 e).2 k hlt).1.1
    clear hp
    go_wp2_with fail
    refine hK.out _ _ HC.out (fun hHeld => ?_)
    clear hK K
    try simp only [Act.put, PZ]
    iterate 2 (refine tN ?_; try simp only [Act.put, PZ])
    iterate 19 (refine sN ?_; try simp only [Act.put, PZ])
    iterate 2 (refine tN ?_; try simp only [Act.put, PZ])
    iterate 7 (refine sN ?_; try simp only [Act.put, PZ])
    refine tN ?_
    try simp only [Act.put, PZ]
    refine dn ?_
    clear hHeld HC
    go_wp2_with fail
    go_ret
    exact ⟨ret_bool HF.out.symm, under hB.drew⟩
  ·
   obtain rfl : k = n := by omega
   by_cases hle : k ≤ 1000
   ·
    have hle' : (k : Int) ≤ 1000 := by omega
    have HT : Hid (ok = true) := HO.out.2 ⟨hle, HA.out⟩
    go_wp2_with fail
    go_ret
    exact ⟨ret_bool HT.out.symm, under hB⟩
   ·
    have hle' : ¬ (k : Int) ≤ 1000 := by omega
    have HF : Hid (ok = false) := by
     rw [Hid, Bool.eq_false_iff]
     intro e
     exact hle (HO.out.1 e).1
    go_wp2_with fail
    go_ret
    exact ⟨ret_bool HF.out.symm, under hB⟩
end Go.Proofs.YtfkpncopkgidfaaGreat
