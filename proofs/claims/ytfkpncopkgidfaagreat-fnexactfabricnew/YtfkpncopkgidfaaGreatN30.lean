import Derived.Test.YtfkpncopkgidfaaGreatN04
import Derived.Test.YtfkpncopkgidfaaGreatN13
import Derived.Test.YtfkpncopkgidfaaGreatN15
import Derived.Test.YtfkpncopkgidfaaGreatN18
import Derived.Test.YtfkpncopkgidfaaGreatN23
import Derived.Test.YtfkpncopkgidfaaGreatN24
import Derived.Test.YtfkpncopkgidfaaGreatN25
import Derived.Test.YtfkpncopkgidfaaGreatN27
import Derived.Test.YtfkpncopkgidfaaGreatRows
import Derived.Below
import Derived.ChangeOld
import Derived.Deep.Grids
import Derived.Deep.Matrix
import Derived.Deep.Slices
import Derived.Laws.Rows
import Derived.Laws.Tables
import Derived.Maps.AppendAt
import Derived.OpenShut
import Derived.ProofKit
import Derived.Room.AppendFits
import Derived.ShutString
namespace Go.Proofs.YtfkpncopkgidfaaGreat
open Go.RowKit
set_option linter.unusedVariables false
set_option linter.unusedSimpArgs false
def markR (m j : Nat) : Value := if j % 5 = 4 then .string (mt (m + j)) else .int .i64 ((m + j : Nat) : Int)
theorem markR_i {m k j : Nat} (h : j < 4) : markR m (k * 5 + j) = .int .i64 ((m + k * 5 + j : Nat) : Int) := by
 unfold markR
 rw [if_neg (by omega), Nat.add_assoc]
theorem markR_s {m k : Nat} : markR m (k * 5 + 4) = .string (mt (m + k * 5 + 4)) := by
 unfold markR
 rw [if_pos (by omega), Nat.add_assoc]
set_option maxRecDepth 10000 in
set_option maxHeartbeats 4000000 in
theorem markFrs_any (g n cap m : Nat) (f : Nat → Value) (w : World) (h : RowTo g 110 (n * 5) f (n * 5) w) (hn : n ≤ 1048576) (hm : m ≤ 50000000) :
  Calls Tryz.prog 43 #[.slice (some ⟨g, 0, none⟩) n cap, .int .i64 m] w fun e w' => e = .returned (.int .i64 ((m + n * 5 : Nat) : Int)) ∧ RowTo g 110 (n * 5) (markR m) (n * 5) w' ∧ Touch [g] w w' := by
 have HM : Hid (RowTo g 110 (n * 5) (markR m) (0 * 5) w) := h.anew
 clear h
 go_enter Tryz.func43, Tryz.ntmps43
 go_wp2_with fail
 go_loopw [1, 5] (fun x i wr => ∃ (k : Nat) (q : Int), k ≤ n ∧ i = .int .i64 k ∧ x = .int .i64 q ∧ Hid (q = ((m + k * 5 : Nat) : Int)) ∧ Hid (RowTo g 110 (n * 5) (markR m) (k * 5) wr) ∧ Hid (Touch [g] w wr)) (fun _ i _ => n - (intOf i).toNat)
 case atStart => exact ⟨0, m, Nat.zero_le _, rfl, rfl, by show (m : Int) = _; simp, HM.out, Touch.refl _ _⟩
 case round =>
  obtain ⟨k, q, hk, rfl, rfl, HQ, HR, HT⟩ := hrel
  by_cases hlt : k < n
  ·
   have hlt' : (k : Int) < n := by omega
   have q0 : 0 ≤ q := by have := HQ.out; omega
   have q1 : q ≤ 1000000000 := by have := HQ.out; omega
   obtain ⟨arr, hb, hn2, hc⟩ := HR.out
   have HG : Hid (wr.heap[g]? = some (.cells arr 110 (0, 0))) := hb
   have HN : Hid (n * 5 ≤ arr.size ∧ ∀ i, i < k * 5 + 0 → arr[i]? = some (markR m i)) := ⟨hn2, hc⟩
   clear hb hn2 hc HR
   go_wp2_with (refine wpList_stA rfl 2 (.tmp 16) (.tmp 14) rfl g (k * 5) (by simp [Act.eval]) (.int .i64 q) rfl 1 rfl 110 arr HG.out infoI1 (by have := HN.out.1; omega) (by simp [Value.cells, Value.oneCell']) ?_)
   intro Y0 hP
   have HR : Hid (RowTo g 110 (n * 5) (markR m) (k * 5 + 1) Y0) := rowTo_put1 (k := k * 5 + 0) HN.out.1 HN.out.2 (by omega) (by rw [markR_i (by omega)]; exact int_eq (by have := HQ.out; omega)) hP
   replace HT : Hid (Touch [g] w Y0) := HT.out.trans hP.to
   clear hP HG HN
   obtain ⟨arr, hb, hn2, hc⟩ := HR.out
   have HG : Hid (Y0.heap[g]? = some (.cells arr 110 (0, 0))) := hb
   have HN : Hid (n * 5 ≤ arr.size ∧ ∀ i, i < k * 5 + 1 → arr[i]? = some (markR m i)) := ⟨hn2, hc⟩
   clear hb hn2 hc HR
   go_wp2_with (refine wpList_stA rfl 2 (.tmp 23) (.tmp 21) rfl g (k * 5 + 1) (by simp [Act.eval]) (.int .i64 (q + 1)) rfl 1 rfl 110 arr HG.out infoI1 (by have := HN.out.1; omega) (by simp [Value.cells, Value.oneCell']) ?_)
   intro Y1 hP
   have HR : Hid (RowTo g 110 (n * 5) (markR m) (k * 5 + 2) Y1) := rowTo_put1 (k := k * 5 + 1) HN.out.1 HN.out.2 (by omega) (by rw [markR_i (by omega)]; exact int_eq (by have := HQ.out; omega)) hP
   replace HT : Hid (Touch [g] w Y1) := HT.out.trans hP.to
   clear hP HG HN
   obtain ⟨arr, hb, hn2, hc⟩ := HR.out
   have HG : Hid (Y1.heap[g]? = some (.cells arr 110 (0, 0))) := hb
   have HN : Hid (n * 5 ≤ arr.size ∧ ∀ i, i < k * 5 + 2 → arr[i]? = some (markR m i)) := ⟨hn2, hc⟩
   clear hb hn2 hc HR
   go_wp2_with (refine wpList_stA rfl 2 (.tmp 30) (.tmp 28) rfl g (k * 5 + 2) (by simp [Act.eval]) (.int .i64 (q + 1 + 1)) rfl 1 rfl 110 arr HG.out infoI1 (by have := HN.out.1; omega) (by simp [Value.cells, Value.oneCell']) ?_)
   intro Y2 hP
   have HR : Hid (RowTo g 110 (n * 5) (markR m) (k * 5 + 3) Y2) := rowTo_put1 (k := k * 5 + 2) HN.out.1 HN.out.2 (by omega) (by rw [markR_i (by omega)]; exact int_eq (by have := HQ.out; omega)) hP
   replace HT : Hid (Touch [g] w Y2) := HT.out.trans hP.to
   clear hP HG HN
   obtain ⟨arr, hb, hn2, hc⟩ := HR.out
   have HG : Hid (Y2.heap[g]? = some (.cells arr 110 (0, 0))) := hb
   have HN : Hid (n * 5 ≤ arr.size ∧ ∀ i, i < k * 5 + 3 → arr[i]? = some (markR m i)) := ⟨hn2, hc⟩
   clear hb hn2 hc HR
   go_wp2_with (refine wpList_stA rfl 2 (.tmp 37) (.tmp 35) rfl g (k * 5 + 3) (by simp [Act.eval]) (.int .i64 (q + 1 + 1 + 1)) rfl 1 rfl 110 arr HG.out infoI1 (by have := HN.out.1; omega) (by simp [Value.cells, Value.oneCell']) ?_)
   intro Y3 hP
   have HR : Hid (RowTo g 110 (n * 5) (markR m) (k * 5 + 4) Y3) := rowTo_put1 (k := k * 5 + 3) HN.out.1 HN.out.2 (by omega) (by rw [markR_i (by omega)]; exact int_eq (by have := HQ.out; omega)) hP
   replace HT : Hid (Touch [g] w Y3) := HT.out.trans hP.to
   clear hP HG HN
   obtain ⟨arr, hb, hn2, hc⟩ := HR.out
   have HG : Hid (Y3.heap[g]? = some (.cells arr 110 (0, 0))) := hb
   have HN : Hid (n * 5 ≤ arr.size ∧ ∀ i, i < k * 5 + 4 → arr[i]? = some (markR m i)) := ⟨hn2, hc⟩
   clear hb hn2 hc HR
   go_wp2_with fail
   have hk7 : q + 1 + 1 + 1 + 1 = ((m + k * 5 + 4 : Nat) : Int) := by have := HQ.out; omega
   rw [hk7]
   refine (markText_any (m + k * 5 + 4) _ (by omega)).mono ?_
   rintro e wm ⟨rfl, hbm⟩
   replace HT : Hid (Touch [g] w wm) := HT.out.trans (Touch.ofBelow hbm)
   replace HG : Hid (wm.heap[g]? = some (.cells arr 110 (0, 0))) := (hbm.block _ (blk_lt HG.out)).trans HG.out
   clear hbm
   go_wp2_with (refine wpList_stA rfl 9 (.tmp 45) (.tmp 43) rfl g (k * 5 + 4) (by simp [Act.eval]) (.string (mt (m + k * 5 + 4))) rfl 1 rfl 110 arr HG.out (by kernel_rfl) (by have := HN.out.1; omega) (by simp [Value.cells, Value.oneCell']) ?_)
   intro Y4 hP
   have HR : Hid (RowTo g 110 (n * 5) (markR m) (k * 5 + 5) Y4) := rowTo_put1 (k := k * 5 + 4) HN.out.1 HN.out.2 (by omega) markR_s hP
   replace HT : Hid (Touch [g] w Y4) := HT.out.trans hP.to
   clear hP HG HN
   go_wp2_with fail
   go_roundw
   case rel => exact ⟨k + 1, _, by omega, by go_num, rfl, by unfold Hid; omega, by show RowTo _ _ _ _ ((k + 1) * 5) _; rw [show (k + 1) * 5 = k * 5 + 5 by omega]; exact HR.out, HT⟩
   case measure => simp [intOf]; omega
  ·
   obtain rfl : k = n := by omega
   go_wp2_with fail
   go_ret
   exact ⟨ret_int HQ.out, HR.out, HT.out⟩
set_option maxRecDepth 10000 in
set_option maxHeartbeats 4000000 in
theorem heldFrs_any (g n cap m : Nat) (w : World) (h : RowTo g 110 (n * 5) (markR m) (n * 5) w) (hn : n ≤ 1048576) (hm : m ≤ 50000000) :
  Calls Tryz.prog 106 #[.slice (some ⟨g, 0, none⟩) n cap, .int .i64 m] w fun e w' => e = .returned (.int .i64 ((m + n * 5 : Nat) : Int)) ∧ Below w.heap.size w w' := by
 have HR : Hid (RowTo g 110 (n * 5) (markR m) (n * 5) w) := h
 clear h
 go_enter Tryz.func106, Tryz.ntmps106
 go_wp2_with fail
 go_loopw [1, 5] (fun x i wr => ∃ (k : Nat) (q : Int), k ≤ n ∧ i = .int .i64 k ∧ x = .int .i64 q ∧ Hid (q = ((m + k * 5 : Nat) : Int)) ∧ Hid (Below w.heap.size w wr)) (fun _ i _ => n - (intOf i).toNat)
 case atStart => exact ⟨0, m, Nat.zero_le _, rfl, rfl, by unfold Hid; simp, Below.refl _ _⟩
 case round =>
  obtain ⟨k, q, hk, rfl, rfl, HQ, HB⟩ := hrel
  by_cases hlt : k < n
  ·
   have hlt' : (k : Int) < n := by omega
   have q0 : 0 ≤ q := by have := HQ.out; omega
   have q1 : q ≤ 1000000000 := by have := HQ.out; omega
   have HRr : Hid (RowTo g 110 (n * 5) (markR m) (n * 5) wr) := HR.out.keep (HB.out.block _ HR.out.lt)
   have c0 : wr.cell? ⟨g, k * 5, none⟩ = some (.int .i64 (q)) := by rw [HRr.out.at _ (by omega), show k * 5 = k * 5 + 0 by omega, markR_i (m := m) (k := k) (j := 0) (by omega)]; exact congrArg some (int_eq (by have := HQ.out; omega))
   have c1 : wr.cell? ⟨g, k * 5 + 1, none⟩ = some (.int .i64 (q + 1)) := by rw [HRr.out.at _ (by omega), markR_i (m := m) (k := k) (j := 1) (by omega)]; exact congrArg some (int_eq (by have := HQ.out; omega))
   have c2 : wr.cell? ⟨g, k * 5 + 2, none⟩ = some (.int .i64 (q + 1 + 1)) := by rw [HRr.out.at _ (by omega), markR_i (m := m) (k := k) (j := 2) (by omega)]; exact congrArg some (int_eq (by have := HQ.out; omega))
   have c3 : wr.cell? ⟨g, k * 5 + 3, none⟩ = some (.int .i64 (q + 1 + 1 + 1)) := by rw [HRr.out.at _ (by omega), markR_i (m := m) (k := k) (j := 3) (by omega)]; exact congrArg some (int_eq (by have := HQ.out; omega))
   have c4 : wr.cell? ⟨g, k * 5 + 4, none⟩ = some (.string (mt (m + k * 5 + 4))) := by rw [HRr.out.at _ (by omega), markR_s]
   have hk7 : q + 1 + 1 + 1 + 1 = ((m + k * 5 + 4 : Nat) : Int) := by have := HQ.out; omega
   have HK7 : Hid (q + 1 + 1 + 1 + 1 = ((m + k * 5 + 4 : Nat) : Int)) := hk7
   clear hk7 HRr
   go_wp2_with fail
   clear c0 c1 c2 c3
   refine wp_region_held_drew (S := fun w' => w'.cell? ⟨g, k * 5 + 4, none⟩ = some (.string (mt (m + k * 5 + 4)))) (by kernel_rfl) c4 (fun hHeld => ?_)
   refine tC 0 48 (v := ?_) ?_ ?_
   rotate_left
   ·
    intro wx hSw
    try dsimp only at hSw
    go_simp
    try with_reducible rfl
   try simp only [Act.put, PZ]
   refine tC 1 49 (v := ?_) ?_ ?_
   rotate_left
   ·
    intro wx hSw
    try dsimp only at hSw
    go_simp
    try with_reducible rfl
   try simp only [Act.put, PZ]
   refine tC 2 50 (v := ?_) ?_ ?_
   rotate_left
   ·
    intro wx hSw
    try dsimp only at hSw
    go_simp
    try with_reducible rfl
   try simp only [Act.put, PZ]
   refine tC 3 51 (v := ?_) ?_ ?_
   rotate_left
   ·
    intro wx hSw
    try dsimp only at hSw
    go_simp
    try with_reducible rfl
   try simp only [Act.put, PZ]
   refine tC 4 52 (v := ?_) ?_ ?_
   rotate_left
   ·
    intro wx hSw
    try dsimp only at hSw
    go_simp
    try with_reducible rfl
   try simp only [Act.put, PZ]
   refine tC 5 53 (v := ?_) ?_ ?_
   rotate_left
   ·
    intro wx hSw
    try dsimp only at hSw
    go_simp
    try with_reducible rfl
   try simp only [Act.put, PZ]
   refine r1 6 (fun K hK => ?_)
   go_simp
   rw [HK7.out]
   refine (markText_any (m + k * 5 + 4) _ (by omega)).mono ?_
   rintro e wm ⟨rfl, hbm⟩
   have HB2 : Hid (Below w.heap.size w wm) := HB.out.drew.trans (hbm.mono HB.out.drew.size)
   have c42 : wm.cell? ⟨g, k * 5 + 4, none⟩ = some (.string (mt (m + k * 5 + 4))) := (hbm.cell (p := ⟨g, k * 5 + 4, none⟩) (cellLt (w := wr.drew) c4)).trans c4
   clear hbm c4 HB
   go_wp2_with fail
   refine hK.out _ _ c42 (fun hHeld => ?_)
   clear hK K
   try simp only [Act.put, PZ]
   refine tC 7 55 (v := ?_) ?_ ?_
   rotate_left
   ·
    intro wx hSw
    try dsimp only at hSw
    go_simp
    try with_reducible rfl
   try simp only [Act.put, PZ]
   refine dn ?_
   clear hHeld c42
   go_wp2_with fail
   go_roundw
   case rel => exact ⟨k + 1, _, by omega, by go_num, rfl, by unfold Hid; have := HK7.out; omega, HB2⟩
   case measure => simp [intOf]; omega
  ·
   obtain rfl : k = n := by omega
   go_wp2_with fail
   go_ret
   exact ⟨ret_int HQ.out, HB.out⟩
theorem markFrs0 (a : Option Addr) (cap m : Nat) (w : World) : Calls Tryz.prog 43 #[.slice a 0 cap, .int .i64 m] w fun e w' => e = .returned (.int .i64 (m : Int)) ∧ w' = w := by
 go_enter Tryz.func43, Tryz.ntmps43
 go_wp2_with fail
 go_loop [1, 5] (fun x i => i = .int .i64 0 ∧ x = .int .i64 (m : Int)) (fun _ _ => 0)
 case atStart => exact ⟨rfl, rfl⟩
 case round =>
  obtain ⟨rfl, rfl⟩ := hrel
  go_wp2_with fail
  go_ret
  exact ⟨rfl, rfl⟩
theorem heldFrs0 (a : Option Addr) (cap m : Nat) (w : World) : Calls Tryz.prog 106 #[.slice a 0 cap, .int .i64 m] w fun e w' => e = .returned (.int .i64 (m : Int)) ∧ w' = w := by
 go_enter Tryz.func106, Tryz.ntmps106
 go_wp2_with fail
 go_loop [1, 5] (fun x i => i = .int .i64 0 ∧ x = .int .i64 (m : Int)) (fun _ _ => 0)
 case atStart => exact ⟨rfl, rfl⟩
 case round =>
  obtain ⟨rfl, rfl⟩ := hrel
  go_wp2_with fail
  go_ret
  exact ⟨rfl, rfl⟩
theorem markFls0 (a : Option Addr) (cap m : Nat) (w : World) : Calls Tryz.prog 46 #[.slice a 0 cap, .int .i64 m] w fun e w' => e = .returned (.int .i64 (m : Int)) ∧ w' = w := by
 go_enter Tryz.func46, Tryz.ntmps46
 go_wp2_with fail
 go_loop [1, 5] (fun x i => i = .int .i64 0 ∧ x = .int .i64 (m : Int)) (fun _ _ => 0)
 case atStart => exact ⟨rfl, rfl⟩
 case round =>
  obtain ⟨rfl, rfl⟩ := hrel
  go_wp2_with fail
  go_ret
  exact ⟨rfl, rfl⟩
theorem heldFls0 (a : Option Addr) (cap m : Nat) (w : World) : Calls Tryz.prog 49 #[.slice a 0 cap, .int .i64 m] w fun e w' => e = .returned (.int .i64 (m : Int)) ∧ w' = w := by
 go_enter Tryz.func49, Tryz.ntmps49
 go_wp2_with fail
 go_loop [1, 5] (fun x i => i = .int .i64 0 ∧ x = .int .i64 (m : Int)) (fun _ _ => 0)
 case atStart => exact ⟨rfl, rfl⟩
 case round =>
  obtain ⟨rfl, rfl⟩ := hrel
  go_wp2_with fail
  go_ret
  exact ⟨rfl, rfl⟩
theorem markFrV_any (a : Option Addr) (n cap m base : Nat) (f : Nat → Value) (w : World) (h : VT 110 w base a (n * 5) f) (hn : n ≤ 1048576) (hm : m ≤ 50000000) :
  Calls Tryz.prog 43 #[.slice a n cap, .int .i64 m] w fun e w' => e = .returned (.int .i64 ((m + n * 5 : Nat) : Int)) ∧ VT 110 w' base a (n * 5) (markR m) ∧ Touch (blkV a (n * 5)) w w' := by
 by_cases h0 : n = 0
 ·
  subst h0
  refine (markFrs0 a cap m w).mono ?_
  rintro e w' ⟨rfl, rfl⟩
  exact ⟨by simp, .inl rfl, Touch.refl _ _⟩
 rcases h with h | ⟨g, rfl, hg, hr⟩
 ·
  omega
 ·
  refine (markFrs_any g n cap m _ w hr hn hm).mono ?_
  rintro e w' ⟨rfl, h1, h2⟩
  refine ⟨rfl, .inr ⟨g, rfl, hg, h1⟩, ?_⟩
  unfold blkV
  rw [if_neg (by omega)]
  exact h2
theorem heldFrV_any (a : Option Addr) (n cap m base : Nat) (w : World) (h : VT 110 w base a (n * 5) (markR m)) (hn : n ≤ 1048576) (hm : m ≤ 50000000) :
  Calls Tryz.prog 106 #[.slice a n cap, .int .i64 m] w fun e w' => e = .returned (.int .i64 ((m + n * 5 : Nat) : Int)) ∧ Below w.heap.size w w' := by
 by_cases h0 : n = 0
 ·
  subst h0
  refine (heldFrs0 a cap m w).mono ?_
  rintro e w' ⟨rfl, rfl⟩
  exact ⟨by simp, Below.refl _ _⟩
 rcases h with h | ⟨g, rfl, hg, hr⟩
 ·
  omega
 ·
  exact heldFrs_any g n cap m w hr hn hm
set_option maxHeartbeats 1000000 in
theorem eqFlight_self (x : Pkt) (w : World) :
  Calls Tryz.prog 86 #[.agg x.flight, .agg x.flight] w fun e w' => e = .returned (.bool true) ∧ Below w.heap.size w w' := by
 obtain ⟨W, eW⟩ : ∃ W, (w.alloc (.cells x.flight 122)).alloc (.cells x.flight 122) = W := ⟨_, rfl⟩
 have HX : Hid (Two w x.flight x.flight 122 W) := by rw [← eW]; exact Two.start _ _ _ _
 have c0 : W.cell? ⟨w.heap.size, 0, none⟩ = some (.int .i64 x.id) := blk_cell HX.out.a 0
 have d0 : W.cell? ⟨w.heap.size + 1, 0, none⟩ = some (.int .i64 x.id) := blk_cell HX.out.b 0
 have c1 : W.cell? ⟨w.heap.size, 1, none⟩ = some (.int .i64 x.inn) := blk_cell HX.out.a 1
 have d1 : W.cell? ⟨w.heap.size + 1, 1, none⟩ = some (.int .i64 x.inn) := blk_cell HX.out.b 1
 have c2 : W.cell? ⟨w.heap.size, 2, none⟩ = some (.int .i64 x.k) := blk_cell HX.out.a 2
 have d2 : W.cell? ⟨w.heap.size + 1, 2, none⟩ = some (.int .i64 x.k) := blk_cell HX.out.b 2
 have c3 : W.cell? ⟨w.heap.size, 3, none⟩ = some (.int .i64 x.d) := blk_cell HX.out.a 3
 have d3 : W.cell? ⟨w.heap.size + 1, 3, none⟩ = some (.int .i64 x.d) := blk_cell HX.out.b 3
 have c4 : W.cell? ⟨w.heap.size, 4, none⟩ = some (.int .i64 x.s) := blk_cell HX.out.a 4
 have d4 : W.cell? ⟨w.heap.size + 1, 4, none⟩ = some (.int .i64 x.s) := blk_cell HX.out.b 4
 have c5 : W.cell? ⟨w.heap.size, 5, none⟩ = some (.int .i64 x.p) := blk_cell HX.out.a 5
 have d5 : W.cell? ⟨w.heap.size + 1, 5, none⟩ = some (.int .i64 x.p) := blk_cell HX.out.b 5
 have c6 : W.cell? ⟨w.heap.size, 6, none⟩ = some (.string x.b) := blk_cell HX.out.a 6
 have d6 : W.cell? ⟨w.heap.size + 1, 6, none⟩ = some (.string x.b) := blk_cell HX.out.b 6
 go_enter Tryz.func86, Tryz.ntmps86
 go_wp2_with fail
 clear eW
 refine (eqFrame_self x.k x.d x.s x.p x.b _).mono ?_
 rintro e w1 ⟨rfl, hb⟩
 have B := (HX.out.up hb).bel
 clear c0 d0 c1 d1 c2 d2 c3 d3 c4 d4 c5 d5 c6 d6
 clear hb
 go_wp2_with fail
 go_ret
 exact ⟨rfl, B⟩
set_option maxRecDepth 10000 in
set_option maxHeartbeats 2000000 in
theorem eqFrames_any (a1 a2 : Option Addr) (n c1 c2 : Nat) (K1 : Nat → Pkt) (w : World) (hn : n ≤ 1048576) (h1 : RdF w a1 n K1) (h2 : RdF w a2 n K1) :
  Calls Tryz.prog 42 #[.slice a1 n c1, .slice a2 n c2] w fun e w' => e = .returned (.bool true) ∧ Below w.heap.size w w' := by
 have H1 : Hid (RdF w a1 n K1) := h1
 have H2 : Hid (RdF w a2 n K1) := h2
 clear h1 h2
 go_enter Tryz.func42, Tryz.ntmps42
 go_wp2_with fail
 go_loopw [5] (fun i wr => ∃ k : Nat, k ≤ n ∧ i = .int .i64 k ∧ Below w.heap.size w wr) (fun i _ => n - (intOf i).toNat)
 case atStart => exact ⟨0, Nat.zero_le _, rfl, Below.refl _ _⟩
 case round =>
  obtain ⟨k, hk, rfl, hB⟩ := hrel
  by_cases hlt : k < n
  ·
   have hlt' : (k : Int) < n := by omega
   obtain ⟨g, o, ha, hc⟩ := (H1.out.up hB.drew).at hlt
   obtain ⟨g2, o2, ha2, hc2⟩ := (H2.out.up hB.drew).at hlt
   subst ha ha2
   have HC : Hid ((∀ j, j < 5 → wr.drew.cell? ⟨g, o + k * 5 + j, none⟩ = (K1 k).frame[j]?) ∧ ∀ j, j < 5 → wr.drew.cell? ⟨g2, o2 + k * 5 + j, none⟩ = (K1 k).frame[j]?) := ⟨hc, hc2⟩
   clear hc hc2
   go_wp2_with fail
   refine wp_region_held_drew (S := fun w' => (∀ j, j < 5 → w'.cell? ⟨g, o + k * 5 + j, none⟩ = (K1 k).frame[j]?) ∧ ∀ j, j < 5 → w'.cell? ⟨g2, o2 + k * 5 + j, none⟩ = (K1 k).frame[j]?) (by kernel_rfl) HC.out (fun hHeld => ?_)
   refine tP 0 17 ?_
   try simp only [Act.put, PZ]
   refine tP 1 18 ?_
   try simp only [Act.put, PZ]
   refine tP 2 19 ?_
   try simp only [Act.put, PZ]
   refine tC 3 20 (v := .agg (K1 k).frame) (fun wx hSw => run_ldT 110 5 _ Tryz.underlying110 rfl infoFr5 (.tmp 19) rfl g (o + k * 5) rfl (K1 k).frame rfl hSw.1) ?_
   try simp only [Act.put, PZ]
   refine tP 4 21 ?_
   try simp only [Act.put, PZ]
   refine tP 5 22 ?_
   try simp only [Act.put, PZ]
   refine tP 6 23 ?_
   try simp only [Act.put, PZ]
   refine tC 7 24 (v := .agg (K1 k).frame) (fun wx hSw => run_ldT 110 5 _ Tryz.underlying110 rfl infoFr5 (.tmp 23) rfl g2 (o2 + k * 5) rfl (K1 k).frame rfl hSw.2) ?_
   try simp only [Act.put, PZ]
   refine r1 8 (fun K hK => ?_)
   go_simp
   refine (eqFrame_self (K1 k).k (K1 k).d (K1 k).s (K1 k).p (K1 k).b _).mono ?_
   rintro e w1 ⟨rfl, hb⟩
   have HB1 : Hid (Below w.heap.size w w1) := hB.drew.trans (hb.mono hB.drew.size)
   have HC1 : Hid ((∀ j, j < 5 → w1.cell? ⟨g, o + k * 5 + j, none⟩ = (K1 k).frame[j]?) ∧ ∀ j, j < 5 → w1.cell? ⟨g2, o2 + k * 5 + j, none⟩ = (K1 k).frame[j]?) := ⟨keepT rfl HC.out.1 hb, keepT rfl HC.out.2 hb⟩
   clear hb HC hB
   go_wp2_with fail
   refine hK.out _ _ HC1.out (fun hHeld => ?_)
   clear hK K
   try simp only [Act.put, PZ]
   refine tP 9 26 ?_
   try simp only [Act.put, PZ]
   refine dn ?_
   clear hHeld HC1
   go_wp2_with fail
   go_roundw
   case rel => exact ⟨k + 1, by omega, by go_num, HB1.out⟩
   case measure => simp [intOf]; omega
  ·
   obtain rfl : k = n := by omega
   go_wp2_with fail
   go_ret
   exact ⟨rfl, hB⟩
set_option maxRecDepth 10000 in
set_option maxHeartbeats 2000000 in
theorem eqFlights_any (a1 a2 : Option Addr) (n c1 c2 : Nat) (K1 : Nat → Pkt) (w : World) (hn : n ≤ 1048576) (h1 : RdV w a1 n K1) (h2 : RdV w a2 n K1) :
  Calls Tryz.prog 36 #[.slice a1 n c1, .slice a2 n c2] w fun e w' => e = .returned (.bool true) ∧ Below w.heap.size w w' := by
 have H1 : Hid (RdV w a1 n K1) := h1
 have H2 : Hid (RdV w a2 n K1) := h2
 clear h1 h2
 go_enter Tryz.func36, Tryz.ntmps36
 go_wp2_with fail
 go_loopw [5] (fun i wr => ∃ k : Nat, k ≤ n ∧ i = .int .i64 k ∧ Below w.heap.size w wr) (fun i _ => n - (intOf i).toNat)
 case atStart => exact ⟨0, Nat.zero_le _, rfl, Below.refl _ _⟩
 case round =>
  obtain ⟨k, hk, rfl, hB⟩ := hrel
  by_cases hlt : k < n
  ·
   have hlt' : (k : Int) < n := by omega
   obtain ⟨g, o, ha, hc⟩ := (H1.out.up hB.drew).at hlt
   obtain ⟨g2, o2, ha2, hc2⟩ := (H2.out.up hB.drew).at hlt
   subst ha ha2
   have HC : Hid ((∀ j, j < 7 → wr.drew.cell? ⟨g, o + k * 7 + j, none⟩ = (K1 k).flight[j]?) ∧ ∀ j, j < 7 → wr.drew.cell? ⟨g2, o2 + k * 7 + j, none⟩ = (K1 k).flight[j]?) := ⟨hc, hc2⟩
   clear hc hc2
   go_wp2_with fail
   refine wp_region_held_drew (S := fun w' => (∀ j, j < 7 → w'.cell? ⟨g, o + k * 7 + j, none⟩ = (K1 k).flight[j]?) ∧ ∀ j, j < 7 → w'.cell? ⟨g2, o2 + k * 7 + j, none⟩ = (K1 k).flight[j]?) (by kernel_rfl) HC.out (fun hHeld => ?_)
   refine tP 0 17 ?_
   try simp only [Act.put, PZ]
   refine tP 1 18 ?_
   try simp only [Act.put, PZ]
   refine tP 2 19 ?_
   try simp only [Act.put, PZ]
   refine tC 3 20 (v := .agg (K1 k).flight) (fun wx hSw => run_ldT 122 7 _ Tryz.underlying122 rfl infoFl7 (.tmp 19) rfl g (o + k * 7) rfl (K1 k).flight rfl hSw.1) ?_
   try simp only [Act.put, PZ]
   refine tP 4 21 ?_
   try simp only [Act.put, PZ]
   refine tP 5 22 ?_
   try simp only [Act.put, PZ]
   refine tP 6 23 ?_
   try simp only [Act.put, PZ]
   refine tC 7 24 (v := .agg (K1 k).flight) (fun wx hSw => run_ldT 122 7 _ Tryz.underlying122 rfl infoFl7 (.tmp 23) rfl g2 (o2 + k * 7) rfl (K1 k).flight rfl hSw.2) ?_
   try simp only [Act.put, PZ]
   refine r1 8 (fun K hK => ?_)
   go_simp
   refine (eqFlight_self (K1 k) _).mono ?_
   rintro e w1 ⟨rfl, hb⟩
   have HB1 : Hid (Below w.heap.size w w1) := hB.drew.trans (hb.mono hB.drew.size)
   have HC1 : Hid ((∀ j, j < 7 → w1.cell? ⟨g, o + k * 7 + j, none⟩ = (K1 k).flight[j]?) ∧ ∀ j, j < 7 → w1.cell? ⟨g2, o2 + k * 7 + j, none⟩ = (K1 k).flight[j]?) := ⟨keepT rfl HC.out.1 hb, keepT rfl HC.out.2 hb⟩
   clear hb HC hB
   go_wp2_with fail
   refine hK.out _ _ HC1.out (fun hHeld => ?_)
   clear hK K
   try simp only [Act.put, PZ]
   refine tP 9 26 ?_
   try simp only [Act.put, PZ]
   refine dn ?_
   clear hHeld HC1
   go_wp2_with fail
   go_roundw
   case rel => exact ⟨k + 1, by omega, by go_num, HB1.out⟩
   case measure => simp [intOf]; omega
  ·
   obtain rfl : k = n := by omega
   go_wp2_with fail
   go_ret
   exact ⟨rfl, hB⟩
set_option maxHeartbeats 2000000 in
theorem eqHost_any (l1 l2 : Hst) (w : World) (hs : l1.Small) (h1 : RdHt w l1) (h2 : RdHt w l2) (ha : AlikeH l1 l2) :
  Calls Tryz.prog 85 #[.agg l1.cells, .agg l2.cells] w fun e w' => e = .returned (.bool true) ∧ Below w.heap.size w w' := by
 have HS : Hid l1.Small := hs
 have H1 : Hid (RdHt w l1) := h1
 have hbb : (l1.st != l1.st) = false := by cases l1.st <;> rfl
 obtain ⟨W, eW⟩ : ∃ W, (w.alloc (.cells l1.cells 73)).alloc (.cells l2.cells 73) = W := ⟨_, rfl⟩
 have HX : Hid (Two w l1.cells l2.cells 73 W) := by rw [← eW]; exact Two.start _ _ _ _
 have HEB : Hid (l2.cells = #[.bool l1.st, .slice l2.aO l1.nO l2.cO, .slice l2.aG l1.nG l2.cG]) := by
  show l2.cells = _
  unfold Hst.cells
  rw [ha.st, ha.nO, ha.nG]
 have c0 : W.cell? ⟨w.heap.size, 0, none⟩ = some (.bool l1.st) := blk_cell HX.out.a 0
 have d0 : W.cell? ⟨w.heap.size + 1, 0, none⟩ = some (.bool l1.st) := by rw [blk_cell HX.out.b 0, HEB.out]; rfl
 have c1 : W.cell? ⟨w.heap.size, 1, none⟩ = some (.slice l1.aO l1.nO l1.cO) := blk_cell HX.out.a 1
 have d1 : W.cell? ⟨w.heap.size + 1, 1, none⟩ = some (.slice l2.aO l1.nO l2.cO) := by rw [blk_cell HX.out.b 1, HEB.out]; rfl
 have HO2 : Hid (RdF w l2.aO l1.nO l1.O) := by have := h2.o; rw [ha.nO, ha.O] at this; exact this
 have HG2 : Hid (RdF w l2.aG l1.nG l1.G) := by have := h2.g; rw [ha.nG, ha.G] at this; exact this
 clear hs h1 h2 ha
 go_enter Tryz.func85, Tryz.ntmps85
 go_wp2_with fail
 clear eW c0 d0 c1 d1
 refine (eqFrames_any l1.aO l2.aO l1.nO l1.cO l2.cO l1.O _ HS.out.o (H1.out.o.up HX.out.bel) (HO2.out.up HX.out.bel)).mono ?_
 rintro e w1 ⟨rfl, hb⟩
 replace HX : Hid (Two w l1.cells l2.cells 73 w1) := HX.out.up hb
 clear hb
 have c2 : w1.cell? ⟨w.heap.size, 2, none⟩ = some (.slice l1.aG l1.nG l1.cG) := blk_cell HX.out.a 2
 have d2 : w1.cell? ⟨w.heap.size + 1, 2, none⟩ = some (.slice l2.aG l1.nG l2.cG) := by rw [blk_cell HX.out.b 2, HEB.out]; rfl
 go_wp2_with fail
 clear c2 d2
 refine (eqFrames_any l1.aG l2.aG l1.nG l1.cG l2.cG l1.G _ HS.out.g (H1.out.g.up HX.out.bel) (HG2.out.up HX.out.bel)).mono ?_
 rintro e w2 ⟨rfl, hb⟩
 have B := (HX.out.up hb).bel
 clear hb
 go_wp2_with fail
 go_ret
 exact ⟨rfl, B⟩
set_option maxRecDepth 10000 in
set_option maxHeartbeats 2000000 in
theorem eqHosts_any (a1 a2 : Option Addr) (n c1 c2 : Nat) (L1 L2 : Nat → Hst) (w : World) (hn : n ≤ 1048576) (h1 : RdHs w a1 n L1) (h2 : RdHs w a2 n L2) (hs : ∀ i, i < n → (L1 i).Small) (q1 : ∀ i, i < n → RdHt w (L1 i)) (q2 : ∀ i, i < n → RdHt w (L2 i)) (hl : ∀ i, i < n → AlikeH (L1 i) (L2 i)) :
  Calls Tryz.prog 35 #[.slice a1 n c1, .slice a2 n c2] w fun e w' => e = .returned (.bool true) ∧ Below w.heap.size w w' := by
 have H1 : Hid (RdHs w a1 n L1) := h1
 have H2 : Hid (RdHs w a2 n L2) := h2
 have HS : Hid (∀ i, i < n → (L1 i).Small) := hs
 have Q1 : Hid (∀ i, i < n → RdHt w (L1 i)) := q1
 have Q2 : Hid (∀ i, i < n → RdHt w (L2 i)) := q2
 have HA : Hid (∀ i, i < n → AlikeH (L1 i) (L2 i)) := hl
 clear h1 h2 hs q1 q2 hl
 go_enter Tryz.func35, Tryz.ntmps35
 go_wp2_with fail
 go_loopw [5] (fun i wr => ∃ k : Nat, k ≤ n ∧ i = .int .i64 k ∧ Below w.heap.size w wr) (fun i _ => n - (intOf i).toNat)
 case atStart => exact ⟨0, Nat.zero_le _, rfl, Below.refl _ _⟩
 case round =>
  obtain ⟨k, hk, rfl, hB⟩ := hrel
  by_cases hlt : k < n
  ·
   have hlt' : (k : Int) < n := by omega
   obtain ⟨g, o, ha, hc⟩ := (H1.out.up hB.drew).at hlt
   obtain ⟨g2, o2, ha2, hc2⟩ := (H2.out.up hB.drew).at hlt
   subst ha ha2
   have HC : Hid ((∀ j, j < 3 → wr.drew.cell? ⟨g, o + k * 3 + j, none⟩ = (L1 k).cells[j]?) ∧ ∀ j, j < 3 → wr.drew.cell? ⟨g2, o2 + k * 3 + j, none⟩ = (L2 k).cells[j]?) := ⟨hc, hc2⟩
   clear hc hc2
   go_wp2_with fail
   refine wp_region_held_drew (S := fun w' => (∀ j, j < 3 → w'.cell? ⟨g, o + k * 3 + j, none⟩ = (L1 k).cells[j]?) ∧ ∀ j, j < 3 → w'.cell? ⟨g2, o2 + k * 3 + j, none⟩ = (L2 k).cells[j]?) (by kernel_rfl) HC.out (fun hHeld => ?_)
   refine tP 0 17 ?_
   try simp only [Act.put, PZ]
   refine tP 1 18 ?_
   try simp only [Act.put, PZ]
   refine tP 2 19 ?_
   try simp only [Act.put, PZ]
   refine tC 3 20 (v := .agg (L1 k).cells) (fun wx hSw => run_ldT 73 3 _ Tryz.underlying73 rfl infoHt3 (.tmp 19) rfl g (o + k * 3) rfl (L1 k).cells rfl hSw.1) ?_
   try simp only [Act.put, PZ]
   refine tP 4 21 ?_
   try simp only [Act.put, PZ]
   refine tP 5 22 ?_
   try simp only [Act.put, PZ]
   refine tP 6 23 ?_
   try simp only [Act.put, PZ]
   refine tC 7 24 (v := .agg (L2 k).cells) (fun wx hSw => run_ldT 73 3 _ Tryz.underlying73 rfl infoHt3 (.tmp 23) rfl g2 (o2 + k * 3) rfl (L2 k).cells rfl hSw.2) ?_
   try simp only [Act.put, PZ]
   refine r1 8 (fun K hK => ?_)
   go_simp
   refine (eqHost_any (L1 k) (L2 k) _ (HS.out k hlt) ((Q1.out k hlt).up hB.drew) ((Q2.out k hlt).up hB.drew) (HA.out k hlt)).mono ?_
   rintro e w1 ⟨rfl, hb⟩
   have HB1 : Hid (Below w.heap.size w w1) := hB.drew.trans (hb.mono hB.drew.size)
   have HC1 : Hid ((∀ j, j < 3 → w1.cell? ⟨g, o + k * 3 + j, none⟩ = (L1 k).cells[j]?) ∧ ∀ j, j < 3 → w1.cell? ⟨g2, o2 + k * 3 + j, none⟩ = (L2 k).cells[j]?) := ⟨keepT rfl HC.out.1 hb, keepT rfl HC.out.2 hb⟩
   clear hb HC hB
   go_wp2_with fail
   refine hK.out _ _ HC1.out (fun hHeld => ?_)
   clear hK K
   try simp only [Act.put, PZ]
   refine tP 9 26 ?_
   try simp only [Act.put, PZ]
   refine dn ?_
   clear hHeld HC1
   go_wp2_with fail
   go_roundw
   case rel => exact ⟨k + 1, by omega, by go_num, HB1.out⟩
   case measure => simp [intOf]; omega
  ·
   obtain rfl : k = n := by omega
   go_wp2_with fail
   go_ret
   exact ⟨rfl, hB⟩
set_option maxRecDepth 10000 in
set_option maxHeartbeats 4000000 in
theorem eqFabric_any (A B : Fab) (w : World) (hs : A.Small) (h1 : RdFb w A) (h2 : RdFb w B) (ha : AlikeF A B) :
  Calls Tryz.prog 9 #[.agg A.cells, .agg B.cells] w fun e w' => e = .returned (.bool true) ∧ Below w.heap.size w w' := by
 have HS : Hid A.Small := hs
 have H1 : Hid (RdFb w A) := h1
 have HG : Hid (AlikeG A.S B.S) := ha.s
 have HH : Hid (∀ i, i < A.nH → AlikeH (A.H i) (B.H i)) := ha.h
 have HS2 : Hid (RdSg w B.S) := h2.s
 have HH2 : Hid (RdHs w B.aH A.nH B.H) := by have := h2.h; rw [ha.nH] at this; exact this
 have HQ2 : Hid (∀ i, i < A.nH → RdHt w (B.H i)) := by have := h2.hs; rw [ha.nH] at this; exact this
 have HU2 : Hid (RdV w B.aU A.nU A.U) := by have := h2.u; rw [ha.nU, ha.u] at this; exact this
 have HD2 : Hid (RdV w B.aD A.nD A.D) := by have := h2.d; rw [ha.nD, ha.d] at this; exact this
 have HEB : Hid (∀ j, 17 ≤ j → j < 20 → B.cells[j]? = #[.slice B.aH A.nH B.cH, .slice B.aU A.nU B.cU, .slice B.aD A.nD B.cD][j - 17]?) := by
  intro j hj hj2
  have : j = 17 ∨ j = 18 ∨ j = 19 := by omega
  rcases this with rfl | rfl | rfl
  ·
   rw [← ha.nH]; rfl
  ·
   rw [← ha.nU]; rfl
  ·
   rw [← ha.nD]; rfl
 obtain ⟨W, eW⟩ : ∃ W, (w.alloc (.cells A.cells 49)).alloc (.cells B.cells 49) = W := ⟨_, rfl⟩
 have HX : Hid (Two w A.cells B.cells 49 W) := by rw [← eW]; exact Two.start _ _ _ _
 have HL : Hid ((∀ j, j < 17 → W.cell? ⟨w.heap.size, 0 + j, none⟩ = A.S.cells[j]?) ∧ ∀ j, j < 17 → W.cell? ⟨w.heap.size + 1, 0 + j, none⟩ = B.S.cells[j]?) := ⟨blkSw HX.out.a, blkSw HX.out.b⟩
 clear hs h1 h2 ha
 go_enter Tryz.func9, Tryz.ntmps9
 go_wp2_with (first | refine wpList_ldT rfl 45 17 _ Tryz.underlying45 rfl infoSgI (.tmp 5) rfl w.heap.size 0 rfl A.S.cells rfl HL.out.1 ?_ | refine wpList_ldT rfl 45 17 _ Tryz.underlying45 rfl infoSgI (.tmp 7) rfl (w.heap.size + 1) 0 rfl B.S.cells rfl HL.out.2 ?_)
 clear eW HL
 refine (eqSwitchG_any A.S B.S _ HS.out.s (H1.out.s.up HX.out.bel) (HS2.out.up HX.out.bel) HG.out).mono ?_
 rintro e w1 ⟨rfl, hb⟩
 replace HX : Hid (Two w A.cells B.cells 49 w1) := HX.out.up hb
 clear hb
 have c17 : w1.cell? ⟨w.heap.size, 17, none⟩ = some (.slice A.aH A.nH A.cH) := blk_cell HX.out.a 17
 have d17 : w1.cell? ⟨w.heap.size + 1, 17, none⟩ = some (.slice B.aH A.nH B.cH) := by rw [blk_cell HX.out.b 17, HEB.out 17 (by omega) (by omega)]; rfl
 go_wp2_with fail
 clear c17 d17
 refine (eqHosts_any A.aH B.aH A.nH A.cH B.cH A.H B.H _ HS.out.h (H1.out.h.up HX.out.bel) (HH2.out.up HX.out.bel) HS.out.hs (fun i hi => (H1.out.hs i hi).up HX.out.bel) (fun i hi => (HQ2.out i hi).up HX.out.bel) HH.out).mono ?_
 rintro e w2 ⟨rfl, hb⟩
 replace HX : Hid (Two w A.cells B.cells 49 w2) := HX.out.up hb
 clear hb
 have c18 : w2.cell? ⟨w.heap.size, 18, none⟩ = some (.slice A.aU A.nU A.cU) := blk_cell HX.out.a 18
 have d18 : w2.cell? ⟨w.heap.size + 1, 18, none⟩ = some (.slice B.aU A.nU B.cU) := by rw [blk_cell HX.out.b 18, HEB.out 18 (by omega) (by omega)]; rfl
 go_wp2_with fail
 clear c18 d18
 refine (eqFlights_any A.aU B.aU A.nU A.cU B.cU A.U _ HS.out.u (H1.out.u.up HX.out.bel) (HU2.out.up HX.out.bel)).mono ?_
 rintro e w3 ⟨rfl, hb⟩
 replace HX : Hid (Two w A.cells B.cells 49 w3) := HX.out.up hb
 clear hb
 have c19 : w3.cell? ⟨w.heap.size, 19, none⟩ = some (.slice A.aD A.nD A.cD) := blk_cell HX.out.a 19
 have d19 : w3.cell? ⟨w.heap.size + 1, 19, none⟩ = some (.slice B.aD A.nD B.cD) := by rw [blk_cell HX.out.b 19, HEB.out 19 (by omega) (by omega)]; rfl
 go_wp2_with fail
 clear c19 d19
 refine (eqFlights_any A.aD B.aD A.nD A.cD B.cD A.D _ HS.out.d (H1.out.d.up HX.out.bel) (HD2.out.up HX.out.bel)).mono ?_
 rintro e w4 ⟨rfl, hb⟩
 have B9 := (HX.out.up hb).bel
 clear hb
 go_wp2_with fail
 go_ret
 exact ⟨rfl, B9⟩
theorem infoFrL : (Tryz.prog.info? 102).map (·.size) = some 5 := by kernel_rfl
theorem szFrameL_any (x : Pkt) (left : Int) (w : World) (h0 : 0 ≤ left) (h1 : left ≤ 1048576) (hf : x.b.size ≤ maxLen) :
  Calls Tryz.prog 87 #[.agg x.frame, .int .i64 left] w fun e w' => (∃ r : Int, e = .returned (.int .i64 r) ∧ (r = -1 ∨ 0 ≤ r ∧ x.b.size ≤ 1048576 ∧ r ≤ left)) ∧ Below w.heap.size w w' := by
 refine (szFrame_any x.k x.d x.s x.p left x.b _ hf h0 h1).mono ?_
 rintro e w1 ⟨rfl, hb1⟩
 refine ⟨⟨_, rfl, ?_⟩, hb1⟩
 by_cases hl : left < x.b.size
 ·
  rw [if_pos hl]; exact .inl rfl
 ·
  rw [if_neg hl]; exact .inr ⟨by omega, by omega, by omega⟩
set_option maxHeartbeats 1000000 in
theorem szFramesL_any (a : Option Addr) (n cap : Nat) (K : Nat → Pkt) (left : Int) (w : World) (h0 : 0 ≤ left) (h1 : left ≤ 1048576) (hn : n ≤ maxLen) (hf : ∀ i, i < n → (K i).b.size ≤ maxLen) (h : RdF w a n K) :
  Calls Tryz.prog 37 #[.slice a n cap, .int .i64 left] w fun e w' => (∃ r : Int, e = .returned (.int .i64 r) ∧ (r = -1 ∨ 0 ≤ r ∧ n ≤ 1048576 ∧ (∀ i, i < n → (K i).b.size ≤ 1048576) ∧ r + n ≤ left)) ∧ Below w.heap.size w w' := by
 have hm : (n : Int) ≤ 9223372036854775807 := by unfold maxLen at hn; omega
 have HR : Hid (RdF w a n K) := h
 have HF : Hid (∀ i, i < n → (K i).b.size ≤ maxLen) := hf
 clear h hf
 by_cases h2 : left - n < 0
 ·
  go_enter Tryz.func37, Tryz.ntmps37
  go_wp2_with fail
  go_ret
  exact ⟨⟨_, rfl, .inl rfl⟩, Below.refl _ _⟩
 ·
  go_enter Tryz.func37, Tryz.ntmps37
  go_wp2_with fail
  go_loopw [1, 5] (fun x i wr => ∃ (k : Nat) (r : Int), k ≤ n ∧ i = .int .i64 k ∧ x = .int .i64 r ∧ 0 ≤ r ∧ Hid (r + n ≤ left ∧ ∀ i, i < k → (K i).b.size ≤ 1048576) ∧ Below w.heap.size w wr) (fun _ i _ => n - (intOf i).toNat)
  case atStart => exact ⟨0, left - n, Nat.zero_le _, rfl, rfl, by omega, ⟨by omega, fun j hj => by omega⟩, Below.refl _ _⟩
  case round =>
   obtain ⟨k, r, hk, rfl, rfl, r0, HS, hB⟩ := hrel
   by_cases hlt : k < n
   ·
    have hlt' : (k : Int) < n := by omega
    obtain ⟨g, o, ha, hc⟩ := (HR.out.up hB).at hlt
    subst ha
    have HC : Hid (∀ j, j < 5 → wr.cell? ⟨g, o + k * 5 + j, none⟩ = (K k).frame[j]?) := hc
    clear hc
    go_wp2_with (refine wpList_ldT rfl 102 5 _ Tryz.underlying102 rfl infoFrL (.tmp 20) rfl g (o + k * 5) rfl (K k).frame rfl HC.out ?_)
    refine (szFrameL_any (K k) r _ r0 (by have := HS.out.1; omega) (HF.out k hlt)).mono ?_
    rintro e w1 ⟨⟨r', rfl, hr⟩, hb1⟩
    have HB1 : Hid (Below w.heap.size w w1) := hB.trans (hb1.mono hB.size)
    clear hb1 hB HC
    rcases hr with rfl | ⟨r0', hsm, hr9⟩
    ·
     go_wp2_with fail
     go_ret
     exact ⟨⟨_, rfl, .inl rfl⟩, HB1.out⟩
    ·
     have HN : Hid (r' + n ≤ left ∧ ∀ i, i < k + 1 → (K i).b.size ≤ 1048576) := ⟨by have := HS.out.1; omega, fun j hj => by
       by_cases e : j = k
       ·
        subst e; exact hsm
       ·
        exact HS.out.2 j (by omega)⟩
     have hr0 : ¬ r' < 0 := by omega
     clear hsm hr9 HS
     go_wp2_with fail
     go_roundw
     case rel => exact ⟨k + 1, r', by omega, by go_num, rfl, r0', HN, HB1.out⟩
     case measure => simp [intOf]; omega
   ·
    obtain rfl : k = n := by omega
    have hle := HS.out.1
    go_wp2_with fail
    go_ret
    exact ⟨⟨_, rfl, .inr ⟨r0, by omega, HS.out.2, by omega⟩⟩, hB⟩
open Go.ChangeShapes Go.WideShapes Go.ChangeAt Go.RowKit
set_option maxRecDepth 100000
theorem laidOutC : laidOutB Tryz.prog = true := by kernel_rfl
theorem ownOkC : ownKnob Tryz.prog.godebug = none := by kernel_rfl
theorem array7C {α : Type} {cs : Array α} (h : cs.size = 7) : ∃ c0 c1 c2 c3 c4 c5 c6, cs = #[c0, c1, c2, c3, c4, c5, c6] := by
 obtain ⟨l⟩ := cs
 match l, h with
 | [c0, c1, c2, c3, c4, c5, c6], _ => exact ⟨c0, c1, c2, c3, c4, c5, c6, rfl⟩
theorem open_config {H : Type} {enc : TypeId × Value → H} {W : World} {b0 : Nat} {held : Bool} {r : Reach} {v : Value} {d : DataW H} {p : List MemPlace}
  (hv : Value.okWide Tryz.prog W r b0 23 v) (h : DataW.Trod enc Tryz.prog W 0 (fun _ => true) held 23 v d p) : ∃ C : Cfg, v = .agg C.cells := by
 obtain ⟨cs, rfl, hsz⟩ := okWide_struct Tryz.underlying23 hv
 obtain ⟨c0, c1, c2, c3, c4, c5, c6, rfl⟩ := array7C (hsz.trans (by kernel_rfl))
 obtain ⟨fuel, hf⟩ := h
 obtain ⟨xs, n, _, _, hl, hlen, hfs⟩ := DataW.trod_struct Tryz.underlying23 hf
 match xs, hlen with
 | [y0, y1, y2, y3, y4, y5, y6], _ =>
  have h0 := hfs 0 _ rfl
  have h1 := hfs 1 _ rfl
  have h2 := hfs 2 _ rfl
  have h3 := hfs 3 _ rfl
  have h4 := hfs 4 _ rfl
  have h5 := hfs 5 _ rfl
  have h6 := hfs 6 _ rfl
  have e2 : Tryz.prog.cellsOf 2 = 1 := by kernel_rfl
  simp [Value.cells, e2] at h0 h1 h2 h3 h4 h5 h6
  obtain ⟨z0, f0, _, _⟩ := DataW.trod_int Tryz.underlying2 h0
  obtain ⟨z1, f1, _, _⟩ := DataW.trod_int Tryz.underlying2 h1
  obtain ⟨z2, f2, _, _⟩ := DataW.trod_int Tryz.underlying2 h2
  obtain ⟨z3, f3, _, _⟩ := DataW.trod_int Tryz.underlying2 h3
  obtain ⟨z4, f4, _, _⟩ := DataW.trod_int Tryz.underlying2 h4
  obtain ⟨z5, f5, _, _⟩ := DataW.trod_int Tryz.underlying2 h5
  obtain ⟨z6, f6, _, _⟩ := DataW.trod_int Tryz.underlying2 h6
  simp at f0 f1 f2 f3 f4 f5 f6
  subst f0 f1 f2 f3 f4 f5 f6
  exact ⟨⟨z0, z1, z2, z3, z4, z5, z6⟩, rfl⟩
theorem addr_addR (b off i : Nat) : (⟨b, off, none⟩ : Addr).add i = ⟨b, off + i, none⟩ := by unfold Addr.add; split <;> simp_all
theorem openL_frame {H : Type} {enc : TypeId × Value → H} {W : World} {held : Bool} {fuel : Nat} {cs : List Value} {x : DataW H × List MemPlace}
  (h : DataW.trod enc Tryz.prog W 0 (fun _ => true) held fuel 102 cs = some x) : ∃ x : Pkt, cs = [.int .i64 x.k, .int .i64 x.d, .int .i64 x.s, .int .i64 x.p, .string x.b] ∧ x.b.size ≤ maxLen := by
 obtain ⟨xs, k, _, _, hl, hlen, hfs⟩ := DataW.trod_struct Tryz.underlying102 h
 rw [show Tryz.prog.cellsOf 102 = 5 by kernel_rfl] at hl
 match xs, hlen, cs, hl with
 | [y0, y1, y2, y3, y4], _, [v0, v1, v2, v3, v4], _ =>
  have h0 := hfs 0 _ rfl
  have h1 := hfs 1 _ rfl
  have h2 := hfs 2 _ rfl
  have h3 := hfs 3 _ rfl
  have h4 := hfs 4 _ rfl
  have e0 : Tryz.prog.cellsOf 2 = 1 := by kernel_rfl
  have e1 : Tryz.prog.cellsOf 9 = 1 := by kernel_rfl
  simp [e0, e1] at h0 h1 h2 h3 h4
  obtain ⟨kk, q0, _, _⟩ := DataW.trod_int Tryz.underlying2 h0
  simp at q0
  subst q0
  obtain ⟨d, q1, _, _⟩ := DataW.trod_int Tryz.underlying2 h1
  simp at q1
  subst q1
  obtain ⟨s, q2, _, _⟩ := DataW.trod_int Tryz.underlying2 h2
  simp at q2
  subst q2
  obtain ⟨p, q3, _, _⟩ := DataW.trod_int Tryz.underlying2 h3
  simp at q3
  subst q3
  obtain ⟨b, q4, _, b4⟩ := DataW.trod_string Tryz.underlying9 h4
  simp at q4
  subst q4
  exact ⟨⟨0, 0, 0, kk, d, s, p, b⟩, rfl, b4⟩
instance : Inhabited Pkt := ⟨⟨0, 0, 0, 0, 0, 0, 0, ⟨#[]⟩⟩⟩
instance : Inhabited Lng := ⟨⟨false, none, 0, 0, fun _ => 0, none, 0, 0, fun _ => none, fun _ => 0, fun _ => 0, fun _ _ => 0, ⟨none, 0, 0, fun _ => 0, none, 0, 0, fun _ => 0, 0, false, none, 0, 0, fun _ => none, fun _ => 0, fun _ => 0, fun _ _ => 0⟩⟩⟩
theorem openL_frameP {H : Type} {enc : TypeId × Value → H} {W : World} {held : Bool} {fuel : Nat} {cs : List Value} {x : DataW H × List MemPlace}
  (h : DataW.trod enc Tryz.prog W 0 (fun _ => true) held fuel 102 cs = some x) : ∃ x : Pkt, cs = x.frame.toList ∧ x.b.size ≤ maxLen := openL_frame h
instance : Inhabited Hst := ⟨⟨false, none, 0, 0, fun _ => ⟨0, 0, 0, 0, 0, 0, 0, ⟨#[]⟩⟩, none, 0, 0, fun _ => ⟨0, 0, 0, 0, 0, 0, 0, ⟨#[]⟩⟩⟩⟩
theorem openL_frames {H : Type} {enc : TypeId × Value → H} {W : World} {held : Bool} {fuel : Nat} {v : Value} {x : DataW H × List MemPlace}
  (h : DataW.trod enc Tryz.prog W 0 (fun _ => true) held fuel 83 [v] = some x) : ∃ (a : Option Addr) (n c : Nat) (K : Nat → Pkt), v = .slice a n c ∧ n ≤ maxLen ∧ RdF W a n K ∧ ∀ i, i < n → (K i).b.size ≤ maxLen := by
 rcases Go.Deep.open_slice Tryz.underlying83 h with ⟨hcs, _⟩ | ⟨a, len, cap, m, n, D, Pl, hcs, hb, hl, hm, hmm, _, hx⟩
 ·
  simp at hcs
  exact ⟨_, _, _, fun _ => ⟨0, 0, 0, 0, 0, 0, 0, ⟨#[]⟩⟩, hcs, Nat.zero_le _, RdT.nil _ _ _ _, fun i hi => by omega⟩
 ·
  simp at hcs hmm
  subst hmm
  have each : ∀ i, i < m → ∃ y : Pkt, (∀ j, j < 5 → W.cell? (a.add (i * 5 + j)) = y.frame[j]?) ∧ y.b.size ≤ maxLen := by
   intro i hi
   obtain ⟨cs', h1, h2⟩ := hx i hi
   rw [show Tryz.prog.cellsOf 102 = 5 by kernel_rfl] at h1
   obtain ⟨_, hlen, hcell⟩ := World.cells?_some h1
   obtain ⟨y, e, hy⟩ := openL_frameP h2
   refine ⟨y, fun j hj => ?_, hy⟩
   have e0 := hcell j (by omega)
   rw [Go.Deep.add_add] at e0
   rw [e0, ← Array.getElem?_toList, ← e, List.getElem?_eq_getElem (by omega)]
  obtain ⟨f, hf⟩ := Go.Deep.choose_lt each
  refine ⟨_, _, _, f, hcs, by omega, fun i hi => ?_, fun i hi => (hf i (by omega)).2⟩
  have q := (hf i (by omega)).1
  obtain ⟨b, off, spot⟩ := a
  have hspot : spot = none := by
   have h0 := (hf 0 (by omega)).1 0 (by omega)
   rw [Array.getElem?_eq_getElem (by show 0 < 5; omega)] at h0
   simpa [Addr.add] using World.cell?_spot h0
  subst hspot
  refine ⟨rfl, b, off, rfl, fun j hj => ?_⟩
  have q2 := q j hj
  rw [addr_addR] at q2
  rw [Nat.add_assoc]
  exact q2
structure Rws where
 a : Option Addr
 n : Nat
 c : Nat
 A : Nat → Option Addr
 L : Nat → Nat
 C : Nat → Nat
 F : Nat → Nat → Pkt
structure RdRws (w : World) (R : Rws) : Prop where
 t : RdRow w R.a R.n fun i => .slice (R.A i) (R.L i) (R.C i)
 r : ∀ i, i < R.n → RdF w (R.A i) (R.L i) (R.F i)
theorem RdRws.up {w w' : World} {R : Rws} (h : RdRws w R) (hb : Below w.heap.size w w') : RdRws w' R := ⟨h.t.up hb, fun i hi => (h.r i hi).up hb⟩
structure Rws.Fit (R : Rws) : Prop where
 n : R.n ≤ maxLen
 l : ∀ i, i < R.n → R.L i ≤ maxLen
 b : ∀ i, i < R.n → ∀ j, j < R.L i → (R.F i j).b.size ≤ maxLen
structure Rws.Small (R : Rws) : Prop where
 n : R.n ≤ 1048576
 l : ∀ i, i < R.n → R.L i ≤ 1048576
 b : ∀ i, i < R.n → ∀ j, j < R.L i → (R.F i j).b.size ≤ 1048576
 s : sumL R.L R.n ≤ 1048576
set_option maxHeartbeats 1000000 in
theorem szRws_any (R : Rws) (w : World) (hf : R.Fit) (h : RdRws w R) :
  Calls Tryz.prog 10 #[.slice R.a R.n R.c, .int .i64 1048576] w fun e w' => (∃ r : Int, e = .returned (.int .i64 r) ∧ (r = -1 ∨ 0 ≤ r ∧ R.Small)) ∧ Below w.heap.size w w' := by
 have hm : (R.n : Int) ≤ 9223372036854775807 := by have := hf.n; unfold maxLen at this; omega
 have HR : Hid (RdRws w R) := h
 have HF : Hid R.Fit := hf
 clear h hf
 by_cases h2 : (1048576 : Int) - R.n < 0
 ·
  go_enter Tryz.func10, Tryz.ntmps10
  go_wp2_with fail
  go_ret
  exact ⟨⟨_, rfl, .inl rfl⟩, Below.refl _ _⟩
 ·
  go_enter Tryz.func10, Tryz.ntmps10
  go_wp2_with fail
  go_loopw [1, 5] (fun x i wr => ∃ (k : Nat) (r : Int), k ≤ R.n ∧ i = .int .i64 k ∧ x = .int .i64 r ∧ 0 ≤ r ∧ Hid (r + R.n + sumL R.L k ≤ 1048576 ∧ ∀ i, i < k → R.L i ≤ 1048576 ∧ ∀ j, j < R.L i → (R.F i j).b.size ≤ 1048576) ∧ Below w.heap.size w wr) (fun _ i _ => R.n - (intOf i).toNat)
  case atStart => exact ⟨0, 1048576 - R.n, Nat.zero_le _, rfl, rfl, by omega, ⟨by show _ + ((0 : Nat) : Int) ≤ _; omega, fun j hj => by omega⟩, Below.refl _ _⟩
  case round =>
   obtain ⟨k, r, hk, rfl, rfl, r0, HS, hB⟩ := hrel
   by_cases hlt : k < R.n
   ·
    have hlt' : (k : Int) < R.n := by omega
    obtain ⟨g, o, ha, hc⟩ := (HR.out.up hB).t k hlt
    dsimp only at hc
    rw [ha]
    clear ha
    go_wp2_with fail
    clear hc
    refine (szFramesL_any (R.A k) (R.L k) (R.C k) (R.F k) r _ r0 (by have := HS.out.1; omega) (HF.out.l k hlt) (HF.out.b k hlt) ((HR.out.up hB).r k hlt)).mono ?_
    rintro e w1 ⟨⟨r', rfl, hr⟩, hb1⟩
    have HB1 : Hid (Below w.heap.size w w1) := hB.trans (hb1.mono hB.size)
    clear hb1 hB
    rcases hr with rfl | ⟨r0', hn', hsm, hr9⟩
    ·
     go_wp2_with fail
     go_ret
     exact ⟨⟨_, rfl, .inl rfl⟩, HB1.out⟩
    ·
     have HN : Hid (r' + R.n + sumL R.L (k + 1) ≤ 1048576 ∧ ∀ i, i < k + 1 → R.L i ≤ 1048576 ∧ ∀ j, j < R.L i → (R.F i j).b.size ≤ 1048576) := ⟨by
       have := HS.out.1
       show r' + R.n + ((sumL R.L k + R.L k : Nat) : Int) ≤ _
       omega, fun j hj => by
       by_cases e : j = k
       ·
        subst e; exact ⟨hn', hsm⟩
       ·
        exact HS.out.2 j (by omega)⟩
     have hr0 : ¬ r' < 0 := by omega
     clear hsm hr9 HS
     go_wp2_with fail
     go_roundw
     case rel => exact ⟨k + 1, r', by omega, by go_num, rfl, r0', HN, HB1.out⟩
     case measure => simp [intOf]; omega
   ·
    obtain rfl : k = R.n := by omega
    have hle := HS.out.1
    have hge : ¬ ((R.n : Nat) : Int) < ((R.n : Nat) : Int) := by omega
    go_wp2_with fail
    go_ret
    exact ⟨⟨_, rfl, .inr ⟨r0, ⟨by omega, fun i hi => (HS.out.2 i hi).1, fun i hi => (HS.out.2 i hi).2, by omega⟩⟩⟩, hB⟩
structure LaidR (w : World) (R : Rws) (G : Nat → Nat) (k : Nat) (wr : World) : Prop where
 t : RowTo w.heap.size 70 R.n (fun i => .slice (some ⟨G i, 0, none⟩) (R.L i) (R.L i)) k wr
 r : ∀ i, i < k → RowTo (G i) 110 (R.L i * 5) (flatT 5 fun j => (R.F i j).frame) (R.L i * 5) wr
 low : ∀ i, i < k → w.heap.size < G i ∧ G i < wr.heap.size
 inc : ∀ i j, i < j → j < k → G i < G j
 b : Below w.heap.size w wr
 s : w.heap.size < wr.heap.size
def Rws.copy (R : Rws) (g : Nat) (G : Nat → Nat) : Rws := ⟨some ⟨g, 0, none⟩, R.n, R.n, fun i => some ⟨G i, 0, none⟩, R.L, R.L, R.F⟩
theorem LaidR.up {w : World} {R : Rws} {G : Nat → Nat} {k : Nat} {wr w1 : World} (h : LaidR w R G k wr) (hb : Below wr.heap.size wr w1) : LaidR w R G k w1 :=
 ⟨h.t.keep (hb.block _ h.t.lt), fun i hi => (h.r i hi).keep (hb.block _ (h.r i hi).lt), fun i hi => ⟨(h.low i hi).1, Nat.lt_of_lt_of_le (h.low i hi).2 hb.size⟩, h.inc, h.b.trans (hb.mono h.b.size), Nat.lt_of_lt_of_le h.s hb.size⟩
theorem LaidR.rd {w : World} {R : Rws} {G : Nat → Nat} {wr : World} (h : LaidR w R G R.n wr) : RdRws wr (R.copy w.heap.size G) :=
 ⟨h.t.g.read, fun i hi => rdT_row (by omega) (h.r i hi).g.read (fun _ _ => rfl)⟩
theorem infoRsZ : (Tryz.prog.info? 70).map (fun i => (i.zero, i.size, i.bytes)) = some (some (.slice none 0 0), 1, 24) := by kernel_rfl
def zRs (n : Nat) : Array Value := madeCells #[.slice none 0 0] (n * 1)
theorem make_Rs (n : Nat) (hn : n ≤ 1048576) (w : World) : (Instr.makeSlice 58 (.int .i64 (n : Int)) (.int .i64 (n : Int))).run Tryz.prog w = .ok (.slice (some ⟨w.heap.size, 0, none⟩) n n) (w.alloc (.cells (zRs n) 70)) := by
 obtain ⟨i0, hi, hz0, hz1, hz2⟩ := info_parts infoRsZ
 have := run_make (P := Tryz.prog) w 58 70 i0 _ Tryz.underlying58 hi hz0 .i64 .i64 (n : Int) (n : Int) (by omega) (by omega) (by rw [hz2]; omega) (by omega)
 rw [this, hz1]
 simp [zRs, Value.cells]
set_option maxRecDepth 10000 in
set_option maxHeartbeats 1000000 in
theorem toRws_any (R : Rws) (w : World) (hs : R.Small) (h : RdRws w R) :
  Calls Tryz.prog 13 #[.slice R.a R.n R.c] w fun e w' => ∃ G, e = .returned (.slice (some ⟨w.heap.size, 0, none⟩) R.n R.n) ∧ LaidR w R G R.n w' := by
 have mk := make_Rs R.n hs.n
 have HR : Hid (RdRws w R) := h
 have HS : Hid R.Small := hs
 have hn := hs.n
 clear h hs
 go_enter Tryz.func13, Tryz.ntmps13
 go_wp2_with fail
 clear mk
 go_loopw [4] (fun i wr => ∃ (k : Nat) (G : Nat → Nat), k ≤ R.n ∧ i = .int .i64 k ∧ Hid (LaidR w R G k wr)) (fun i _ => R.n - (intOf i).toNat)
 case atStart => exact ⟨0, fun _ => 0, Nat.zero_le _, rfl, ⟨⟨_, blk_new w _, by simp [zRs, size_madeCells], fun i hi => by omega⟩, fun i hi => by omega, fun i hi => by omega, fun i j _ hj => by omega, (Below.refl _ _).alloc (Nat.le_refl _) _, by simp⟩⟩
 case round =>
  obtain ⟨k, G, hk, rfl, HT⟩ := hrel
  by_cases hlt : k < R.n
  ·
   have hlt' : (k : Int) < R.n := by omega
   obtain ⟨g, o, ha, hc⟩ := (HR.out.up HT.out.b).t k hlt
   dsimp only at hc
   rw [ha]
   clear ha
   go_wp2_with fail
   clear hc
   refine (toFrames_any (R.A k) (R.L k) (R.C k) (R.F k) _ (HS.out.l k hlt) ((HR.out.up HT.out.b).r k hlt)).mono ?_
   rintro e w1 ⟨rfl, hro, hb1⟩
   have hT1 := HT.out.up hb1
   obtain ⟨arr, hb2, hn2, hc2⟩ := hT1.t
   have HG : Hid (w1.heap[w.heap.size]? = some (.cells arr 70 (0, 0))) := hb2
   have HN : Hid (R.n ≤ arr.size ∧ ∀ i, i < k → arr[i]? = some (.slice (some ⟨G i, 0, none⟩) (R.L i) (R.L i))) := ⟨hn2, hc2⟩
   have HO : Hid (RowTo wr.heap.size 110 (R.L k * 5) (flatT 5 fun i => (R.F k i).frame) (R.L k * 5) w1 ∧ LaidR w R G k w1 ∧ w.heap.size < wr.heap.size ∧ ∀ i, i < k → G i < wr.heap.size) := ⟨hro, hT1, HT.out.s, fun i hi => (HT.out.low i hi).2⟩
   clear hb1 hb2 hn2 hc2 hro hT1 HT
   go_wp2_with (refine wpList_stA rfl 70 (.tmp 21) (.tmp 20) rfl w.heap.size k (by simp [Act.eval]) (.slice (some ⟨wr.heap.size, 0, none⟩) (R.L k) (R.L k)) rfl 1 rfl 70 arr HG.out infoFs (by have := HN.out.1; omega) (by simp [Value.cells, Value.oneCell']) ?_)
   intro W2 hP
   have HT2 : Hid (LaidR w R (fun i => if i = k then wr.heap.size else G i) (k + 1) W2) := by
    obtain ⟨h1, h2, h3, h4⟩ := HO.out
    refine ⟨rowTo_put1 HN.out.1 (fun i hi => by rw [HN.out.2 i hi, if_neg (by omega)]) hlt (by rw [if_pos rfl]) hP, fun i hi => ?_, fun i hi => ?_, fun i j hij hj => ?_, h2.b.trans (hP.to.below h2.b.size (fun x hx => by simp at hx; omega)), by rw [hP.size]; exact h2.s⟩
    ·
     by_cases e : i = k
     ·
      subst e
      simp only [if_true]
      exact h1.keep (hP.to.block _ h1.lt (by simp; omega))
     ·
      simp only [if_neg e]
      have := (h2.low i (by omega)).1
      exact (h2.r i (by omega)).keep (hP.to.block _ (h2.r i (by omega)).lt (by simp; omega))
    ·
     rw [hP.size]
     by_cases e : i = k
     ·
      simp only [if_pos e]
      exact ⟨h3, h1.lt⟩
     ·
      simp only [if_neg e]
      exact h2.low i (by omega)
    ·
     by_cases e : j = k
     ·
      rw [if_pos e, if_neg (by omega)]
      exact h4 i (by omega)
     ·
      rw [if_neg e, if_neg (by omega)]
      exact h2.inc i j hij (by omega)
   clear hP HG HN HO
   go_wp2_with fail
   go_roundw
   case rel => exact ⟨k + 1, _, by omega, by go_num, HT2⟩
   case measure => simp [intOf]; omega
  ·
   obtain rfl : k = R.n := by omega
   have hge : ¬ ((R.n : Nat) : Int) < ((R.n : Nat) : Int) := by omega
   go_wp2_with fail
   go_ret
   exact ⟨rfl, G, HT.out⟩
set_option maxRecDepth 10000 in
set_option maxHeartbeats 2000000 in
theorem eqRws_any (R Q : Rws) (w : World) (hs : R.Small) (h1 : RdRws w R) (h2 : RdRws w Q) (hn : Q.n = R.n) (hl : Q.L = R.L) (hf : Q.F = R.F) :
  Calls Tryz.prog 15 #[.slice R.a R.n R.c, .slice Q.a Q.n Q.c] w fun e w' => e = .returned (.bool true) ∧ Below w.heap.size w w' := by
 have H1 : Hid (RdRws w R) := h1
 have HT2 : Hid (RdRow w Q.a R.n fun i => .slice (Q.A i) (R.L i) (Q.C i)) := by have := h2.t; rw [hn, hl] at this; exact this
 have HR2 : Hid (∀ i, i < R.n → RdF w (Q.A i) (R.L i) (R.F i)) := by have := h2.r; rw [hn, hl, hf] at this; exact this
 have HS : Hid R.Small := hs
 have hn9 := hs.n
 rw [hn]
 clear hs h1 h2 hn hl hf
 go_enter Tryz.func15, Tryz.ntmps15
 go_wp2_with fail
 go_loopw [5] (fun i wr => ∃ k : Nat, k ≤ R.n ∧ i = .int .i64 k ∧ Below w.heap.size w wr) (fun i _ => R.n - (intOf i).toNat)
 case atStart => exact ⟨0, Nat.zero_le _, rfl, Below.refl _ _⟩
 case round =>
  obtain ⟨k, hk, rfl, hB⟩ := hrel
  by_cases hlt : k < R.n
  ·
   have hlt' : (k : Int) < R.n := by omega
   obtain ⟨g, o, ha, hc⟩ := (H1.out.t.up hB.drew) k hlt
   obtain ⟨g2, o2, ha2, hc2⟩ := (HT2.out.up hB.drew) k hlt
   dsimp only at hc hc2
   rw [ha, ha2]
   have HC : Hid (wr.drew.cell? ⟨g, o + k, none⟩ = some (.slice (R.A k) (R.L k) (R.C k)) ∧ wr.drew.cell? ⟨g2, o2 + k, none⟩ = some (.slice (Q.A k) (R.L k) (Q.C k))) := ⟨hc, hc2⟩
   clear hc hc2 ha ha2
   go_wp2_with fail
   refine wp_region_held_drew (S := fun w' => w'.cell? ⟨g, o + k, none⟩ = some (.slice (R.A k) (R.L k) (R.C k)) ∧ w'.cell? ⟨g2, o2 + k, none⟩ = some (.slice (Q.A k) (R.L k) (Q.C k))) (by kernel_rfl) HC.out (fun hHeld => ?_)
   refine t0 ?_
   try simp only [Act.put, PZ]
   iterate 7 (refine tN ?_; try simp only [Act.put, PZ])
   refine r1 8 (fun K hK => ?_)
   go_simp
   refine (eqFrames_any (R.A k) (Q.A k) (R.L k) (R.C k) (Q.C k) (R.F k) _ (HS.out.l k hlt) ((H1.out.r k hlt).up hB.drew) ((HR2.out k hlt).up hB.drew)).mono ?_
   rintro e w1 ⟨rfl, hb⟩
   have HB1 : Hid (Below w.heap.size w w1) := hB.drew.trans (hb.mono hB.drew.size)
   have HC1 : Hid (w1.cell? ⟨g, o + k, none⟩ = some (.slice (R.A k) (R.L k) (R.C k)) ∧ w1.cell? ⟨g2, o2 + k, none⟩ = some (.slice (Q.A k) (R.L k) (Q.C k))) := ⟨(hb.cell (cellLt HC.out.1)).trans HC.out.1, (hb.cell (cellLt HC.out.2)).trans HC.out.2⟩
   clear hb HC hB
   go_wp2_with fail
   refine hK.out _ _ HC1.out (fun hHeld => ?_)
   clear hK K
   try simp only [Act.put, PZ]
   refine tN ?_
   try simp only [Act.put, PZ]
   refine dn ?_
   clear hHeld HC1
   go_wp2_with fail
   go_roundw
   case rel => exact ⟨k + 1, by omega, by go_num, HB1.out⟩
   case measure => simp [intOf]; omega
  ·
   obtain rfl : k = R.n := by omega
   have hge : ¬ ((R.n : Nat) : Int) < ((R.n : Nat) : Int) := by omega
   go_wp2_with fail
   go_ret
   exact ⟨rfl, hB⟩
def rwB (n : Nat) (G : Nat → Nat) : List Nat := (List.range n).map G
theorem rwB_mem {n : Nat} {G : Nat → Nat} {x : Nat} : x ∈ rwB n G ↔ ∃ i, i < n ∧ G i = x := by unfold rwB; simp
set_option maxRecDepth 10000 in
set_option maxHeartbeats 1000000 in
theorem markRws_any (w0 : World) (R : Rws) (G : Nat → Nat) (w : World) (hs : R.Small) (h : LaidR w0 R G R.n w) :
  Calls Tryz.prog 16 #[.slice (some ⟨w0.heap.size, 0, none⟩) R.n R.n, .int .i64 1] w fun e w' => ∃ q : Nat, e = .returned (.int .i64 (q : Int)) ∧ Touch (rwB R.n G) w w' := by
 have HL : Hid (LaidR w0 R G R.n w) := h
 have HS : Hid R.Small := hs
 have hn := hs.n
 clear h hs
 go_enter Tryz.func16, Tryz.ntmps16
 go_wp2_with fail
 go_loopw [1, 5] (fun x i wr => ∃ (k q : Nat), k ≤ R.n ∧ i = .int .i64 k ∧ x = .int .i64 (q : Int) ∧ Hid (q = 1 + 5 * sumL R.L k) ∧ Hid (Touch (rwB k G) w wr)) (fun _ i _ => R.n - (intOf i).toNat)
 case atStart => exact ⟨0, 1, Nat.zero_le _, rfl, rfl, rfl, Touch.refl _ _⟩
 case round =>
  obtain ⟨k, q, hk, rfl, rfl, HQ, HT⟩ := hrel
  by_cases hlt : k < R.n
  ·
   have hlt' : (k : Int) < R.n := by omega
   have hle := sumL_le R.L (show k + 1 ≤ R.n by omega)
   have HQ2 : Hid (sumL R.L k + R.L k ≤ sumL R.L R.n ∧ sumL R.L R.n ≤ 1048576) := ⟨hle, HS.out.s⟩
   have c0 : wr.cell? ⟨w0.heap.size, k, none⟩ = some (.slice (some ⟨G k, 0, none⟩) (R.L k) (R.L k)) := by
    rw [World.cell?_of_block (w := w) (a := ⟨w0.heap.size, k, none⟩) (HT.out.block _ HL.out.t.lt (fun hx => by
     obtain ⟨i, hi, e⟩ := rwB_mem.1 hx
     have h9 := (HL.out.low i (by omega)).1
     rw [e] at h9
     exact absurd h9 (Nat.lt_irrefl _)))]
    exact HL.out.t.at k hlt
   have HV : Hid (VT 110 wr 0 (some ⟨G k, 0, none⟩) (R.L k * 5) (flatT 5 fun j => (R.F k j).frame)) := .inr ⟨G k, rfl, Nat.zero_le _, (HL.out.r k hlt).keep (HT.out.block _ (HL.out.r k hlt).lt (fun hx => by
     obtain ⟨i, hi, e⟩ := rwB_mem.1 hx
     have h9 := HL.out.inc i k hi hlt
     rw [e] at h9
     exact absurd h9 (Nat.lt_irrefl _)))⟩
   clear hle
   go_wp2_with fail
   clear c0
   refine (markFrV_any (some ⟨G k, 0, none⟩) (R.L k) (R.L k) q 0 _ _ HV.out (HS.out.l k hlt) (by have := HQ.out; have := HQ2.out; omega)).mono ?_
   rintro e w1 ⟨rfl, _, ht⟩
   have HT2 : Hid (Touch (rwB (k + 1) G) w w1) := (HT.out.mono (fun x hx => by
     obtain ⟨i, hi, e⟩ := rwB_mem.1 hx
     exact rwB_mem.2 ⟨i, by omega, e⟩)).trans (ht.mono (fun x hx => by
     unfold blkV at hx
     split at hx
     ·
      simp at hx
     ·
      simp at hx
      exact rwB_mem.2 ⟨k, by omega, hx.symm⟩))
   have HQ3 : Hid (q + R.L k * 5 = 1 + 5 * sumL R.L (k + 1)) := by
    have := HQ.out
    show q + R.L k * 5 = 1 + 5 * (sumL R.L k + R.L k)
    omega
   clear ht HT HV
   go_wp2_with fail
   go_roundw
   case rel => exact ⟨k + 1, q + R.L k * 5, by omega, by go_num, rfl, HQ3, HT2⟩
   case measure => simp [intOf]; omega
  ·
   obtain rfl : k = R.n := by omega
   have hge : ¬ ((R.n : Nat) : Int) < ((R.n : Nat) : Int) := by omega
   go_wp2_with fail
   go_ret
   exact ⟨⟨q, rfl⟩, HT.out⟩
theorem Swg.Ok.nums9 {S : Swg} (h : S.Ok) : (0 ≤ S.C.p ∧ S.C.p ≤ 1000000) ∧ (0 ≤ S.now ∧ S.now ≤ 1000000000) ∧ (0 ≤ S.C.dl ∧ S.C.dl ≤ 1000000) := by
 have h1 := h.n.c.num.p
 have h2 := h.nums.now
 have h3 := h.n.c.num.dl
 omega
set_option maxRecDepth 100000 in
set_option maxHeartbeats 4000000 in
theorem iFabricOk_any (F : Fab) (w : World) (hs : F.Small) (hr : RdFb w F) (ok : Bool) (hok : ok = true ↔ F.Ok) :
  Calls Tryz.prog 8 #[.agg F.cells] w fun e w' => e = .returned (.bool ok) ∧ Below w.heap.size w w' := by
 have HO : Hid (ok = true ↔ F.Ok) := hok
 have HR : Hid (RdFb w F) := hr
 have HS : Hid F.Small := hs
 obtain ⟨W, eW⟩ : ∃ W, w.alloc (.cells F.cells 49) = W := ⟨_, rfl⟩
 have hB : Below (w.heap.size + 1) (w.alloc (.cells F.cells 49)) W := by rw [eW]; exact Below.refl _ _
 have HL : Hid (∀ j, j < 17 → W.cell? ⟨w.heap.size, 0 + j, none⟩ = F.S.cells[j]?) := blkSw (kept1 hB)
 have HB : Hid (Below (w.heap.size + 1) (w.alloc (.cells F.cells 49)) W) := hB
 clear hok hr hs hB
 obtain ⟨b0, h0⟩ := ok_decS (F.S.Ok)
 have G0 : Hid (b0 = true ↔ F.S.Ok) := h0
 clear h0
 obtain ⟨b1, h1⟩ := ok_decS (F.hostsOk)
 have G1 : Hid (b1 = true ↔ F.hostsOk) := h1
 clear h1
 obtain ⟨b2, h2⟩ := ok_decS (F.upOk)
 have G2 : Hid (b2 = true ↔ F.upOk) := h2
 clear h2
 obtain ⟨b3, h3⟩ := ok_decS (F.downOk)
 have G3 : Hid (b3 = true ↔ F.downOk) := h3
 clear h3
 go_enter Tryz.func8, Tryz.ntmps8
 go_wp2_with (refine wpList_ldT rfl 45 17 _ Tryz.underlying45 rfl infoSg (.tmp 3) rfl w.heap.size 0 rfl F.S.cells rfl HL.out ?_)
 clear eW HL
 refine (iSwitchOk_any F.S _ HS.out.s (HR.out.s.up (under HB.out)) b0 G0.out).mono ?_
 rintro e w1 ⟨rfl, hb⟩
 replace HB : Hid (Below (w.heap.size + 1) (w.alloc (.cells F.cells 49)) w1) := next HB.out hb
 clear hb
 cases b0
 ·
  have HF : Hid (ok = false) := by
   rw [Hid, Bool.eq_false_iff]
   intro e
   exact absurd (G0.out.2 (HO.out.1 e).s) (by simp)
  have B9 := under HB.out
  go_wp2_with fail
  go_ret
  exact ⟨ret_bool HF.out.symm, B9⟩
 have P0 : Hid F.S.Ok := G0.out.1 rfl
 have HL : Hid (∀ j, j < 20 → w1.cell? ⟨w.heap.size, 0 + j, none⟩ = F.cells[j]?) := blkT (kept1 HB.out) 20
 clear G0
 go_wp2_with (refine wpList_ldTg 49 20 _ Tryz.underlying49 rfl infoFb20 (.tmp 1) rfl (by kernel_rfl) w.heap.size 0 rfl F.cells rfl HL.out ?_)
 clear HL
 refine (iHosts_any F _ HS.out (HR.out.up (under HB.out)) b1 G1.out).mono ?_
 rintro e w2 ⟨rfl, hb⟩
 replace HB : Hid (Below (w.heap.size + 1) (w.alloc (.cells F.cells 49)) w2) := next HB.out hb
 clear hb
 cases b1
 ·
  have HF : Hid (ok = false) := by
   rw [Hid, Bool.eq_false_iff]
   intro e
   exact absurd (G1.out.2 (HO.out.1 e).h) (by simp)
  have B9 := under HB.out
  go_wp2_with fail
  go_ret
  exact ⟨ret_bool HF.out.symm, B9⟩
 have P1 : Hid (F.hostsOk) := G1.out.1 rfl
 have HL : Hid (∀ j, j < 17 → w2.cell? ⟨w.heap.size, 0 + j, none⟩ = F.S.cells[j]?) := blkSw (kept1 HB.out)
 have cc : w2.cell? ⟨w.heap.size, 18, none⟩ = some (.slice F.aU F.nU F.cU) := blk_cell (kept1 HB.out) 18
 clear G1
 go_wp2_with (refine wpList_ldTg 45 17 _ Tryz.underlying45 rfl infoSg (.tmp 11) rfl (by kernel_rfl) w.heap.size 0 rfl F.S.cells rfl HL.out ?_)
 clear HL cc
 refine (flightsUp_any F.S F.aU F.nU F.cU F.U _ HS.out.u HS.out.bu P0.out.nums9.1 P0.out.nums9.2.1 P0.out.nums9.2.2 (HR.out.u.up (under HB.out)) b2 G2.out).mono ?_
 rintro e w3 ⟨rfl, hb⟩
 replace HB : Hid (Below (w.heap.size + 1) (w.alloc (.cells F.cells 49)) w3) := next HB.out hb
 clear hb
 cases b2
 ·
  have HF : Hid (ok = false) := by
   rw [Hid, Bool.eq_false_iff]
   intro e
   exact absurd (G2.out.2 (HO.out.1 e).u) (by simp)
  have B9 := under HB.out
  go_wp2_with fail
  go_ret
  exact ⟨ret_bool HF.out.symm, B9⟩
 have P2 : Hid (F.upOk) := G2.out.1 rfl
 have HL : Hid (∀ j, j < 17 → w3.cell? ⟨w.heap.size, 0 + j, none⟩ = F.S.cells[j]?) := blkSw (kept1 HB.out)
 have cc : w3.cell? ⟨w.heap.size, 19, none⟩ = some (.slice F.aD F.nD F.cD) := blk_cell (kept1 HB.out) 19
 clear G2
 go_wp2_with (refine wpList_ldTg 45 17 _ Tryz.underlying45 rfl infoSg (.tmp 18) rfl (by kernel_rfl) w.heap.size 0 rfl F.S.cells rfl HL.out ?_)
 clear HL cc
 refine (flightsDown_any F.S F.aD F.nD F.cD F.D _ HS.out.d HS.out.bd P0.out.nums9.1 P0.out.nums9.2.1 P0.out.nums9.2.2 (HR.out.d.up (under HB.out)) b3 G3.out).mono ?_
 rintro e w4 ⟨rfl, hb⟩
 replace HB : Hid (Below (w.heap.size + 1) (w.alloc (.cells F.cells 49)) w4) := next HB.out hb
 clear hb
 cases b3
 ·
  have HF : Hid (ok = false) := by
   rw [Hid, Bool.eq_false_iff]
   intro e
   exact absurd (G3.out.2 (HO.out.1 e).d) (by simp)
  have B9 := under HB.out
  go_wp2_with fail
  go_ret
  exact ⟨ret_bool HF.out.symm, B9⟩
 have HT : Hid (ok = true) := HO.out.2 ⟨P0.out, P1.out, P2.out, G3.out.1 rfl⟩
 have B9 := under HB.out
 go_wp2_with fail
 go_ret
 exact ⟨ret_bool HT.out.symm, B9⟩
structure Ln where
 st : Bool
 aU : Option Addr
 cU : Nat
 R : Rnd
def Ln.cells (l : Ln) : Array Value := #[.bool l.st, .slice none 0 0, .slice l.aU 2 l.cU, .slice l.R.aQ l.R.nQ l.R.cQ, .slice l.R.aD l.R.nD l.R.cD, .int .i64 l.R.turn, .bool l.R.fresh, .slice l.R.aS l.R.nS l.R.cS]
theorem Ln.cells_size (l : Ln) : l.cells.size = 8 := rfl
def flatL (L : Nat → Ln) (j : Nat) : Value := ((L (j / 8)).cells[j % 8]?).getD (.bool false)
theorem flatL_at (L : Nat → Ln) (i j : Nat) (h : j < 8) : some (flatL L (i * 8 + j)) = (L i).cells[j]? := by
 unfold flatL
 rw [show (i * 8 + j) / 8 = i by omega, show (i * 8 + j) % 8 = j by omega]
 have : j < (L i).cells.size := by rw [Ln.cells_size]; exact h
 simp [this]
def RdLn (w : World) (a : Option Addr) (n : Nat) (L : Nat → Ln) : Prop := ∀ i, i < n → ∃ g o, a = some ⟨g, o, none⟩ ∧ ∀ j, j < 8 → w.cell? ⟨g, o + i * 8 + j, none⟩ = (L i).cells[j]?
theorem RdLn.nil (w : World) (a : Option Addr) (L : Nat → Ln) : RdLn w a 0 L := fun i hi => by omega
theorem RowTo.lanes {g n : Nat} {t : TypeId} {L : Nat → Ln} {w : World} (h : RowTo g t (n * 8) (flatL L) (n * 8) w) : RdLn w (some ⟨g, 0, none⟩) n L := by
 intro i hi
 refine ⟨g, 0, rfl, fun j hj => ?_⟩
 rw [Nat.zero_add, h.at (i * 8 + j) (by omega), flatL_at L i j hj]
theorem OwnRn.off {w w' : World} {base : Nat} {R : Rnd} {S : List Nat} (h : OwnRn w base R) (hl : ∀ j, R.L j = 0) (ht : Touch S w w') (hq : ∀ x ∈ blkI R.aQ R.nQ, x ∉ S) (hd : ∀ x ∈ blkI R.aD R.nD, x ∉ S)
  (hS : ∀ g arr, w.heap[g]? = some (.cells arr 25 (0, 0)) → g ∉ S) : OwnRn w' base R :=
 ⟨h.q.touchS ht hq, h.d.touchS ht hd, h.s.touchI ht hS, fun i hi => .inl (hl i), h.qd, h.qz, h.dz, h.zz⟩
structure Lanes (w : World) (n : Nat) (b : Nat → Nat) (g : Nat) (L : Nat → Ln) : Prop where
 row : RowTo g 118 (n * 8) (flatL L) (n * 8) w
 own : ∀ i, i < n → OwnRn w (b i) (L i).R
 sh : ∀ i, i < n → (L i).R.nQ = 2 ∧ (L i).R.nD = 2 ∧ (L i).R.nS = 2 ∧ ∀ j, (L i).R.L j = 0
 u : ∀ i, i < n → VS w (b i) (L i).aU 2 fun _ => .slice none 0 0
 hq : ∀ i, i < n → ∀ x ∈ blkI (L i).R.aQ (L i).R.nQ, x < b (i + 1)
 hd : ∀ i, i < n → ∀ x ∈ blkI (L i).R.aD (L i).R.nD, x < b (i + 1)
 bm : ∀ i, i < n → b i ≤ b (i + 1)
 gb : b 0 ≤ g
theorem Lanes.mono {w : World} {n : Nat} {b : Nat → Nat} {g : Nat} {L : Nat → Ln} (h : Lanes w n b g L) {i j : Nat} (hij : i ≤ j) (hj : j ≤ n) : b i ≤ b j := by
 induction j with
 | zero =>
      obtain rfl : i = 0 := by omega
      exact Nat.le_refl _
 | succ j ih =>
  by_cases e : i = j + 1
  ·
   subst e; exact Nat.le_refl _
  ·
   exact Nat.le_trans (ih (by omega) (by omega)) (h.bm j (by omega))
def Ln.blks (l : Ln) : List Nat := blkI l.R.aQ l.R.nQ ++ blkI l.R.aD l.R.nD
theorem Lanes.touch {w w' : World} {n : Nat} {b : Nat → Nat} {g : Nat} {L : Nat → Ln} {S : List Nat} (h : Lanes w n b g L) (ht : Touch S w w') (hg : g ∉ S) (hB : ∀ i, i < n → ∀ x ∈ (L i).blks, x ∉ S)
  (hS : ∀ g arr, w.heap[g]? = some (.cells arr 25 (0, 0)) → g ∉ S) : Lanes w' n b g L :=
 ⟨h.row.keep (ht.block g h.row.lt hg), fun i hi => (h.own i hi).off (h.sh i hi).2.2.2 ht (fun x hx => hB i hi x (List.mem_append_left _ hx)) (fun x hx => hB i hi x (List.mem_append_right _ hx)) hS, h.sh, fun i hi => (h.u i hi).touchI ht hS, h.hq, h.hd, h.bm, h.gb⟩
theorem Lanes.touchLo {w w' : World} {n : Nat} {b : Nat → Nat} {g : Nat} {L : Nat → Ln} {S : List Nat} (h : Lanes w n b g L) (ht : Touch S w w') (hS : ∀ x ∈ S, x < b 0) : Lanes w' n b g L :=
 have hb : ∀ i, i < n → ∀ x ∈ S, x < b i := fun i hi x hx => by
  have := hS x hx
  have := h.mono (i := 0) (j := i) (by omega) (by omega)
  omega
 ⟨h.row.keep (ht.block g h.row.lt (fun hx => by have := hS g hx; have := h.gb; omega)), fun i hi => (h.own i hi).touch ht (hb i hi), h.sh, fun i hi => (h.u i hi).imp id (by
  rintro ⟨g', ha, hg, hr⟩
  exact ⟨g', ha, hg, hr.keep (ht.block g' hr.lt (fun hx => by have := hb i hi g' hx; omega))⟩), h.hq, h.hd, h.bm, h.gb⟩
theorem Lanes.up {w w' : World} {n : Nat} {b : Nat → Nat} {g : Nat} {L : Nat → Ln} (h : Lanes w n b g L) (hb : Below w.heap.size w w') : Lanes w' n b g L :=
 h.touch (S := []) (Touch.ofBelow hb) (by simp) (fun _ _ _ _ => by simp) (fun _ _ _ => by simp)
def upd (L : Nat → Ln) (k : Nat) (l : Ln) (i : Nat) : Ln := if i = k then l else L i
theorem upd_self (L : Nat → Ln) (k : Nat) (l : Ln) : upd L k l k = l := if_pos rfl
theorem upd_ne (L : Nat → Ln) (k : Nat) (l : Ln) {i : Nat} (h : i ≠ k) : upd L k l i = L i := if_neg h
theorem upd_all {L : Nat → Ln} {k : Nat} {l : Ln} {n : Nat} {p : Nat → Ln → Prop} (h : ∀ i, i < n → i ≠ k → p i (L i)) (hk : p k l) : ∀ i, i < n → p i (upd L k l i) := by
 intro i hi
 by_cases e : i = k
 ·
  subst e; rw [upd_self]; exact hk
 ·
  rw [upd_ne _ _ _ e]; exact h i hi e
theorem infoLn : (Tryz.prog.info? 118).map (fun i => (i.zero, i.size, i.bytes)) = some (some (.agg #[.bool false, .slice none 0 0, .slice none 0 0, .slice none 0 0, .slice none 0 0, .int .i64 0, .bool false, .slice none 0 0]), 8, 144) := by kernel_rfl
def listL (L : Nat → Ln) (n : Nat) : List Value := (List.range n).flatMap fun i => (L i).cells.toList
theorem listL_succ (L : Nat → Ln) (n : Nat) : listL L (n + 1) = listL L n ++ (L n).cells.toList := by simp [listL, List.range_succ]
theorem listL_len (L : Nat → Ln) : ∀ n, (listL L n).length = n * 8
 | 0 => rfl
 | n + 1 => by
  rw [listL_succ, List.length_append, listL_len L n]
  simp [Ln.cells]; omega
theorem listL_ext {L L' : Nat → Ln} : ∀ {n}, (∀ i, i < n → L i = L' i) → listL L n = listL L' n
 | 0, _ => rfl
 | n + 1, h => by rw [listL_succ, listL_succ, listL_ext (fun i hi => h i (by omega)), h n (by omega)]
theorem listL_get (L : Nat → Ln) : ∀ n i j, i < n → j < 8 → (listL L n)[i * 8 + j]? = (L i).cells[j]?
 | 0, i, j, h, _ => by omega
 | n + 1, i, j, h, hj => by
  rw [listL_succ]
  by_cases e : i = n
  ·
   subst e
   rw [List.getElem?_append_right (by rw [listL_len]; omega), listL_len, show i * 8 + j - i * 8 = j by omega]
   simp
  ·
   rw [List.getElem?_append_left (by rw [listL_len]; omega)]
   exact listL_get L n i j (by omega) hj
def OwnLsN (w : World) (base : Nat) (v : Value) (n : Nat) (L : Nat → Ln) : Prop := w.ownsRow base 118 8 v n (listL L n)
theorem OwnLsN.nil (w : World) (base : Nat) (L : Nat → Ln) : OwnLsN w base (.slice none 0 0) 0 L := World.ownsRow_nil _ _ _ _
theorem OwnLsN.up {w w' : World} {base n : Nat} {v : Value} {L : Nat → Ln} (h : OwnLsN w base v n L) (hb : Below w.heap.size w w') : OwnLsN w' base v n L := own_below h hb (Nat.le_refl _)
theorem cells_lane_new (w : World) (l : Ln) (t : TypeId) : ∀ j u, (l.cells.toList)[j]? = some u → (w.alloc (.cells l.cells t)).cell? ((⟨w.heap.size, 0, none⟩ : Addr).add j) = some u := by
 intro j u hj
 have hc := blk_cell (blk_new w (.cells l.cells t)) j
 have : (⟨w.heap.size, 0, none⟩ : Addr).add j = ⟨w.heap.size, j, none⟩ := by unfold Addr.add; split <;> simp_all
 rw [this, hc]
 simpa using hj
theorem oneL (l : Ln) : ∀ u ∈ l.cells.toList, u.oneCell' = true := by
 intro u hu
 simp [Ln.cells] at hu
 rcases hu with rfl | rfl | rfl | rfl | rfl | rfl | rfl | rfl <;> rfl
theorem appendLn {w : World} {base n : Nat} {v : Value} {L : Nat → Ln} (l : Ln) (h : OwnLsN w base v n L) (hl : n ≤ 1048576) (hb : base ≤ w.heap.size) (ty : TypeId) :
  ∃ g cap w', (Builtin.append_ #[43, 43] ty #[v, .slice (some ⟨w.heap.size, 0, none⟩) 1 1]).run Tryz.prog (w.alloc (.cells l.cells 118)) = .ok (.slice (some ⟨g, 0, none⟩) (n + 1) cap) w' ∧
   OwnLsN w' base (.slice (some ⟨g, 0, none⟩) (n + 1) cap) (n + 1) (upd L n l) ∧ w.grownBy w' v.ownBlock ∧ (some g = v.ownBlock ∨ w.heap.size ≤ g) := by
 obtain ⟨i0, hi, hz0, hz1, hz2⟩ := info_parts infoLn
 obtain ⟨v', w', hr, h2, h3, h4, h5⟩ := run_append_own_at (P := Tryz.prog) (w.alloc (.cells l.cells 118)) base 43 ty 118 i0 _ 8 144 Tryz.underlying43 hi hz0 hz1 hz2 rfl (by decide) v n (listL L n) (World.ownsRow.alloc h _) ⟨w.heap.size, 0, none⟩ 1 1 l.cells.toList rfl (cells_lane_new w l _) (oneL l) (by unfold maxLen; omega) (by omega) (by simp; omega)
 rcases h2.2 with ⟨_, h0⟩ | ⟨g, cap, cur, rfl, _⟩
 ·
  omega
 refine ⟨g, cap, w', hr, ?_, ?_, ?_⟩
 ·
  unfold OwnLsN
  rw [listL_succ, upd_self, listL_ext (L' := L) (fun i hi => upd_ne _ _ _ (by omega))]
  exact h2
 ·
  exact (World.grownBy_alloc w _ _).trans h3
 ·
  rcases h5 with h5 | h5
  ·
   exact .inl h5
  ·
   right
   simp only [Value.ownBlock, Option.some.injEq] at h5
   rw [h5]; simp
theorem OwnLsN.row {w : World} {base n : Nat} {v : Value} {L : Nat → Ln} (h : OwnLsN w base v n L) : (v = .slice none 0 0 ∧ n = 0) ∨ ∃ g cap, v = .slice (some ⟨g, 0, none⟩) n cap ∧ base ≤ g ∧ RowTo g 118 (n * 8) (flatL L) (n * 8) w := by
 rcases h.2 with ⟨h1, h2⟩ | ⟨g, cap, cur, hv, hg, hblk, hn, hc, hs, ht⟩
 ·
  exact .inl ⟨h1, h2⟩
 refine .inr ⟨g, cap, hv, hg, cur, hblk, by rw [hs]; omega, fun j hj => ?_⟩
 have hg0 : cur[j]? = (listL L n)[j]? := by
  rw [← ht, List.getElem?_take_of_lt hj, Array.getElem?_toList]
 rw [hg0, show j = j / 8 * 8 + j % 8 by omega, listL_get L n (j / 8) (j % 8) (by omega) (by omega), flatL_at L (j / 8) (j % 8) (by omega)]
structure MadeL (w : World) (b0 : Nat) (v : Value) (n : Nat) (b : Nat → Nat) (L : Nat → Ln) : Prop where
 row : OwnLsN w b0 v n L
 own : ∀ i, i < n → OwnRn w (b i) (L i).R
 sh : ∀ i, i < n → (L i).R.nQ = 2 ∧ (L i).R.nD = 2 ∧ (L i).R.nS = 2 ∧ ∀ j, (L i).R.L j = 0
 u : ∀ i, i < n → VS w (b i) (L i).aU 2 fun _ => .slice none 0 0
 hq : ∀ i, i < n → ∀ x ∈ blkI (L i).R.aQ (L i).R.nQ, x < b (i + 1)
 hd : ∀ i, i < n → ∀ x ∈ blkI (L i).R.aD (L i).R.nD, x < b (i + 1)
 bm : ∀ i, i < n → b i ≤ b (i + 1)
 b0 : b0 = b 0
 bn : b n ≤ w.heap.size
theorem MadeL.start (w : World) (b0 : Nat) (h : b0 ≤ w.heap.size) (L : Nat → Ln) : MadeL w b0 (.slice none 0 0) 0 (fun _ => b0) L :=
 ⟨OwnLsN.nil _ _ _, fun i hi => by omega, fun i hi => by omega, fun i hi => by omega, fun i hi => by omega, fun i hi => by omega, fun i hi => by omega, rfl, h⟩
theorem MadeL.up {w w' : World} {b0 n : Nat} {v : Value} {b : Nat → Nat} {L : Nat → Ln} (h : MadeL w b0 v n b L) (hb : Below w.heap.size w w') : MadeL w' b0 v n b L :=
 ⟨h.row.up hb, fun i hi => (h.own i hi).up hb, h.sh, fun i hi => (h.u i hi).up hb, h.hq, h.hd, h.bm, h.b0, Nat.le_trans h.bn hb.size⟩
theorem MadeL.lanes {w : World} {b0 n : Nat} {v : Value} {b : Nat → Nat} {L : Nat → Ln} (h : MadeL w b0 v n b L) : (v = .slice none 0 0 ∧ n = 0) ∨ ∃ g cap, v = .slice (some ⟨g, 0, none⟩) n cap ∧ b0 ≤ g ∧ Lanes w n b g L := by
 rcases h.row.row with h1 | ⟨g, cap, hv, hg, hr⟩
 ·
  exact .inl h1
 ·
  exact .inr ⟨g, cap, hv, hg, hr, h.own, h.sh, h.u, h.hq, h.hd, h.bm, by rw [← h.b0]; exact hg⟩
def rowsT (N : Cnt) : List Nat := blkV N.aU N.nU ++ blkV N.aP N.nP
theorem OwnCn.tbl {w : World} {base : Nat} {N : Cnt} (h : OwnCn w base N) : ∀ x ∈ rowsT N, base ≤ x ∧ x < w.heap.size := by
 intro x hx
 rcases List.mem_append.1 hx with hx | hx
 ·
  exact h.u.blk x hx
 ·
  exact h.p.blk x hx
theorem OwnCn.boxOut {w : World} {base : Nat} {N : Cnt} (h : OwnCn w base N) {g : Nat} {cs : Array Value} {t : TypeId} (h2 : 2 ≠ t) (h4 : 4 ≠ t) (hk : w.heap[g]? = some (.cells cs t (0, 0))) : g ∉ rowsT N := by
 intro hx
 rcases List.mem_append.1 hx with hx | hx
 ·
  exact VT.boxOut h.u h2 hk hx
 ·
  exact VT.boxOut h.p h4 hk hx
structure Sw where
 C : Cfg
 nx : Int
 N : Cnt
 aL : Option Addr
 nL : Nat
 cL : Nat
 L : Nat → Ln
def Sw.cells (S : Sw) : Array Value := #[.int .i64 S.C.p, .int .i64 S.C.c, .int .i64 S.C.xo, .int .i64 S.C.xn, .int .i64 S.C.hd, .int .i64 S.C.lo, .int .i64 S.C.dl, .int .i64 0, .int .i64 S.nx, .slice none 0 0, .slice S.N.aU S.N.nU S.N.cU, .int .i64 S.N.lo, .slice S.N.aP S.N.nP S.N.cP, .slice none 0 0, .slice S.aL S.nL S.cL, .int .i64 0, .int .i64 0]
structure RdSw (w : World) (S : Sw) : Prop where
 n : RdCnt w S.N
 l : RdLn w S.aL S.nL S.L
 u : ∀ i, i < S.nL → RdRow w (S.L i).aU 2 fun _ => .slice none 0 0
 r : ∀ i, i < S.nL → RdRnd w (S.L i).R
structure OwnSw (w : World) (base : Nat) (g : Nat) (b : Nat → Nat) (S : Sw) : Prop where
 n : OwnCn w base S.N
 bb : base ≤ b 0
 l : Lanes w S.nL b g S.L
 a : S.aL = some ⟨g, 0, none⟩
 z : ∀ x ∈ rowsT S.N, x < b 0
theorem OwnSw.up {w w' : World} {base g : Nat} {b : Nat → Nat} {S : Sw} (h : OwnSw w base g b S) (hb : Below w.heap.size w w') : OwnSw w' base g b S := ⟨h.n.up hb, h.bb, h.l.up hb, h.a, h.z⟩
theorem OwnSw.rd {w : World} {base g : Nat} {b : Nat → Nat} {S : Sw} (h : OwnSw w base g b S) : RdSw w S := ⟨h.n.rd, by rw [h.a]; exact h.l.row.lanes, fun i hi => (h.l.u i hi).read, fun i hi => (h.l.own i hi).rd⟩
theorem OwnCn.off {w w' : World} {base : Nat} {N : Cnt} {T : List Nat} (h : OwnCn w base N) (ht : Touch T w w') (hT : ∀ x ∈ rowsT N, x ∉ T) : OwnCn w' base N :=
 ⟨h.u.touchS ht (fun x hx => hT x (List.mem_append_left _ hx)), h.p.touchS ht (fun x hx => hT x (List.mem_append_right _ hx))⟩
theorem infoS : (Tryz.prog.info? 45).map (·.size) = some 17 := by kernel_rfl
theorem wpList_ldS {ops : Array Oper} {rest : List Oper} {o : Oper} {a : Act} {w : World} {Q : Exit → Act → World → Prop} (hg : o.guard = none) (x : Operand) (ho : o.op = .load 45 x) (g : Nat) (hx : a.eval x = .pointer (some ⟨g, 0, none⟩))
  (cs : Array Value) (hk : w.heap[g]? = some (.cells cs 45 (0, 0))) (hs : cs.size = 17) (h : wpList Tryz.prog ops Q rest (a.put o.dst (.agg cs)) w) : wpList Tryz.prog ops Q (o :: rest) a w :=
 wpList_plain hg fun _ hK => wp_load_row 45 x ho g hx 45 cs (0, 0) _ hk Tryz.underlying45 rfl (by rw [hs]; exact infoS) (hK _ _ h)
theorem wpList_stS {ops : Array Oper} {rest : List Oper} {o : Oper} {a : Act} {w : World} {Q : Exit → Act → World → Prop} (hg : o.guard = none) (x y : Operand) (ho : o.op = .store 45 x y) (g : Nat) (hx : a.eval x = .pointer (some ⟨g, 0, none⟩))
  (cs : Array Value) (hy : a.eval y = .agg cs) (old : Array Value) (hk : w.heap[g]? = some (.cells old 45 (0, 0))) (hs : cs.size = 17) (ho2 : old.size = 17) (h1 : cs.all (·.oneCell') = true) (h : wpList Tryz.prog ops Q rest (a.put o.dst undef) (w.setRow g cs)) : wpList Tryz.prog ops Q (o :: rest) a w :=
 wpList_plain hg fun _ hK => wp_store_row 45 x y ho g cs hx hy 45 old hk (by rw [hs]; exact infoS) (by omega) h1 (hK _ _ h)
theorem res_cellS {fn : Func} {i j : Tmp} (h : fn.results = #[.cell i 45, .tmp j]) (tmps : Array Value) (w : World) (g : Nat) (cs : Array Value) (hi : tmps[i]?.getD undef = .pointer (some ⟨g, 0, none⟩)) (hk : w.heap[g]? = some (.cells cs 45 (0, 0))) (hs : cs.size = 17) (v : Value) (hv : tmps[j]?.getD undef = v) :
  (results fn tmps).run Tryz.prog w = .ok (.tuple #[.agg cs, v]) w := by
 have := run_loadVar_row (P := Tryz.prog) w g 45 45 cs (0, 0) _ hk Tryz.underlying45 rfl (by rw [hs]; exact infoS)
 simp [results, h, hi, hv, asAddr, this]
theorem setRow_blk {w : World} {g : Nat} {old cs : Array Value} {t : TypeId} (h : w.heap[g]? = some (.cells old t (0, 0))) : (w.setRow g cs).heap[g]? = some (.cells cs t (0, 0)) := by
 simp [World.setRow, Array.getElem?_modify, h]
theorem setRow_touch (w : World) (g : Nat) (cs : Array Value) : Touch [g] w (w.setRow g cs) := ⟨rfl, rfl, rfl, by simp [World.setRow], fun k _ hn => by
 have : ¬ g = k := fun e => hn (by simp [e])
 simp [World.setRow, Array.getElem?_modify, this]⟩
def qfN (i : Nat) : Int := if i = 0 then 2 else 4
theorem qf_ok : (newR 2 qfN none 0 0 0).Ok := by
 refine ⟨⟨by decide, by decide⟩, rfl, rfl, ⟨by decide, by decide⟩, fun i hi => ⟨?_, ⟨Nat.zero_le _, fun j hj => ?_⟩, ?_⟩⟩
 ·
  show 1 ≤ qfN i ∧ qfN i ≤ 10
  unfold qfN
  split <;> exact ⟨by decide, by decide⟩
 ·
  have hj : j < 0 := hj
  omega
 ·
  show defP _ _ 0 _
  unfold defP
  rw [if_pos rfl]; rfl
theorem two_row (w : World) : RdRow (w.alloc (.cells #[.int .i64 2, .int .i64 4] 2)) (some ⟨w.heap.size, 0, none⟩) 2 fun i => .int .i64 (qfN i) := by
 intro i hi
 refine ⟨w.heap.size, 0, rfl, ?_⟩
 rw [blk_cell (blk_new _ _)]
 match i, hi with
 | 0, _ => rfl
 | 1, _ => rfl
 | i + 2, hi => omega
theorem make_two (w : World) : (Instr.makeSlice 114 (.int .i64 2) (.int .i64 2)).run Tryz.prog w = .ok (.slice (some ⟨w.heap.size, 0, none⟩) 2 2) (w.alloc (.cells (zSls 2) 25)) := make_sls 2 (by omega) w
theorem two_vs {w : World} {base g : Nat} (hg : base ≤ g) (h : w.heap[g]? = some (.cells (zSls 2) 25 (0, 0))) : VS w base (some ⟨g, 0, none⟩) 2 fun _ => .slice none 0 0 := .inr ⟨g, rfl, hg, zSls_row h⟩
theorem grown_touch {W W' : World} {row : Option Nat} (h : W.grownBy W' row) : Touch row.toList W W' := ⟨h.os, h.tape, h.output, h.size, fun k hk hn => h.block k hk (fun e => hn (by rw [← e]; simp))⟩
theorem OwnLsN.typed {w : World} {base n : Nat} {v : Value} {L : Nat → Ln} (h : OwnLsN w base v n L) : ∀ x ∈ v.ownBlock.toList, base ≤ x ∧ ∃ arr, w.heap[x]? = some (.cells arr 118 (0, 0)) := by
 intro x hx
 rcases h.2 with ⟨h1, h2⟩ | ⟨g, cap, cur, hv, hg, hblk, _⟩
 ·
  rw [h1] at hx
  simp [Value.ownBlock] at hx
 ·
  rw [hv] at hx
  simp [Value.ownBlock] at hx
  subst hx
  exact ⟨hg, cur, hblk⟩
theorem MadeL.mono {w : World} {b0 n : Nat} {v : Value} {b : Nat → Nat} {L : Nat → Ln} (h : MadeL w b0 v n b L) {i j : Nat} (hij : i ≤ j) (hj : j ≤ n) : b i ≤ b j := by
 induction j with
 | zero =>
      obtain rfl : i = 0 := by omega
      exact Nat.le_refl _
 | succ j ih =>
  by_cases e : i = j + 1
  ·
   subst e; exact Nat.le_refl _
  ·
   exact Nat.le_trans (ih (by omega) (by omega)) (h.bm j (by omega))
theorem MadeL.touchLo {w w' : World} {b0 n : Nat} {v : Value} {b : Nat → Nat} {L : Nat → Ln} {S : List Nat} (h : MadeL w b0 v n b L) (ht : Touch S w w') (hS : ∀ x ∈ S, x < b0) : MadeL w' b0 v n b L := by
 have hb : ∀ i, i < n → ∀ x ∈ S, x < b i := fun i hi x hx => by
  have := hS x hx
  have := h.mono (i := 0) (j := i) (by omega) (by omega)
  have := h.b0
  omega
 refine ⟨?_, fun i hi => (h.own i hi).touch ht (hb i hi), h.sh, fun i hi => (h.u i hi).imp id (by
  rintro ⟨g', ha, hg, hr⟩
  exact ⟨g', ha, hg, hr.keep (ht.block g' hr.lt (fun hx => by have := hb i hi g' hx; omega))⟩), h.hq, h.hd, h.bm, h.b0, Nat.le_trans h.bn ht.size⟩
 obtain ⟨h1, h2⟩ := h.row
 refine ⟨h1, h2.imp id ?_⟩
 rintro ⟨g, cap, cur, hv, hg, hblk, hr⟩
 exact ⟨g, cap, cur, hv, hg, (ht.block g (blk_lt hblk) (fun hx => by have := hS g hx; omega)).trans hblk, hr⟩
def upB (b : Nat → Nat) (k x i : Nat) : Nat := if i ≤ k then b i else x
theorem MadeL.next {W W' : World} {b0 k : Nat} {v v' : Value} {b : Nat → Nat} {L : Nat → Ln} (h : MadeL W b0 v k b L) (l : Ln) (hrow : OwnLsN W' b0 v' (k + 1) (upd L k l)) (hg : W.grownBy W' v.ownBlock)
  (hR : OwnRn W (b k) l.R) (hsh : l.R.nQ = 2 ∧ l.R.nD = 2 ∧ l.R.nS = 2 ∧ ∀ j, l.R.L j = 0) (hU : VS W (b k) l.aU 2 fun _ => .slice none 0 0) : MadeL W' b0 v' (k + 1) (upB b k W'.heap.size) (upd L k l) := by
 have ht := grown_touch hg
 have hty := h.row.typed
 have hS : ∀ g arr, W.heap[g]? = some (.cells arr 25 (0, 0)) → g ∉ v.ownBlock.toList := fun g arr hb hx => by
  obtain ⟨_, arr2, h2⟩ := hty g hx
  rw [hb] at h2
  simp at h2
 have hI : ∀ {base : Nat} {a : Option Addr} {n : Nat} {f : Nat → Int}, VI W base a n f → ∀ x ∈ blkI a n, x ∉ v.ownBlock.toList := fun hv x hx hm => by
  obtain ⟨_, arr2, h2⟩ := hty x hm
  exact notInI hv (by decide) h2 hx
 have hO : ∀ {base : Nat} {R : Rnd}, OwnRn W base R → (∀ j, R.L j = 0) → OwnRn W' base R := fun hr hl => hr.off hl ht (hI hr.q) (hI hr.d) hS
 have hb : ∀ i, i < k + 1 → (upB b k W'.heap.size) i = b i := fun i hi => if_pos (by omega)
 have hbs : ∀ i, i < k → (upB b k W'.heap.size) (i + 1) = b (i + 1) := fun i hi => if_pos (by omega)
 have hbk : (upB b k W'.heap.size) (k + 1) = W'.heap.size := if_neg (by omega)
 refine ⟨hrow, ?_, ?_, ?_, ?_, ?_, ?_, ?_, ?_⟩
 ·
  intro i hi
  rw [hb i hi]
  by_cases e : i = k
  ·
   subst e; rw [upd_self]; exact hO hR hsh.2.2.2
  ·
   rw [upd_ne _ _ _ e]; exact hO (h.own i (by omega)) (h.sh i (by omega)).2.2.2
 ·
  intro i hi
  by_cases e : i = k
  ·
   subst e; rw [upd_self]; exact hsh
  ·
   rw [upd_ne _ _ _ e]; exact h.sh i (by omega)
 ·
  intro i hi
  rw [hb i hi]
  by_cases e : i = k
  ·
   subst e; rw [upd_self]; exact hU.touchI ht hS
  ·
   rw [upd_ne _ _ _ e]; exact (h.u i (by omega)).touchI ht hS
 ·
  intro i hi
  by_cases e : i = k
  ·
   subst e
   rw [upd_self, hbk]
   exact fun x hx => Nat.lt_of_lt_of_le (hR.q.blk x hx).2 hg.size
  ·
   rw [upd_ne _ _ _ e, hbs i (by omega)]; exact h.hq i (by omega)
 ·
  intro i hi
  by_cases e : i = k
  ·
   subst e
   rw [upd_self, hbk]
   exact fun x hx => Nat.lt_of_lt_of_le (hR.d.blk x hx).2 hg.size
  ·
   rw [upd_ne _ _ _ e, hbs i (by omega)]; exact h.hd i (by omega)
 ·
  intro i hi
  by_cases e : i = k
  ·
   subst e
   rw [hb i hi, hbk]
   exact Nat.le_trans h.bn hg.size
  ·
   rw [hb i hi, hbs i (by omega)]; exact h.bm i (by omega)
 ·
  rw [hb 0 (by omega)]; exact h.b0
 ·
  rw [hbk]; exact Nat.le_refl _
def freshL (l : Ln) : Prop := l.st = false ∧ Alike (newM 2 qfN true) l.R
theorem freshL.sh {l : Ln} (h : freshL l) : l.R.nQ = 2 ∧ l.R.nD = 2 ∧ l.R.nS = 2 ∧ ∀ j, l.R.L j = 0 := ⟨h.2.nQ, h.2.nD, h.2.nS, fun j => by rw [h.2.l]; rfl⟩
theorem newM_small2 : (newM 2 qfN true).Small := ⟨by decide, by decide, by decide, fun i _ => Nat.zero_le _⟩
def noLn : Nat → Ln := fun _ => ⟨false, none, 0, zR⟩
def zeroS : Sw := ⟨⟨0, 0, 0, 0, 0, 0, 0⟩, 0, zeroC, none, 0, 0, noLn⟩
def NewS (w : World) (base : Nat) (C : Cfg) (n : Nat) (ok : Bool) (S : Sw) : Prop := match ok with
 | false => S = zeroS
 | true => S.C = C ∧ S.nx = 1 ∧ S.nL = n ∧ 1 ≤ n ∧ n ≤ 4 ∧ AlikeC (newC n true) S.N ∧ (∀ i, i < n → freshL (S.L i)) ∧ ∃ g b, OwnSw w base g b S
theorem RdSw.zero (w : World) : RdSw w zeroS := ⟨(zeroC_own w 0).rd, RdLn.nil _ _ _, fun i hi => absurd hi (Nat.not_lt_zero i), fun i hi => absurd hi (Nat.not_lt_zero i)⟩
theorem NewS.rd {w : World} {base n : Nat} {C : Cfg} {ok : Bool} {S : Sw} (h : NewS w base C n ok S) : RdSw w S := by
 cases ok
 ·
  obtain rfl : S = zeroS := h
  exact RdSw.zero w
 ·
  obtain ⟨h1, h2, h3, h4, h5, h6, h7, g, b, h8⟩ := h
  exact h8.rd
end Go.Proofs.YtfkpncopkgidfaaGreat
