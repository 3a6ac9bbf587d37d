import Derived.Test.YtfkpncopkgidfaaGreatF04
import Derived.Test.YtfkpncopkgidfaaGreatF24
import Derived.Test.YtfkpncopkgidfaaGreatF25
import Derived.Lib.SmallJoins
namespace Go.Proofs.YtfkpncopkgidfaaGreat
open Go.RowKit
set_option linter.unusedVariables false
set_option linter.unusedSimpArgs false
def flatT (m : Nat) (c : Nat → Array Value) (j : Nat) : Value := ((c (j / m))[j % m]?).getD (.bool false)
theorem flatT_at {m : Nat} {c : Nat → Array Value} {i j : Nat} (h : j < m) (hs : (c i).size = m) : some (flatT m c (i * m + j)) = (c i)[j]? := by
 unfold flatT
 have h0 : 0 < m := by omega
 rw [Nat.add_comm (i * m) j, Nat.add_mul_div_right _ _ h0, Nat.div_eq_of_lt h, Nat.zero_add, Nat.add_mul_mod_self_right, Nat.mod_eq_of_lt h, Array.getElem?_eq_getElem (by omega)]
 rfl
theorem flatT_ext {m : Nat} {c c' : Nat → Array Value} {k i : Nat} (hm : 0 < m) (h : ∀ j, j < k → c' j = c j) (hi : i < k * m) : flatT m c' i = flatT m c i := by
 unfold flatT
 rw [h (i / m) ((Nat.div_lt_iff_lt_mul hm).2 hi)]
theorem rdT_row {m : Nat} {w : World} {a : Option Addr} {n : Nat} {c : Nat → Array Value} (hm : 0 < m) (h : RdRow w a (n * m) (flatT m c)) (hs : ∀ i, i < n → (c i).size = m) : RdT m w a n c := by
 intro i hi
 have hlt : i * m + m ≤ n * m := by rw [← Nat.succ_mul]; exact Nat.mul_le_mul_right m hi
 obtain ⟨g, o, ha, h0⟩ := h (i * m) (by omega)
 refine ⟨hs i hi, g, o, ha, fun j hj => ?_⟩
 obtain ⟨g1, o1, ha1, h1⟩ := h (i * m + j) (by omega)
 rw [ha] at ha1
 cases ha1
 rw [flatT_at hj (hs i hi)] at h1
 rw [Nat.add_assoc]
 exact h1
theorem rowTo_putT {m : Nat} {w W : World} {g n k : Nat} {t : TypeId} {F : Nat → Value} {arr cs : Array Value} (hn : n * m ≤ arr.size) (hc : ∀ i, i < k * m → arr[i]? = some (F i)) (hlt : k < n) (hs : cs.size = m) (hcs : ∀ j, j < m → some (F (k * m + j)) = cs[j]?) (hP : Put w W g (lay arr (k * m) cs) t) : RowTo g t (n * m) F ((k + 1) * m) W := by
 have h1 : k * m + m ≤ n * m := by rw [← Nat.succ_mul]; exact Nat.mul_le_mul_right m hlt
 have hf : k * m + cs.size ≤ arr.size := by omega
 refine ⟨_, hP.blk, by rw [lay_size hf]; exact hn, fun i hi => ?_⟩
 rw [Nat.succ_mul] at hi
 by_cases e : i < k * m
 ·
  rw [lay_lo hf i e]
  exact hc i e
 ·
  have := lay_at hf (i - k * m) (by omega)
  rw [show k * m + (i - k * m) = i by omega] at this
  rw [this, ← hcs _ (by omega), show k * m + (i - k * m) = i by omega]
theorem infoFrZ : (Tryz.prog.info? 110).map (fun i => (i.zero, i.size, i.bytes)) = some (some (.agg #[.int .i64 0, .int .i64 0, .int .i64 0, .int .i64 0, .string ⟨#[]⟩]), 5, 48) := by kernel_rfl
def zFrs (n : Nat) : Array Value := madeCells #[.int .i64 0, .int .i64 0, .int .i64 0, .int .i64 0, .string ⟨#[]⟩] (n * 5)
theorem make_Frs (n : Nat) (hn : n ≤ 1048576) (w : World) : (Instr.makeSlice 70 (.int .i64 (n : Int)) (.int .i64 (n : Int))).run Tryz.prog w = .ok (.slice (some ⟨w.heap.size, 0, none⟩) n n) (w.alloc (.cells (zFrs n) 110)) := by
 obtain ⟨i0, hi, hz0, hz1, hz2⟩ := info_parts infoFrZ
 have := run_make (P := Tryz.prog) w 70 110 i0 _ Tryz.underlying70 hi hz0 .i64 .i64 (n : Int) (n : Int) (by omega) (by omega) (by rw [hz2]; omega) (by omega)
 rw [this, hz1]
 simp [zFrs, Value.cells]
theorem infoFlZ : (Tryz.prog.info? 122).map (fun i => (i.zero, i.size, i.bytes)) = some (some (.agg #[.int .i64 0, .int .i64 0, .int .i64 0, .int .i64 0, .int .i64 0, .int .i64 0, .string ⟨#[]⟩]), 7, 64) := by kernel_rfl
def zFls (n : Nat) : Array Value := madeCells #[.int .i64 0, .int .i64 0, .int .i64 0, .int .i64 0, .int .i64 0, .int .i64 0, .string ⟨#[]⟩] (n * 7)
theorem make_Fls (n : Nat) (hn : n ≤ 1048576) (w : World) : (Instr.makeSlice 47 (.int .i64 (n : Int)) (.int .i64 (n : Int))).run Tryz.prog w = .ok (.slice (some ⟨w.heap.size, 0, none⟩) n n) (w.alloc (.cells (zFls n) 122)) := by
 obtain ⟨i0, hi, hz0, hz1, hz2⟩ := info_parts infoFlZ
 have := run_make (P := Tryz.prog) w 47 122 i0 _ Tryz.underlying47 hi hz0 .i64 .i64 (n : Int) (n : Int) (by omega) (by omega) (by rw [hz2]; omega) (by omega)
 rw [this, hz1]
 simp [zFls, Value.cells]
theorem infoHtZ : (Tryz.prog.info? 73).map (fun i => (i.zero, i.size, i.bytes)) = some (some (.agg #[.bool false, .slice none 0 0, .slice none 0 0]), 3, 56) := by kernel_rfl
def zHts (n : Nat) : Array Value := madeCells #[.bool false, .slice none 0 0, .slice none 0 0] (n * 3)
theorem make_Hts (n : Nat) (hn : n ≤ 1048576) (w : World) : (Instr.makeSlice 46 (.int .i64 (n : Int)) (.int .i64 (n : Int))).run Tryz.prog w = .ok (.slice (some ⟨w.heap.size, 0, none⟩) n n) (w.alloc (.cells (zHts n) 73)) := by
 obtain ⟨i0, hi, hz0, hz1, hz2⟩ := info_parts infoHtZ
 have := run_make (P := Tryz.prog) w 46 73 i0 _ Tryz.underlying46 hi hz0 .i64 .i64 (n : Int) (n : Int) (by omega) (by omega) (by rw [hz2]; omega) (by omega)
 rw [this, hz1]
 simp [zHts, Value.cells]
set_option maxRecDepth 10000 in
set_option maxHeartbeats 1000000 in
theorem toFlight_any (x : Pkt) (w : World) :
  Calls Tryz.prog 68 #[.agg x.flight] w fun e w' => e = .returned (.agg x.flight) ∧ Below w.heap.size w w' := by
 obtain ⟨W0, eW⟩ : ∃ W, (((w.alloc (.cells x.flight 104)).alloc (.cells #[.int .i64 0, .int .i64 0, .int .i64 0, .int .i64 0, .int .i64 0, .int .i64 0, .string ⟨#[]⟩] 122)).alloc (.cells #[.int .i64 0, .int .i64 0, .int .i64 0, .int .i64 0, .int .i64 0, .int .i64 0, .string ⟨#[]⟩] 122)) = W := ⟨_, rfl⟩
 have HX : Hid (Boxes w x.flight #[.int .i64 0, .int .i64 0, .int .i64 0, .int .i64 0, .int .i64 0, .int .i64 0, .string ⟨#[]⟩] #[.int .i64 0, .int .i64 0, .int .i64 0, .int .i64 0, .int .i64 0, .int .i64 0, .string ⟨#[]⟩] 104 122 W0) := by rw [← eW]; exact Boxes.start _ _ _ _ _ _
 go_enter Tryz.func68, Tryz.ntmps68
 have c0 : W0.cell? ⟨w.heap.size, 0, none⟩ = some (.int .i64 x.id) := blk_cell HX.out.a 0
 have HC := HX.out.c
 replace HC : Hid (W0.heap[w.heap.size + 1 + 1]? = some (.cells #[.int .i64 0, .int .i64 0, .int .i64 0, .int .i64 0, .int .i64 0, .int .i64 0, .string ⟨#[]⟩] 122 (0, 0))) := HC
 go_wp2_with (refine wpList_stA rfl 2 (.tmp 6) (.tmp 5) rfl (w.heap.size + 1 + 1) 0 rfl (.int .i64 x.id) rfl 1 rfl 122 _ HC.out infoI1 (Nat.le_of_ble_eq_true rfl) (by simp [Value.cells, Value.oneCell', Rnd.cells, Cfg.cells, Cnt.cells]) ?_)
 intro W1 hP
 clear eW
 replace hP := hP.cast (cs' := #[.int .i64 x.id, .int .i64 0, .int .i64 0, .int .i64 0, .int .i64 0, .int .i64 0, .string ⟨#[]⟩]) rfl
 replace HX : Hid (Boxes w x.flight #[.int .i64 0, .int .i64 0, .int .i64 0, .int .i64 0, .int .i64 0, .int .i64 0, .string ⟨#[]⟩] #[.int .i64 x.id, .int .i64 0, .int .i64 0, .int .i64 0, .int .i64 0, .int .i64 0, .string ⟨#[]⟩] 104 122 W1) := HX.out.put hP
 have T1 : Touch [w.heap.size + 1, w.heap.size + 1 + 1] W0 W1 := hP.to.mono (fun x hx => by simp at hx; simp [hx])
 clear hP HC c0
 have c1 : W1.cell? ⟨w.heap.size, 1, none⟩ = some (.int .i64 x.inn) := blk_cell HX.out.a 1
 have HC := HX.out.c
 replace HC : Hid (W1.heap[w.heap.size + 1 + 1]? = some (.cells #[.int .i64 x.id, .int .i64 0, .int .i64 0, .int .i64 0, .int .i64 0, .int .i64 0, .string ⟨#[]⟩] 122 (0, 0))) := HC
 go_wp2_with (refine wpList_stA rfl 2 (.tmp 9) (.tmp 8) rfl (w.heap.size + 1 + 1) 1 rfl (.int .i64 x.inn) rfl 1 rfl 122 _ HC.out infoI1 (Nat.le_of_ble_eq_true rfl) (by simp [Value.cells, Value.oneCell', Rnd.cells, Cfg.cells, Cnt.cells]) ?_)
 intro W2 hP
 replace hP := hP.cast (cs' := #[.int .i64 x.id, .int .i64 x.inn, .int .i64 0, .int .i64 0, .int .i64 0, .int .i64 0, .string ⟨#[]⟩]) rfl
 replace HX : Hid (Boxes w x.flight #[.int .i64 0, .int .i64 0, .int .i64 0, .int .i64 0, .int .i64 0, .int .i64 0, .string ⟨#[]⟩] #[.int .i64 x.id, .int .i64 x.inn, .int .i64 0, .int .i64 0, .int .i64 0, .int .i64 0, .string ⟨#[]⟩] 104 122 W2) := HX.out.put hP
 have T2 : Touch [w.heap.size + 1, w.heap.size + 1 + 1] W1 W2 := hP.to.mono (fun x hx => by simp at hx; simp [hx])
 clear hP HC c1
 have c2 : W2.cell? ⟨w.heap.size, 2, none⟩ = some (.int .i64 x.k) := blk_cell HX.out.a 2
 have c3 : W2.cell? ⟨w.heap.size, 3, none⟩ = some (.int .i64 x.d) := blk_cell HX.out.a 3
 have c4 : W2.cell? ⟨w.heap.size, 4, none⟩ = some (.int .i64 x.s) := blk_cell HX.out.a 4
 have c5 : W2.cell? ⟨w.heap.size, 5, none⟩ = some (.int .i64 x.p) := blk_cell HX.out.a 5
 have c6 : W2.cell? ⟨w.heap.size, 6, none⟩ = some (.string x.b) := blk_cell HX.out.a 6
 go_wp2_with fail
 refine (toFrame_any x.k x.d x.s x.p x.b _).mono ?_
 rintro e wf ⟨rfl, hb⟩
 clear c2 c3 c4 c5 c6
 replace HX : Hid (Boxes w x.flight #[.int .i64 0, .int .i64 0, .int .i64 0, .int .i64 0, .int .i64 0, .int .i64 0, .string ⟨#[]⟩] #[.int .i64 x.id, .int .i64 x.inn, .int .i64 0, .int .i64 0, .int .i64 0, .int .i64 0, .string ⟨#[]⟩] 104 122 wf) := HX.out.up hb
 have T3 : Touch [w.heap.size + 1, w.heap.size + 1 + 1] W2 wf := Touch.ofBelow hb
 clear hb
 have HC := HX.out.c
 replace HC : Hid (wf.heap[w.heap.size + 1 + 1]? = some (.cells #[.int .i64 x.id, .int .i64 x.inn, .int .i64 0, .int .i64 0, .int .i64 0, .int .i64 0, .string ⟨#[]⟩] 122 (0, 0))) := HC
 go_wp2_with (refine wpList_stA rfl 110 (.tmp 13) (.tmp 12) rfl (w.heap.size + 1 + 1) 2 rfl (.agg #[.int .i64 x.k, .int .i64 x.d, .int .i64 x.s, .int .i64 x.p, .string x.b]) rfl 5 rfl 122 _ HC.out infoFr5 (Nat.le_of_ble_eq_true rfl) (by simp [Value.cells, Value.oneCell', Rnd.cells, Cfg.cells, Cnt.cells]) ?_)
 intro W4 hP
 replace hP := hP.cast (cs' := #[.int .i64 x.id, .int .i64 x.inn, .int .i64 x.k, .int .i64 x.d, .int .i64 x.s, .int .i64 x.p, .string x.b]) rfl
 replace HX : Hid (Boxes w x.flight #[.int .i64 0, .int .i64 0, .int .i64 0, .int .i64 0, .int .i64 0, .int .i64 0, .string ⟨#[]⟩] #[.int .i64 x.id, .int .i64 x.inn, .int .i64 x.k, .int .i64 x.d, .int .i64 x.s, .int .i64 x.p, .string x.b] 104 122 W4) := HX.out.put hP
 have T4 : Touch [w.heap.size + 1, w.heap.size + 1 + 1] wf W4 := hP.to.mono (fun x hx => by simp at hx; simp [hx])
 clear hP HC 
 have HC : Hid (W4.heap[w.heap.size + 1 + 1]? = some (.cells x.flight 122 (0, 0))) := HX.out.c
 have HD : Hid (W4.heap[w.heap.size + 1]? = some (.cells #[.int .i64 0, .int .i64 0, .int .i64 0, .int .i64 0, .int .i64 0, .int .i64 0, .string ⟨#[]⟩] 122 (0, 0))) := HX.out.b
 have HL : Hid (∀ j, j < 7 → W4.cell? ⟨w.heap.size + 1 + 1, 0 + j, none⟩ = (x.flight)[j]?) := fun j _ => by rw [Nat.zero_add]; exact blk_cell HC.out j
 go_wp2_with (first | refine wpList_ldT rfl 122 7 _ Tryz.underlying122 rfl infoFl7 (.tmp 3) rfl (w.heap.size + 1 + 1) 0 rfl (x.flight) rfl HL.out ?_ | refine wpList_stA rfl 122 (.tmp 2) (.tmp 14) rfl (w.heap.size + 1) 0 rfl (.agg x.flight) rfl 7 rfl 122 _ HD.out infoFl7 (Nat.le_of_ble_eq_true rfl) (Pkt.oneV _) ?_)
 intro W5 hP
 replace hP : Put W4 W5 (w.heap.size + 1) x.flight 122 := hP.cast rfl
 have T5 : Touch [w.heap.size + 1, w.heap.size + 1 + 1] W4 W5 := hP.to.mono (fun x hx => by simp at hx; simp [hx])
 have HK : Hid (W5.heap[w.heap.size + 1]? = some (.cells x.flight 122 (0, 0))) := hP.blk
 have HB : Hid (Below w.heap.size w W5) := (HX.out.out hP).bel
 clear hP HC HD HL
 go_wp2_with fail
 refine bodyPost_ret (res_cellT Tryz.results68 7 _ Tryz.underlying122 rfl infoFl7 _ _ (w.heap.size + 1) x.flight rfl 122 HK.out rfl) rfl ⟨rfl, HB.out⟩
theorem infoFrL5 : (Tryz.prog.info? 102).map (·.size) = some 5 := by kernel_rfl
theorem infoFlL7 : (Tryz.prog.info? 104).map (·.size) = some 7 := by kernel_rfl
theorem infoHtL3 : (Tryz.prog.info? 99).map (·.size) = some 3 := by kernel_rfl
theorem infoFs : (Tryz.prog.info? 70).map (·.size) = some 1 := by kernel_rfl
theorem infoHs : (Tryz.prog.info? 46).map (·.size) = some 1 := by kernel_rfl
theorem infoVs : (Tryz.prog.info? 47).map (·.size) = some 1 := by kernel_rfl
theorem infoSwL17 : (Tryz.prog.info? 32).map (·.size) = some 17 := by kernel_rfl
set_option maxRecDepth 10000 in
set_option maxHeartbeats 1000000 in
theorem toFrames_any (a : Option Addr) (n cap : Nat) (K : Nat → Pkt) (w : World) (hn : n ≤ 1048576) (h : RdF w a n K) :
  Calls Tryz.prog 39 #[.slice a n cap] w fun e w' => e = .returned (.slice (some ⟨w.heap.size, 0, none⟩) n n) ∧ RowTo w.heap.size 110 (n * 5) (flatT 5 fun i => (K i).frame) (n * 5) w' ∧ Below w.heap.size w w' := by
 have mk := make_Frs n hn
 have HR : Hid (RdF w a n K) := h
 clear h
 go_enter Tryz.func39, Tryz.ntmps39
 go_wp2_with fail
 clear mk
 go_loopw [4] (fun i wr => ∃ k : Nat, k ≤ n ∧ i = .int .i64 k ∧ Hid (RowTo w.heap.size 110 (n * 5) (flatT 5 fun i => (K i).frame) (k * 5) wr) ∧ Hid (Below w.heap.size w wr)) (fun i _ => n - (intOf i).toNat)
 case atStart => exact ⟨0, Nat.zero_le _, rfl, ⟨_, blk_new w _, by simp [zFrs, size_madeCells], fun i hi => by omega⟩, (Below.refl _ _).alloc (Nat.le_refl _) _⟩
 case round =>
  obtain ⟨k, hk, rfl, HT, HB⟩ := hrel
  by_cases hlt : k < n
  ·
   have hlt' : (k : Int) < n := by omega
   obtain ⟨g, o, ha, hc⟩ := (HR.out.up HB.out).at hlt
   subst ha
   have HC : Hid (∀ j, j < 5 → wr.cell? ⟨g, o + k * 5 + j, none⟩ = (K k).frame[j]?) := hc
   clear hc
   go_wp2_with (refine wpList_ldT rfl 102 5 _ Tryz.underlying102 rfl infoFrL5 (.tmp 18) rfl g (o + k * 5) rfl (K k).frame rfl HC.out ?_)
   refine (toFrame_any (K k).k (K k).d (K k).s (K k).p (K k).b _).mono ?_
   rintro e w1 ⟨rfl, hb1⟩
   have HB1 : Hid (Below w.heap.size w w1) := HB.out.trans (hb1.mono HB.out.size)
   have R1 := HT.out.keep (hb1.block _ HT.out.lt)
   obtain ⟨arr, hb2, hn2, hc2⟩ := R1
   have HG : Hid (w1.heap[w.heap.size]? = some (.cells arr 110 (0, 0))) := hb2
   have HN : Hid (n * 5 ≤ arr.size ∧ ∀ i, i < k * 5 → arr[i]? = some (flatT 5 (fun i => (K i).frame) i)) := ⟨hn2, hc2⟩
   clear hb1 HB HT HC hb2 hn2 hc2
   go_wp2_with (refine wpList_stA rfl 110 (.tmp 21) (.tmp 20) rfl w.heap.size (k * 5) (by simp [Act.eval]) (.agg (K k).frame) rfl 5 rfl 110 arr HG.out infoFr5 (by have := HN.out.1; omega) (Pkt.oneF _) ?_)
   intro W2 hP
   have HT2 : Hid (RowTo w.heap.size 110 (n * 5) (flatT 5 fun i => (K i).frame) ((k + 1) * 5) W2) := rowTo_putT HN.out.1 HN.out.2 hlt rfl (fun j hj => flatT_at hj rfl) hP
   have HB2 : Hid (Below w.heap.size w W2) := HB1.out.trans (hP.to.below HB1.out.size (fun x hx => by simp at hx; omega))
   clear hP HB1 HG HN
   go_wp2_with fail
   go_roundw
   case rel => exact ⟨k + 1, by omega, by go_num, HT2, HB2⟩
   case measure => simp [intOf]; omega
  ·
   obtain rfl : k = n := by omega
   go_wp2_with fail
   go_ret
   exact ⟨rfl, HT.out, HB.out⟩
set_option maxRecDepth 10000 in
set_option maxHeartbeats 1000000 in
theorem toFlights_any (a : Option Addr) (n cap : Nat) (K : Nat → Pkt) (w : World) (hn : n ≤ 1048576) (h : RdV w a n K) :
  Calls Tryz.prog 28 #[.slice a n cap] w fun e w' => e = .returned (.slice (some ⟨w.heap.size, 0, none⟩) n n) ∧ RowTo w.heap.size 122 (n * 7) (flatT 7 fun i => (K i).flight) (n * 7) w' ∧ Below w.heap.size w w' := by
 have mk := make_Fls n hn
 have HR : Hid (RdV w a n K) := h
 clear h
 go_enter Tryz.func28, Tryz.ntmps28
 go_wp2_with fail
 clear mk
 go_loopw [4] (fun i wr => ∃ k : Nat, k ≤ n ∧ i = .int .i64 k ∧ Hid (RowTo w.heap.size 122 (n * 7) (flatT 7 fun i => (K i).flight) (k * 7) wr) ∧ Hid (Below w.heap.size w wr)) (fun i _ => n - (intOf i).toNat)
 case atStart => exact ⟨0, Nat.zero_le _, rfl, ⟨_, blk_new w _, by simp [zFls, size_madeCells], fun i hi => by omega⟩, (Below.refl _ _).alloc (Nat.le_refl _) _⟩
 case round =>
  obtain ⟨k, hk, rfl, HT, HB⟩ := hrel
  by_cases hlt : k < n
  ·
   have hlt' : (k : Int) < n := by omega
   obtain ⟨g, o, ha, hc⟩ := (HR.out.up HB.out).at hlt
   subst ha
   have HC : Hid (∀ j, j < 7 → wr.cell? ⟨g, o + k * 7 + j, none⟩ = (K k).flight[j]?) := hc
   clear hc
   go_wp2_with (refine wpList_ldT rfl 104 7 _ Tryz.underlying104 rfl infoFlL7 (.tmp 18) rfl g (o + k * 7) rfl (K k).flight rfl HC.out ?_)
   refine (toFlight_any (K k) _).mono ?_
   rintro e w1 ⟨rfl, hb1⟩
   have HB1 : Hid (Below w.heap.size w w1) := HB.out.trans (hb1.mono HB.out.size)
   have R1 := HT.out.keep (hb1.block _ HT.out.lt)
   obtain ⟨arr, hb2, hn2, hc2⟩ := R1
   have HG : Hid (w1.heap[w.heap.size]? = some (.cells arr 122 (0, 0))) := hb2
   have HN : Hid (n * 7 ≤ arr.size ∧ ∀ i, i < k * 7 → arr[i]? = some (flatT 7 (fun i => (K i).flight) i)) := ⟨hn2, hc2⟩
   clear hb1 HB HT HC hb2 hn2 hc2
   go_wp2_with (refine wpList_stA rfl 122 (.tmp 21) (.tmp 20) rfl w.heap.size (k * 7) (by simp [Act.eval]) (.agg (K k).flight) rfl 7 rfl 122 arr HG.out infoFl7 (by have := HN.out.1; omega) (Pkt.oneV _) ?_)
   intro W2 hP
   have HT2 : Hid (RowTo w.heap.size 122 (n * 7) (flatT 7 fun i => (K i).flight) ((k + 1) * 7) W2) := rowTo_putT HN.out.1 HN.out.2 hlt rfl (fun j hj => flatT_at hj rfl) hP
   have HB2 : Hid (Below w.heap.size w W2) := HB1.out.trans (hP.to.below HB1.out.size (fun x hx => by simp at hx; omega))
   clear hP HB1 HG HN
   go_wp2_with fail
   go_roundw
   case rel => exact ⟨k + 1, by omega, by go_num, HT2, HB2⟩
   case measure => simp [intOf]; omega
  ·
   obtain rfl : k = n := by omega
   go_wp2_with fail
   go_ret
   exact ⟨rfl, HT.out, HB.out⟩
structure OwnHt (w : World) (base : Nat) (h : Hst) : Prop where
 o : VG 110 w base h.aO (h.nO * 5) (flatT 5 fun i => (h.O i).frame)
 g : VG 110 w base h.aG (h.nG * 5) (flatT 5 fun i => (h.G i).frame)
theorem VG.frames {t : TypeId} {w : World} {base : Nat} {a : Option Addr} {n : Nat} {F : Nat → Pkt} (h : VG t w base a (n * 5) (flatT 5 fun i => (F i).frame)) : RdF w a n F := rdT_row (by omega) h.read (fun _ _ => rfl)
theorem VG.flights {t : TypeId} {w : World} {base : Nat} {a : Option Addr} {n : Nat} {F : Nat → Pkt} (h : VG t w base a (n * 7) (flatT 7 fun i => (F i).flight)) : RdV w a n F := rdT_row (by omega) h.read (fun _ _ => rfl)
theorem VG.hosts {t : TypeId} {w : World} {base : Nat} {a : Option Addr} {n : Nat} {H : Nat → Hst} (h : VG t w base a (n * 3) (flatT 3 fun i => (H i).cells)) : RdHs w a n H := rdT_row (by omega) h.read (fun _ _ => rfl)
theorem OwnHt.rd {w : World} {base : Nat} {h : Hst} (k : OwnHt w base h) : RdHt w h := ⟨k.o.frames, k.g.frames⟩
theorem OwnHt.up {w w' : World} {base : Nat} {h : Hst} (k : OwnHt w base h) (hb : Below w.heap.size w w') : OwnHt w' base h := ⟨k.o.up hb, k.g.up hb⟩
theorem OwnHt.mono {w : World} {base base' : Nat} {h : Hst} (k : OwnHt w base h) (hb : base' ≤ base) : OwnHt w base' h := ⟨k.o.mono hb, k.g.mono hb⟩
theorem OwnHt.low {w w' : World} {base : Nat} {h : Hst} {S : List Nat} (k : OwnHt w base h) (ht : Touch S w w') (hS : ∀ x ∈ S, x < base) : OwnHt w' base h := ⟨k.o.low ht hS, k.g.low ht hS⟩
set_option maxRecDepth 10000 in
set_option maxHeartbeats 2000000 in
theorem toHost_any (h : Hst) (w : World) (hs : h.Small) (hr : RdHt w h) :
  Calls Tryz.prog 67 #[.agg h.cells] w fun e w' => ∃ h2, e = .returned (.agg h2.cells) ∧ AlikeH h h2 ∧ OwnHt w' w.heap.size h2 ∧ Below w.heap.size w w' := by
 have HR : Hid (RdHt w h) := hr
 have HS : Hid h.Small := hs
 clear hr hs
 obtain ⟨W0, eW⟩ : ∃ W, (((w.alloc (.cells h.cells 99)).alloc (.cells #[.bool false, .slice none 0 0, .slice none 0 0] 73)).alloc (.cells #[.bool false, .slice none 0 0, .slice none 0 0] 73)) = W := ⟨_, rfl⟩
 have HX : Hid (Boxes w h.cells #[.bool false, .slice none 0 0, .slice none 0 0] #[.bool false, .slice none 0 0, .slice none 0 0] 99 73 W0) := by rw [← eW]; exact Boxes.start _ _ _ _ _ _
 go_enter Tryz.func67, Tryz.ntmps67
 have c0 : W0.cell? ⟨w.heap.size, 0, none⟩ = some (.bool h.st) := blk_cell HX.out.a 0
 have HC := HX.out.c
 replace HC : Hid (W0.heap[w.heap.size + 1 + 1]? = some (.cells #[.bool false, .slice none 0 0, .slice none 0 0] 73 (0, 0))) := HC
 go_wp2_with (refine wpList_stA rfl 4 (.tmp 6) (.tmp 5) rfl (w.heap.size + 1 + 1) 0 rfl (.bool h.st) rfl 1 rfl 73 _ HC.out infoB1 (Nat.le_of_ble_eq_true rfl) (by simp [Value.cells, Value.oneCell', Rnd.cells, Cfg.cells, Cnt.cells]) ?_)
 intro W1 hP
 clear eW
 replace hP := hP.cast (cs' := #[.bool h.st, .slice none 0 0, .slice none 0 0]) rfl
 replace HX : Hid (Boxes w h.cells #[.bool false, .slice none 0 0, .slice none 0 0] #[.bool h.st, .slice none 0 0, .slice none 0 0] 99 73 W1) := HX.out.put hP
 have T1 : Touch [w.heap.size + 1, w.heap.size + 1 + 1] W0 W1 := hP.to.mono (fun x hx => by simp at hx; simp [hx])
 clear hP HC c0
 have c1 : W1.cell? ⟨w.heap.size, 1, none⟩ = some (.slice h.aO h.nO h.cO) := blk_cell HX.out.a 1
 go_wp2_with fail
 refine (toFrames_any h.aO h.nO h.cO h.O _ HS.out.o (HR.out.o.up HX.out.bel)).mono ?_
 rintro e wo ⟨rfl, rO, hb⟩
 clear c1
 have sO := HX.out.sz
 replace HX : Hid (Boxes w h.cells #[.bool false, .slice none 0 0, .slice none 0 0] #[.bool h.st, .slice none 0 0, .slice none 0 0] 99 73 wo) := HX.out.up hb
 have T2 : Touch [w.heap.size + 1, w.heap.size + 1 + 1] W1 wo := Touch.ofBelow hb
 clear hb
 have HC := HX.out.c
 replace HC : Hid (wo.heap[w.heap.size + 1 + 1]? = some (.cells #[.bool h.st, .slice none 0 0, .slice none 0 0] 73 (0, 0))) := HC
 go_wp2_with (refine wpList_stA rfl 70 (.tmp 10) (.tmp 9) rfl (w.heap.size + 1 + 1) 1 rfl (.slice (some ⟨W1.heap.size, 0, none⟩) h.nO h.nO) rfl 1 rfl 73 _ HC.out infoFs (Nat.le_of_ble_eq_true rfl) (by simp [Value.cells, Value.oneCell', Rnd.cells, Cfg.cells, Cnt.cells]) ?_)
 intro W3 hP
 replace hP := hP.cast (cs' := #[.bool h.st, .slice (some ⟨W1.heap.size, 0, none⟩) h.nO h.nO, .slice none 0 0]) rfl
 replace HX : Hid (Boxes w h.cells #[.bool false, .slice none 0 0, .slice none 0 0] #[.bool h.st, .slice (some ⟨W1.heap.size, 0, none⟩) h.nO h.nO, .slice none 0 0] 99 73 W3) := HX.out.put hP
 have T3 : Touch [w.heap.size + 1, w.heap.size + 1 + 1] wo W3 := hP.to.mono (fun x hx => by simp at hx; simp [hx])
 clear hP HC 
 have c2 : W3.cell? ⟨w.heap.size, 2, none⟩ = some (.slice h.aG h.nG h.cG) := blk_cell HX.out.a 2
 go_wp2_with fail
 refine (toFrames_any h.aG h.nG h.cG h.G _ HS.out.g (HR.out.g.up HX.out.bel)).mono ?_
 rintro e wg ⟨rfl, rG, hb⟩
 clear c2
 have sG := HX.out.sz
 replace HX : Hid (Boxes w h.cells #[.bool false, .slice none 0 0, .slice none 0 0] #[.bool h.st, .slice (some ⟨W1.heap.size, 0, none⟩) h.nO h.nO, .slice none 0 0] 99 73 wg) := HX.out.up hb
 have T4 : Touch [w.heap.size + 1, w.heap.size + 1 + 1] W3 wg := Touch.ofBelow hb
 clear hb
 have HC := HX.out.c
 replace HC : Hid (wg.heap[w.heap.size + 1 + 1]? = some (.cells #[.bool h.st, .slice (some ⟨W1.heap.size, 0, none⟩) h.nO h.nO, .slice none 0 0] 73 (0, 0))) := HC
 go_wp2_with (refine wpList_stA rfl 70 (.tmp 14) (.tmp 13) rfl (w.heap.size + 1 + 1) 2 rfl (.slice (some ⟨W3.heap.size, 0, none⟩) h.nG h.nG) rfl 1 rfl 73 _ HC.out infoFs (Nat.le_of_ble_eq_true rfl) (by simp [Value.cells, Value.oneCell', Rnd.cells, Cfg.cells, Cnt.cells]) ?_)
 intro W5 hP
 replace hP := hP.cast (cs' := #[.bool h.st, .slice (some ⟨W1.heap.size, 0, none⟩) h.nO h.nO, .slice (some ⟨W3.heap.size, 0, none⟩) h.nG h.nG]) rfl
 replace HX : Hid (Boxes w h.cells #[.bool false, .slice none 0 0, .slice none 0 0] #[.bool h.st, .slice (some ⟨W1.heap.size, 0, none⟩) h.nO h.nO, .slice (some ⟨W3.heap.size, 0, none⟩) h.nG h.nG] 99 73 W5) := HX.out.put hP
 have T5 : Touch [w.heap.size + 1, w.heap.size + 1 + 1] wg W5 := hP.to.mono (fun x hx => by simp at hx; simp [hx])
 clear hP HC 
 obtain ⟨h2, e2⟩ : ∃ h2, (⟨h.st, some ⟨W1.heap.size, 0, none⟩, h.nO, h.nO, h.O, some ⟨W3.heap.size, 0, none⟩, h.nG, h.nG, h.G⟩ : Hst) = h2 := ⟨_, rfl⟩
 have e3 : #[.bool h.st, .slice (some ⟨W1.heap.size, 0, none⟩) h.nO h.nO, .slice (some ⟨W3.heap.size, 0, none⟩) h.nG h.nG] = h2.cells := by rw [← e2]; rfl
 rw [e3] at HX
 clear e3
 have HC : Hid (W5.heap[w.heap.size + 1 + 1]? = some (.cells h2.cells 73 (0, 0))) := HX.out.c
 have HD : Hid (W5.heap[w.heap.size + 1]? = some (.cells #[.bool false, .slice none 0 0, .slice none 0 0] 73 (0, 0))) := HX.out.b
 have HL : Hid (∀ j, j < 3 → W5.cell? ⟨w.heap.size + 1 + 1, 0 + j, none⟩ = (h2.cells)[j]?) := fun j _ => by rw [Nat.zero_add]; exact blk_cell HC.out j
 go_wp2_with (first | refine wpList_ldT rfl 73 3 _ Tryz.underlying73 rfl infoHt3 (.tmp 3) rfl (w.heap.size + 1 + 1) 0 rfl (h2.cells) rfl HL.out ?_ | refine wpList_stA rfl 73 (.tmp 2) (.tmp 15) rfl (w.heap.size + 1) 0 rfl (.agg h2.cells) rfl 3 rfl 73 _ HD.out infoHt3 (Nat.le_of_ble_eq_true rfl) (Hst.oneH _) ?_)
 intro W6 hP
 replace hP : Put W5 W6 (w.heap.size + 1) h2.cells 73 := hP.cast rfl
 have T6 : Touch [w.heap.size + 1, w.heap.size + 1 + 1] W5 W6 := hP.to.mono (fun x hx => by simp at hx; simp [hx])
 have HK : Hid (W6.heap[w.heap.size + 1]? = some (.cells h2.cells 73 (0, 0))) := hP.blk
 have HB : Hid (Below w.heap.size w W6) := (HX.out.out hP).bel
 clear hP HC HD HL
 go_wp2_with fail
 have hlow : ∀ x ∈ [w.heap.size + 1, w.heap.size + 1 + 1], x < w.heap.size + 1 + 1 + 1 := by intro x hx; simp at hx; omega
 have tO := (((T3.trans T4).trans T5).trans T6)
 have tG := (T5.trans T6)
 refine bodyPost_ret (res_cellT Tryz.results67 3 _ Tryz.underlying73 rfl infoHt3 _ _ (w.heap.size + 1) h2.cells rfl 73 HK.out rfl) rfl ⟨h2, rfl, ?_, ?_, HB.out⟩
 ·
  rw [← e2]
  exact ⟨rfl, rfl, rfl, rfl, rfl⟩
 ·
  rw [← e2]
  exact ⟨((rO.vg (Nat.le_refl _)).low tO (fun x hx => by have := hlow x hx; omega)).mono (by omega), ((rG.vg (Nat.le_refl _)).low tG (fun x hx => by have := hlow x hx; omega)).mono (by omega)⟩
structure LaidH (w : World) (H H2 : Nat → Hst) (n k : Nat) (wr : World) : Prop where
 r : RowTo w.heap.size 73 (n * 3) (flatT 3 fun i => (H2 i).cells) (k * 3) wr
 a : ∀ i, i < k → AlikeH (H i) (H2 i)
 o : ∀ i, i < k → OwnHt wr (w.heap.size + 1) (H2 i)
 b : Below w.heap.size w wr
 s : w.heap.size < wr.heap.size
theorem LaidH.up {w : World} {H H2 : Nat → Hst} {n k : Nat} {wr w1 : World} (h : LaidH w H H2 n k wr) (hb : Below wr.heap.size wr w1) : LaidH w H H2 n k w1 :=
 ⟨h.r.keep (hb.block _ h.r.lt), h.a, fun i hi => (h.o i hi).up hb, h.b.trans (hb.mono h.b.size), Nat.lt_of_lt_of_le h.s hb.size⟩
theorem LaidH.step {w : World} {H H2 : Nat → Hst} {n k : Nat} {wr w1 W : World} {l2 : Hst} {arr : Array Value} (h : LaidH w H H2 n k wr) (hlt : k < n) (hb : Below wr.heap.size wr w1) (ha : AlikeH (H k) l2) (ho : OwnHt w1 wr.heap.size l2)
  (hn : n * 3 ≤ arr.size) (hc : ∀ i, i < k * 3 → arr[i]? = some (flatT 3 (fun i => (H2 i).cells) i)) (hP : Put w1 W w.heap.size (lay arr (k * 3) l2.cells) 73) : LaidH w H (fun i => if i = k then l2 else H2 i) n (k + 1) W := by
 have hs := h.s
 have h1 := h.up hb
 refine ⟨?_, fun i hi => ?_, fun i hi => ?_, h1.b.trans (hP.to.below h1.b.size (fun x hx => by simp at hx; omega)), by rw [hP.size]; exact h1.s⟩
 ·
  refine rowTo_putT hn (fun i hi => ?_) hlt rfl (fun j hj => ?_) hP
  ·
   rw [hc i hi]
   exact congrArg some (flatT_ext (m := 3) (k := k) (c := fun i => (H2 i).cells) (c' := fun i => (if i = k then l2 else H2 i).cells) (by omega) (fun j hj => by show (if j = k then l2 else H2 j).cells = (H2 j).cells; rw [if_neg (by omega)]) hi).symm
  ·
   rw [flatT_at hj rfl]
   simp only [if_true]
 ·
  by_cases e : i = k
  ·
   subst e
   simp only [if_true]
   exact ha
  ·
   simp only [if_neg e]
   exact h.a i (by omega)
 ·
  by_cases e : i = k
  ·
   simp only [e, if_true]
   exact (ho.low hP.to (fun x hx => by simp at hx; omega)).mono (by omega)
  ·
   simp only [if_neg e]
   exact (h1.o i (by omega)).low hP.to (fun x hx => by simp at hx; omega)
set_option maxRecDepth 10000 in
set_option maxHeartbeats 1000000 in
theorem toHosts_any (a : Option Addr) (n cap : Nat) (H : Nat → Hst) (w : World) (hn : n ≤ 1048576) (hs : ∀ i, i < n → (H i).Small) (h : RdHs w a n H) (hr : ∀ i, i < n → RdHt w (H i)) :
  Calls Tryz.prog 27 #[.slice a n cap] w fun e w' => e = .returned (.slice (some ⟨w.heap.size, 0, none⟩) n n) ∧ ∃ H2, LaidH w H H2 n n w' := by
 have mk := make_Hts n hn
 have HR : Hid (RdHs w a n H) := h
 have HL : Hid (∀ i, i < n → RdHt w (H i)) := hr
 have HS : Hid (∀ i, i < n → (H i).Small) := hs
 clear h hr hs
 go_enter Tryz.func27, Tryz.ntmps27
 go_wp2_with fail
 clear mk
 go_loopw [4] (fun i wr => ∃ (k : Nat) (H2 : Nat → Hst), k ≤ n ∧ i = .int .i64 k ∧ Hid (LaidH w H H2 n k wr)) (fun i _ => n - (intOf i).toNat)
 case atStart => exact ⟨0, H, Nat.zero_le _, rfl, ⟨⟨_, blk_new w _, by simp [zHts, size_madeCells], fun i hi => by omega⟩, fun i hi => by omega, fun i hi => by omega, (Below.refl _ _).alloc (Nat.le_refl _) _, by simp⟩⟩
 case round =>
  obtain ⟨k, H2, hk, rfl, HT⟩ := hrel
  by_cases hlt : k < n
  ·
   have hlt' : (k : Int) < n := by omega
   obtain ⟨g, o, ha, hc⟩ := (HR.out.up HT.out.b).at hlt
   subst ha
   have HC : Hid (∀ j, j < 3 → wr.cell? ⟨g, o + k * 3 + j, none⟩ = (H k).cells[j]?) := hc
   clear hc
   go_wp2_with (refine wpList_ldT rfl 99 3 _ Tryz.underlying99 rfl infoHtL3 (.tmp 18) rfl g (o + k * 3) rfl (H k).cells rfl HC.out ?_)
   refine (toHost_any (H k) _ (HS.out k hlt) ((HL.out k hlt).up HT.out.b)).mono ?_
   rintro e w1 ⟨l2, rfl, ha2, ho2, hb1⟩
   obtain ⟨arr, hb2, hn2, hc2⟩ := (HT.out.up hb1).r
   have HG : Hid (w1.heap[w.heap.size]? = some (.cells arr 73 (0, 0))) := hb2
   have HN : Hid (n * 3 ≤ arr.size ∧ ∀ i, i < k * 3 → arr[i]? = some (flatT 3 (fun i => (H2 i).cells) i)) := ⟨hn2, hc2⟩
   have HO : Hid (AlikeH (H k) l2 ∧ OwnHt w1 wr.heap.size l2 ∧ Below wr.heap.size wr w1) := ⟨ha2, ho2, hb1⟩
   clear hb1 HC hb2 hn2 hc2 ha2 ho2
   go_wp2_with (refine wpList_stA rfl 73 (.tmp 21) (.tmp 20) rfl w.heap.size (k * 3) (by simp [Act.eval]) (.agg l2.cells) rfl 3 rfl 73 arr HG.out infoHt3 (by have := HN.out.1; omega) (Hst.oneH _) ?_)
   intro W2 hP
   have HT2 : Hid (LaidH w H (fun i => if i = k then l2 else H2 i) n (k + 1) W2) := HT.out.step hlt HO.out.2.2 HO.out.1 HO.out.2.1 HN.out.1 HN.out.2 hP
   clear hP HG HN HT HO
   go_wp2_with fail
   go_roundw
   case rel => exact ⟨k + 1, _, by omega, by go_num, HT2⟩
   case measure => simp [intOf]; omega
  ·
   obtain rfl : k = n := by omega
   go_wp2_with fail
   go_ret
   exact ⟨rfl, H2, HT.out⟩
structure AlikeF (A B : Fab) : Prop where
 s : AlikeG A.S B.S
 nH : B.nH = A.nH
 h : ∀ i, i < A.nH → AlikeH (A.H i) (B.H i)
 nU : B.nU = A.nU
 u : B.U = A.U
 nD : B.nD = A.nD
 d : B.D = A.D
theorem AlikeF.symm {A B : Fab} (h : AlikeF A B) : AlikeF B A := ⟨h.s.symm, h.nH.symm, fun i hi => (h.h i (by rw [← h.nH]; exact hi)).symm, h.nU.symm, h.u.symm, h.nD.symm, h.d.symm⟩
theorem AlikeF.trans {A B C : Fab} (h : AlikeF A B) (k : AlikeF B C) : AlikeF A C := ⟨h.s.trans k.s, k.nH.trans h.nH, fun i hi => (h.h i hi).trans (k.h i (by rw [h.nH]; exact hi)), k.nU.trans h.nU, k.u.trans h.u, k.nD.trans h.nD, k.d.trans h.d⟩
theorem AlikeF.small {A B : Fab} (h : AlikeF A B) (k : A.Small) : B.Small :=
 ⟨h.s.small k.s, by rw [h.nH]; exact k.h, fun i hi => by rw [h.nH] at hi; exact (h.h i hi).small (k.hs i hi), by rw [h.nU]; exact k.u, by rw [h.nU, h.u]; exact k.bu, by rw [h.nD]; exact k.d, by rw [h.nD, h.d]; exact k.bd⟩
theorem AlikeF.ok1 {A B : Fab} (h : AlikeF A B) (k : A.Ok) : B.Ok := by
 refine ⟨h.s.ok1 k.s, ⟨by rw [h.nH, h.s.c]; exact k.h.1, fun i hi => by rw [h.nH] at hi; exact (h.h i hi).ok1 (k.h.2 i hi)⟩, ?_, ?_⟩
 ·
  unfold Fab.upOk
  rw [h.nU, h.u, h.s.c, h.s.now]
  exact k.u
 ·
  unfold Fab.downOk
  rw [h.nD, h.d, h.s.c, h.s.now]
  exact k.d
theorem AlikeF.ok {A B : Fab} (h : AlikeF A B) : B.Ok ↔ A.Ok := ⟨h.symm.ok1, h.ok1⟩
structure OwnFb (w : World) (base : Nat) (F : Fab) : Prop where
 s : OwnSg w base F.S
 h : VG 73 w base F.aH (F.nH * 3) (flatT 3 fun i => (F.H i).cells)
 hs : ∀ i, i < F.nH → OwnHt w base (F.H i)
 u : VG 122 w base F.aU (F.nU * 7) (flatT 7 fun i => (F.U i).flight)
 d : VG 122 w base F.aD (F.nD * 7) (flatT 7 fun i => (F.D i).flight)
theorem OwnFb.rd {w : World} {base : Nat} {F : Fab} (k : OwnFb w base F) : RdFb w F := ⟨k.s.rd, k.h.hosts, fun i hi => (k.hs i hi).rd, k.u.flights, k.d.flights⟩
theorem Fab.oneC (F : Fab) : F.cells.all (·.oneCell') = true := by simp [Fab.cells, Value.oneCell']
set_option maxRecDepth 10000 in
set_option maxHeartbeats 4000000 in
theorem toFabric_any (F : Fab) (w : World) (hs : F.Small) (h : RdFb w F) :
  Calls Tryz.prog 7 #[.agg F.cells] w fun e w' => ∃ F2, e = .returned (.agg F2.cells) ∧ AlikeF F F2 ∧ OwnFb w' w.heap.size F2 ∧ Below w.heap.size w w' := by
 have HR : Hid (RdFb w F) := h
 have HS : Hid F.Small := hs
 clear h hs
 obtain ⟨W0, eW⟩ : ∃ W, (((w.alloc (.cells F.cells 36)).alloc (.cells #[.int .i64 0, .int .i64 0, .int .i64 0, .int .i64 0, .int .i64 0, .int .i64 0, .int .i64 0, .int .i64 0, .int .i64 0, .slice none 0 0, .slice none 0 0, .int .i64 0, .slice none 0 0, .slice none 0 0, .slice none 0 0, .int .i64 0, .int .i64 0, .slice none 0 0, .slice none 0 0, .slice none 0 0] 49)).alloc (.cells #[.int .i64 0, .int .i64 0, .int .i64 0, .int .i64 0, .int .i64 0, .int .i64 0, .int .i64 0, .int .i64 0, .int .i64 0, .slice none 0 0, .slice none 0 0, .int .i64 0, .slice none 0 0, .slice none 0 0, .slice none 0 0, .int .i64 0, .int .i64 0, .slice none 0 0, .slice none 0 0, .slice none 0 0] 49)) = W := ⟨_, rfl⟩
 have HX : Hid (Boxes w F.cells #[.int .i64 0, .int .i64 0, .int .i64 0, .int .i64 0, .int .i64 0, .int .i64 0, .int .i64 0, .int .i64 0, .int .i64 0, .slice none 0 0, .slice none 0 0, .int .i64 0, .slice none 0 0, .slice none 0 0, .slice none 0 0, .int .i64 0, .int .i64 0, .slice none 0 0, .slice none 0 0, .slice none 0 0] #[.int .i64 0, .int .i64 0, .int .i64 0, .int .i64 0, .int .i64 0, .int .i64 0, .int .i64 0, .int .i64 0, .int .i64 0, .slice none 0 0, .slice none 0 0, .int .i64 0, .slice none 0 0, .slice none 0 0, .slice none 0 0, .int .i64 0, .int .i64 0, .slice none 0 0, .slice none 0 0, .slice none 0 0] 36 49 W0) := by rw [← eW]; exact Boxes.start _ _ _ _ _ _
 go_enter Tryz.func7, Tryz.ntmps7
 have HL : Hid (∀ j, j < 17 → W0.cell? ⟨w.heap.size, 0 + j, none⟩ = F.S.cells[j]?) := blkSw HX.out.a
 go_wp2_with (refine wpList_ldT rfl 32 17 _ Tryz.underlying32 rfl infoSwL17 (.tmp 4) rfl w.heap.size 0 rfl F.S.cells rfl HL.out ?_)
 clear eW HL
 refine (toSwitch_any F.S _ HS.out.s (HR.out.s.up HX.out.bel)).mono ?_
 rintro e ws ⟨S2, rfl, aS, rS, hb⟩
 have sS := HX.out.sz
 replace HX : Hid (Boxes w F.cells #[.int .i64 0, .int .i64 0, .int .i64 0, .int .i64 0, .int .i64 0, .int .i64 0, .int .i64 0, .int .i64 0, .int .i64 0, .slice none 0 0, .slice none 0 0, .int .i64 0, .slice none 0 0, .slice none 0 0, .slice none 0 0, .int .i64 0, .int .i64 0, .slice none 0 0, .slice none 0 0, .slice none 0 0] #[.int .i64 0, .int .i64 0, .int .i64 0, .int .i64 0, .int .i64 0, .int .i64 0, .int .i64 0, .int .i64 0, .int .i64 0, .slice none 0 0, .slice none 0 0, .int .i64 0, .slice none 0 0, .slice none 0 0, .slice none 0 0, .int .i64 0, .int .i64 0, .slice none 0 0, .slice none 0 0, .slice none 0 0] 36 49 ws) := HX.out.up hb
 have T1 : Touch [w.heap.size + 1, w.heap.size + 1 + 1] W0 ws := Touch.ofBelow hb
 clear hb
 have HC := HX.out.c
 replace HC : Hid (ws.heap[w.heap.size + 1 + 1]? = some (.cells #[.int .i64 0, .int .i64 0, .int .i64 0, .int .i64 0, .int .i64 0, .int .i64 0, .int .i64 0, .int .i64 0, .int .i64 0, .slice none 0 0, .slice none 0 0, .int .i64 0, .slice none 0 0, .slice none 0 0, .slice none 0 0, .int .i64 0, .int .i64 0, .slice none 0 0, .slice none 0 0, .slice none 0 0] 49 (0, 0))) := HC
 go_wp2_with (refine wpList_stA rfl 45 (.tmp 7) (.tmp 6) rfl (w.heap.size + 1 + 1) 0 rfl (.agg S2.cells) rfl 17 rfl 49 _ HC.out infoSgI (Nat.le_of_ble_eq_true rfl) (Swg.oneC _) ?_)
 intro W2 hP
 replace hP := hP.cast (cs' := #[.int .i64 S2.C.p, .int .i64 S2.C.c, .int .i64 S2.C.xo, .int .i64 S2.C.xn, .int .i64 S2.C.hd, .int .i64 S2.C.lo, .int .i64 S2.C.dl, .int .i64 S2.now, .int .i64 S2.nx, .slice S2.aE S2.nE S2.cE, .slice S2.N.aU S2.N.nU S2.N.cU, .int .i64 S2.N.lo, .slice S2.N.aP S2.N.nP S2.N.cP, .slice S2.aK S2.nK S2.cK, .slice S2.aL S2.nL S2.cL, .int .i64 S2.dr, .int .i64 S2.lst, .slice none 0 0, .slice none 0 0, .slice none 0 0]) rfl
 replace HX : Hid (Boxes w F.cells #[.int .i64 0, .int .i64 0, .int .i64 0, .int .i64 0, .int .i64 0, .int .i64 0, .int .i64 0, .int .i64 0, .int .i64 0, .slice none 0 0, .slice none 0 0, .int .i64 0, .slice none 0 0, .slice none 0 0, .slice none 0 0, .int .i64 0, .int .i64 0, .slice none 0 0, .slice none 0 0, .slice none 0 0] #[.int .i64 S2.C.p, .int .i64 S2.C.c, .int .i64 S2.C.xo, .int .i64 S2.C.xn, .int .i64 S2.C.hd, .int .i64 S2.C.lo, .int .i64 S2.C.dl, .int .i64 S2.now, .int .i64 S2.nx, .slice S2.aE S2.nE S2.cE, .slice S2.N.aU S2.N.nU S2.N.cU, .int .i64 S2.N.lo, .slice S2.N.aP S2.N.nP S2.N.cP, .slice S2.aK S2.nK S2.cK, .slice S2.aL S2.nL S2.cL, .int .i64 S2.dr, .int .i64 S2.lst, .slice none 0 0, .slice none 0 0, .slice none 0 0] 36 49 W2) := HX.out.put hP
 have T2 : Touch [w.heap.size + 1, w.heap.size + 1 + 1] ws W2 := hP.to.mono (fun x hx => by simp at hx; simp [hx])
 clear hP HC 
 have c17 : W2.cell? ⟨w.heap.size, 17, none⟩ = some (.slice F.aH F.nH F.cH) := blk_cell HX.out.a 17
 go_wp2_with fail
 refine (toHosts_any F.aH F.nH F.cH F.H _ HS.out.h HS.out.hs (HR.out.h.up HX.out.bel) (fun i hi => (HR.out.hs i hi).up HX.out.bel)).mono ?_
 rintro e wh ⟨rfl, H2, rH⟩
 clear c17
 have sH := HX.out.sz
 have hb : Below W2.heap.size W2 wh := rH.b
 replace HX : Hid (Boxes w F.cells #[.int .i64 0, .int .i64 0, .int .i64 0, .int .i64 0, .int .i64 0, .int .i64 0, .int .i64 0, .int .i64 0, .int .i64 0, .slice none 0 0, .slice none 0 0, .int .i64 0, .slice none 0 0, .slice none 0 0, .slice none 0 0, .int .i64 0, .int .i64 0, .slice none 0 0, .slice none 0 0, .slice none 0 0] #[.int .i64 S2.C.p, .int .i64 S2.C.c, .int .i64 S2.C.xo, .int .i64 S2.C.xn, .int .i64 S2.C.hd, .int .i64 S2.C.lo, .int .i64 S2.C.dl, .int .i64 S2.now, .int .i64 S2.nx, .slice S2.aE S2.nE S2.cE, .slice S2.N.aU S2.N.nU S2.N.cU, .int .i64 S2.N.lo, .slice S2.N.aP S2.N.nP S2.N.cP, .slice S2.aK S2.nK S2.cK, .slice S2.aL S2.nL S2.cL, .int .i64 S2.dr, .int .i64 S2.lst, .slice none 0 0, .slice none 0 0, .slice none 0 0] 36 49 wh) := HX.out.up hb
 have T3 : Touch [w.heap.size + 1, w.heap.size + 1 + 1] W2 wh := Touch.ofBelow hb
 clear hb
 have HC := HX.out.c
 replace HC : Hid (wh.heap[w.heap.size + 1 + 1]? = some (.cells #[.int .i64 S2.C.p, .int .i64 S2.C.c, .int .i64 S2.C.xo, .int .i64 S2.C.xn, .int .i64 S2.C.hd, .int .i64 S2.C.lo, .int .i64 S2.C.dl, .int .i64 S2.now, .int .i64 S2.nx, .slice S2.aE S2.nE S2.cE, .slice S2.N.aU S2.N.nU S2.N.cU, .int .i64 S2.N.lo, .slice S2.N.aP S2.N.nP S2.N.cP, .slice S2.aK S2.nK S2.cK, .slice S2.aL S2.nL S2.cL, .int .i64 S2.dr, .int .i64 S2.lst, .slice none 0 0, .slice none 0 0, .slice none 0 0] 49 (0, 0))) := HC
 go_wp2_with (refine wpList_stA rfl 46 (.tmp 11) (.tmp 10) rfl (w.heap.size + 1 + 1) 17 rfl (.slice (some ⟨W2.heap.size, 0, none⟩) F.nH F.nH) rfl 1 rfl 49 _ HC.out infoHs (Nat.le_of_ble_eq_true rfl) (by simp [Value.cells, Value.oneCell', Rnd.cells, Cfg.cells, Cnt.cells]) ?_)
 intro W4 hP
 replace hP := hP.cast (cs' := #[.int .i64 S2.C.p, .int .i64 S2.C.c, .int .i64 S2.C.xo, .int .i64 S2.C.xn, .int .i64 S2.C.hd, .int .i64 S2.C.lo, .int .i64 S2.C.dl, .int .i64 S2.now, .int .i64 S2.nx, .slice S2.aE S2.nE S2.cE, .slice S2.N.aU S2.N.nU S2.N.cU, .int .i64 S2.N.lo, .slice S2.N.aP S2.N.nP S2.N.cP, .slice S2.aK S2.nK S2.cK, .slice S2.aL S2.nL S2.cL, .int .i64 S2.dr, .int .i64 S2.lst, .slice (some ⟨W2.heap.size, 0, none⟩) F.nH F.nH, .slice none 0 0, .slice none 0 0]) rfl
 replace HX : Hid (Boxes w F.cells #[.int .i64 0, .int .i64 0, .int .i64 0, .int .i64 0, .int .i64 0, .int .i64 0, .int .i64 0, .int .i64 0, .int .i64 0, .slice none 0 0, .slice none 0 0, .int .i64 0, .slice none 0 0, .slice none 0 0, .slice none 0 0, .int .i64 0, .int .i64 0, .slice none 0 0, .slice none 0 0, .slice none 0 0] #[.int .i64 S2.C.p, .int .i64 S2.C.c, .int .i64 S2.C.xo, .int .i64 S2.C.xn, .int .i64 S2.C.hd, .int .i64 S2.C.lo, .int .i64 S2.C.dl, .int .i64 S2.now, .int .i64 S2.nx, .slice S2.aE S2.nE S2.cE, .slice S2.N.aU S2.N.nU S2.N.cU, .int .i64 S2.N.lo, .slice S2.N.aP S2.N.nP S2.N.cP, .slice S2.aK S2.nK S2.cK, .slice S2.aL S2.nL S2.cL, .int .i64 S2.dr, .int .i64 S2.lst, .slice (some ⟨W2.heap.size, 0, none⟩) F.nH F.nH, .slice none 0 0, .slice none 0 0] 36 49 W4) := HX.out.put hP
 have T4 : Touch [w.heap.size + 1, w.heap.size + 1 + 1] wh W4 := hP.to.mono (fun x hx => by simp at hx; simp [hx])
 clear hP HC 
 have c18 : W4.cell? ⟨w.heap.size, 18, none⟩ = some (.slice F.aU F.nU F.cU) := blk_cell HX.out.a 18
 go_wp2_with fail
 refine (toFlights_any F.aU F.nU F.cU F.U _ HS.out.u (HR.out.u.up HX.out.bel)).mono ?_
 rintro e wu ⟨rfl, rU, hb⟩
 clear c18
 have sU := HX.out.sz
 replace HX : Hid (Boxes w F.cells #[.int .i64 0, .int .i64 0, .int .i64 0, .int .i64 0, .int .i64 0, .int .i64 0, .int .i64 0, .int .i64 0, .int .i64 0, .slice none 0 0, .slice none 0 0, .int .i64 0, .slice none 0 0, .slice none 0 0, .slice none 0 0, .int .i64 0, .int .i64 0, .slice none 0 0, .slice none 0 0, .slice none 0 0] #[.int .i64 S2.C.p, .int .i64 S2.C.c, .int .i64 S2.C.xo, .int .i64 S2.C.xn, .int .i64 S2.C.hd, .int .i64 S2.C.lo, .int .i64 S2.C.dl, .int .i64 S2.now, .int .i64 S2.nx, .slice S2.aE S2.nE S2.cE, .slice S2.N.aU S2.N.nU S2.N.cU, .int .i64 S2.N.lo, .slice S2.N.aP S2.N.nP S2.N.cP, .slice S2.aK S2.nK S2.cK, .slice S2.aL S2.nL S2.cL, .int .i64 S2.dr, .int .i64 S2.lst, .slice (some ⟨W2.heap.size, 0, none⟩) F.nH F.nH, .slice none 0 0, .slice none 0 0] 36 49 wu) := HX.out.up hb
 have T5 : Touch [w.heap.size + 1, w.heap.size + 1 + 1] W4 wu := Touch.ofBelow hb
 clear hb
 have HC := HX.out.c
 replace HC : Hid (wu.heap[w.heap.size + 1 + 1]? = some (.cells #[.int .i64 S2.C.p, .int .i64 S2.C.c, .int .i64 S2.C.xo, .int .i64 S2.C.xn, .int .i64 S2.C.hd, .int .i64 S2.C.lo, .int .i64 S2.C.dl, .int .i64 S2.now, .int .i64 S2.nx, .slice S2.aE S2.nE S2.cE, .slice S2.N.aU S2.N.nU S2.N.cU, .int .i64 S2.N.lo, .slice S2.N.aP S2.N.nP S2.N.cP, .slice S2.aK S2.nK S2.cK, .slice S2.aL S2.nL S2.cL, .int .i64 S2.dr, .int .i64 S2.lst, .slice (some ⟨W2.heap.size, 0, none⟩) F.nH F.nH, .slice none 0 0, .slice none 0 0] 49 (0, 0))) := HC
 go_wp2_with (refine wpList_stA rfl 47 (.tmp 15) (.tmp 14) rfl (w.heap.size + 1 + 1) 18 rfl (.slice (some ⟨W4.heap.size, 0, none⟩) F.nU F.nU) rfl 1 rfl 49 _ HC.out infoVs (Nat.le_of_ble_eq_true rfl) (by simp [Value.cells, Value.oneCell', Rnd.cells, Cfg.cells, Cnt.cells]) ?_)
 intro W6 hP
 replace hP := hP.cast (cs' := #[.int .i64 S2.C.p, .int .i64 S2.C.c, .int .i64 S2.C.xo, .int .i64 S2.C.xn, .int .i64 S2.C.hd, .int .i64 S2.C.lo, .int .i64 S2.C.dl, .int .i64 S2.now, .int .i64 S2.nx, .slice S2.aE S2.nE S2.cE, .slice S2.N.aU S2.N.nU S2.N.cU, .int .i64 S2.N.lo, .slice S2.N.aP S2.N.nP S2.N.cP, .slice S2.aK S2.nK S2.cK, .slice S2.aL S2.nL S2.cL, .int .i64 S2.dr, .int .i64 S2.lst, .slice (some ⟨W2.heap.size, 0, none⟩) F.nH F.nH, .slice (some ⟨W4.heap.size, 0, none⟩) F.nU F.nU, .slice none 0 0]) rfl
 replace HX : Hid (Boxes w F.cells #[.int .i64 0, .int .i64 0, .int .i64 0, .int .i64 0, .int .i64 0, .int .i64 0, .int .i64 0, .int .i64 0, .int .i64 0, .slice none 0 0, .slice none 0 0, .int .i64 0, .slice none 0 0, .slice none 0 0, .slice none 0 0, .int .i64 0, .int .i64 0, .slice none 0 0, .slice none 0 0, .slice none 0 0] #[.int .i64 S2.C.p, .int .i64 S2.C.c, .int .i64 S2.C.xo, .int .i64 S2.C.xn, .int .i64 S2.C.hd, .int .i64 S2.C.lo, .int .i64 S2.C.dl, .int .i64 S2.now, .int .i64 S2.nx, .slice S2.aE S2.nE S2.cE, .slice S2.N.aU S2.N.nU S2.N.cU, .int .i64 S2.N.lo, .slice S2.N.aP S2.N.nP S2.N.cP, .slice S2.aK S2.nK S2.cK, .slice S2.aL S2.nL S2.cL, .int .i64 S2.dr, .int .i64 S2.lst, .slice (some ⟨W2.heap.size, 0, none⟩) F.nH F.nH, .slice (some ⟨W4.heap.size, 0, none⟩) F.nU F.nU, .slice none 0 0] 36 49 W6) := HX.out.put hP
 have T6 : Touch [w.heap.size + 1, w.heap.size + 1 + 1] wu W6 := hP.to.mono (fun x hx => by simp at hx; simp [hx])
 clear hP HC 
 have c19 : W6.cell? ⟨w.heap.size, 19, none⟩ = some (.slice F.aD F.nD F.cD) := blk_cell HX.out.a 19
 go_wp2_with fail
 refine (toFlights_any F.aD F.nD F.cD F.D _ HS.out.d (HR.out.d.up HX.out.bel)).mono ?_
 rintro e wd ⟨rfl, rD, hb⟩
 clear c19
 have sD := HX.out.sz
 replace HX : Hid (Boxes w F.cells #[.int .i64 0, .int .i64 0, .int .i64 0, .int .i64 0, .int .i64 0, .int .i64 0, .int .i64 0, .int .i64 0, .int .i64 0, .slice none 0 0, .slice none 0 0, .int .i64 0, .slice none 0 0, .slice none 0 0, .slice none 0 0, .int .i64 0, .int .i64 0, .slice none 0 0, .slice none 0 0, .slice none 0 0] #[.int .i64 S2.C.p, .int .i64 S2.C.c, .int .i64 S2.C.xo, .int .i64 S2.C.xn, .int .i64 S2.C.hd, .int .i64 S2.C.lo, .int .i64 S2.C.dl, .int .i64 S2.now, .int .i64 S2.nx, .slice S2.aE S2.nE S2.cE, .slice S2.N.aU S2.N.nU S2.N.cU, .int .i64 S2.N.lo, .slice S2.N.aP S2.N.nP S2.N.cP, .slice S2.aK S2.nK S2.cK, .slice S2.aL S2.nL S2.cL, .int .i64 S2.dr, .int .i64 S2.lst, .slice (some ⟨W2.heap.size, 0, none⟩) F.nH F.nH, .slice (some ⟨W4.heap.size, 0, none⟩) F.nU F.nU, .slice none 0 0] 36 49 wd) := HX.out.up hb
 have T7 : Touch [w.heap.size + 1, w.heap.size + 1 + 1] W6 wd := Touch.ofBelow hb
 clear hb
 have HC := HX.out.c
 replace HC : Hid (wd.heap[w.heap.size + 1 + 1]? = some (.cells #[.int .i64 S2.C.p, .int .i64 S2.C.c, .int .i64 S2.C.xo, .int .i64 S2.C.xn, .int .i64 S2.C.hd, .int .i64 S2.C.lo, .int .i64 S2.C.dl, .int .i64 S2.now, .int .i64 S2.nx, .slice S2.aE S2.nE S2.cE, .slice S2.N.aU S2.N.nU S2.N.cU, .int .i64 S2.N.lo, .slice S2.N.aP S2.N.nP S2.N.cP, .slice S2.aK S2.nK S2.cK, .slice S2.aL S2.nL S2.cL, .int .i64 S2.dr, .int .i64 S2.lst, .slice (some ⟨W2.heap.size, 0, none⟩) F.nH F.nH, .slice (some ⟨W4.heap.size, 0, none⟩) F.nU F.nU, .slice none 0 0] 49 (0, 0))) := HC
 go_wp2_with (refine wpList_stA rfl 47 (.tmp 19) (.tmp 18) rfl (w.heap.size + 1 + 1) 19 rfl (.slice (some ⟨W6.heap.size, 0, none⟩) F.nD F.nD) rfl 1 rfl 49 _ HC.out infoVs (Nat.le_of_ble_eq_true rfl) (by simp [Value.cells, Value.oneCell', Rnd.cells, Cfg.cells, Cnt.cells]) ?_)
 intro W8 hP
 replace hP := hP.cast (cs' := #[.int .i64 S2.C.p, .int .i64 S2.C.c, .int .i64 S2.C.xo, .int .i64 S2.C.xn, .int .i64 S2.C.hd, .int .i64 S2.C.lo, .int .i64 S2.C.dl, .int .i64 S2.now, .int .i64 S2.nx, .slice S2.aE S2.nE S2.cE, .slice S2.N.aU S2.N.nU S2.N.cU, .int .i64 S2.N.lo, .slice S2.N.aP S2.N.nP S2.N.cP, .slice S2.aK S2.nK S2.cK, .slice S2.aL S2.nL S2.cL, .int .i64 S2.dr, .int .i64 S2.lst, .slice (some ⟨W2.heap.size, 0, none⟩) F.nH F.nH, .slice (some ⟨W4.heap.size, 0, none⟩) F.nU F.nU, .slice (some ⟨W6.heap.size, 0, none⟩) F.nD F.nD]) rfl
 replace HX : Hid (Boxes w F.cells #[.int .i64 0, .int .i64 0, .int .i64 0, .int .i64 0, .int .i64 0, .int .i64 0, .int .i64 0, .int .i64 0, .int .i64 0, .slice none 0 0, .slice none 0 0, .int .i64 0, .slice none 0 0, .slice none 0 0, .slice none 0 0, .int .i64 0, .int .i64 0, .slice none 0 0, .slice none 0 0, .slice none 0 0] #[.int .i64 S2.C.p, .int .i64 S2.C.c, .int .i64 S2.C.xo, .int .i64 S2.C.xn, .int .i64 S2.C.hd, .int .i64 S2.C.lo, .int .i64 S2.C.dl, .int .i64 S2.now, .int .i64 S2.nx, .slice S2.aE S2.nE S2.cE, .slice S2.N.aU S2.N.nU S2.N.cU, .int .i64 S2.N.lo, .slice S2.N.aP S2.N.nP S2.N.cP, .slice S2.aK S2.nK S2.cK, .slice S2.aL S2.nL S2.cL, .int .i64 S2.dr, .int .i64 S2.lst, .slice (some ⟨W2.heap.size, 0, none⟩) F.nH F.nH, .slice (some ⟨W4.heap.size, 0, none⟩) F.nU F.nU, .slice (some ⟨W6.heap.size, 0, none⟩) F.nD F.nD] 36 49 W8) := HX.out.put hP
 have T8 : Touch [w.heap.size + 1, w.heap.size + 1 + 1] wd W8 := hP.to.mono (fun x hx => by simp at hx; simp [hx])
 clear hP HC 
 obtain ⟨F2, e2⟩ : ∃ F2, (⟨S2, some ⟨W2.heap.size, 0, none⟩, F.nH, F.nH, H2, some ⟨W4.heap.size, 0, none⟩, F.nU, F.nU, F.U, some ⟨W6.heap.size, 0, none⟩, F.nD, F.nD, F.D⟩ : Fab) = F2 := ⟨_, rfl⟩
 have e3 : #[.int .i64 S2.C.p, .int .i64 S2.C.c, .int .i64 S2.C.xo, .int .i64 S2.C.xn, .int .i64 S2.C.hd, .int .i64 S2.C.lo, .int .i64 S2.C.dl, .int .i64 S2.now, .int .i64 S2.nx, .slice S2.aE S2.nE S2.cE, .slice S2.N.aU S2.N.nU S2.N.cU, .int .i64 S2.N.lo, .slice S2.N.aP S2.N.nP S2.N.cP, .slice S2.aK S2.nK S2.cK, .slice S2.aL S2.nL S2.cL, .int .i64 S2.dr, .int .i64 S2.lst, .slice (some ⟨W2.heap.size, 0, none⟩) F.nH F.nH, .slice (some ⟨W4.heap.size, 0, none⟩) F.nU F.nU, .slice (some ⟨W6.heap.size, 0, none⟩) F.nD F.nD] = F2.cells := by rw [← e2]; rfl
 rw [e3] at HX
 clear e3
 have HC : Hid (W8.heap[w.heap.size + 1 + 1]? = some (.cells F2.cells 49 (0, 0))) := HX.out.c
 have HD : Hid (W8.heap[w.heap.size + 1]? = some (.cells #[.int .i64 0, .int .i64 0, .int .i64 0, .int .i64 0, .int .i64 0, .int .i64 0, .int .i64 0, .int .i64 0, .int .i64 0, .slice none 0 0, .slice none 0 0, .int .i64 0, .slice none 0 0, .slice none 0 0, .slice none 0 0, .int .i64 0, .int .i64 0, .slice none 0 0, .slice none 0 0, .slice none 0 0] 49 (0, 0))) := HX.out.b
 have HL : Hid (∀ j, j < 20 → W8.cell? ⟨w.heap.size + 1 + 1, 0 + j, none⟩ = (F2.cells)[j]?) := fun j _ => by rw [Nat.zero_add]; exact blk_cell HC.out j
 go_wp2_with (first | refine wpList_ldT rfl 49 20 _ Tryz.underlying49 rfl infoFb20 (.tmp 3) rfl (w.heap.size + 1 + 1) 0 rfl (F2.cells) rfl HL.out ?_ | refine wpList_stA rfl 49 (.tmp 2) (.tmp 20) rfl (w.heap.size + 1) 0 rfl (.agg F2.cells) rfl 20 rfl 49 _ HD.out infoFb20 (Nat.le_of_ble_eq_true rfl) (Fab.oneC _) ?_)
 intro W9 hP
 replace hP : Put W8 W9 (w.heap.size + 1) F2.cells 49 := hP.cast rfl
 have T9 : Touch [w.heap.size + 1, w.heap.size + 1 + 1] W8 W9 := hP.to.mono (fun x hx => by simp at hx; simp [hx])
 have HK : Hid (W9.heap[w.heap.size + 1]? = some (.cells F2.cells 49 (0, 0))) := hP.blk
 have HB : Hid (Below w.heap.size w W9) := (HX.out.out hP).bel
 clear hP HC HD HL
 go_wp2_with fail
 have hlow : ∀ x ∈ [w.heap.size + 1, w.heap.size + 1 + 1], x < w.heap.size + 1 + 1 + 1 := by intro x hx; simp at hx; omega
 have tS := (((((((T2.trans T3).trans T4).trans T5).trans T6).trans T7).trans T8).trans T9)
 have tH := (((((T4.trans T5).trans T6).trans T7).trans T8).trans T9)
 have tU := (((T6.trans T7).trans T8).trans T9)
 have tD := (T8.trans T9)
 refine bodyPost_ret (res_cellT Tryz.results7 20 _ Tryz.underlying49 rfl infoFb20 _ _ (w.heap.size + 1) F2.cells rfl 49 HK.out rfl) rfl ⟨F2, rfl, ?_, ?_, HB.out⟩
 ·
  rw [← e2]
  exact ⟨aS, rfl, rH.a, rfl, rfl, rfl, rfl⟩
 ·
  rw [← e2]
  exact ⟨(rS.low tS (fun x hx => by have := hlow x hx; omega)).mono (by omega), ((rH.r.vg (Nat.le_refl _)).low tH (fun x hx => by have := hlow x hx; omega)).mono (by omega), fun i hi => ((rH.o i hi).low tH (fun x hx => by have := hlow x hx; omega)).mono (by omega), ((rU.vg (Nat.le_refl _)).low tU (fun x hx => by have := hlow x hx; omega)).mono (by omega), ((rD.vg (Nat.le_refl _)).low tD (fun x hx => by have := hlow x hx; omega)).mono (by omega)⟩
section
variable {P : Program} {ops : Array Oper} {Q : Exit → Act → World → Prop} {md : Region.Mode} {T : World → Prop} {d : Nat}
end
def blkO (a : Option Addr) : List Nat := (a.map (·.block)).toList
def OG (t : TypeId) (sz : Nat) (w : World) (base : Nat) (a : Option Addr) (n c : Nat) (xs : List Value) : Prop := w.ownsRow base t sz (.slice a n c) n xs
section
variable {t : TypeId} {sz : Nat} {w w' : World} {base base' : Nat} {a : Option Addr} {n c : Nat} {xs : List Value} {S : List Nat}
theorem OG.up (h : OG t sz w base a n c xs) (hb : Below w.heap.size w w') : OG t sz w' base a n c xs := by
 refine ⟨h.1, h.2.imp id ?_⟩
 rintro ⟨g, cap, cur, e, hg, hbk, hr⟩
 exact ⟨g, cap, cur, e, hg, (hb.block g (blk_lt hbk)).trans hbk, hr⟩
theorem OG.blk (h : OG t sz w base a n c xs) : ∀ x ∈ blkO a, base ≤ x ∧ x < w.heap.size := by
 intro x hx
 rcases h.2 with ⟨e, _⟩ | ⟨g, cap, cur, e, hg, hbk, _⟩
 ·
  cases e
  simp [blkO] at hx
 ·
  cases e
  simp [blkO] at hx
  subst hx
  exact ⟨hg, blk_lt hbk⟩
theorem OG.vg {f : Nat → Value} (h : OG t sz w base a n c xs) (hf : ∀ i, i < n * sz → xs[i]? = some (f i)) : VG t w base a (n * sz) f := by
 rcases h.2 with ⟨e, h0⟩ | ⟨g, cap, cur, e, hg, hbk, hn, hm, hs, ht⟩
 ·
  exact .inl (by rw [h0]; simp)
 ·
  cases e
  refine .inr ⟨g, 0, rfl, hg, cur, hbk, ?_, fun i hi => ?_⟩
  ·
   rw [hs, Nat.zero_add]
   exact Nat.mul_le_mul_right _ hn
  ·
   rw [Nat.zero_add, ← Array.getElem?_toList, ← List.getElem?_take_of_lt hi, ht]
   exact hf i hi
end
theorem Touch.ofGrown {w w' : World} {v : Value} {a : Option Addr} {n c : Nat} (h : w.grownBy w' (Value.slice a n c).ownBlock) : Touch (blkO a) w w' :=
 ⟨h.os, h.tape, h.output, h.size, fun k hk hn => h.block k hk (fun e => hn (by
  cases a with
  | none => simp [Value.ownBlock] at e
  | some x => simp [Value.ownBlock] at e; simp [blkO, e]))⟩
theorem appendOG {w : World} {base : Nat} {a : Option Addr} {n c : Nat} {xs : List Value} (t e : TypeId) (z : Value) (sz bytes : Nat) (hinfo : (Tryz.prog.info? e).map (fun i => (i.zero, i.size, i.bytes)) = some (some z, sz, bytes)) (hu : Tryz.prog.underlying t = some (.slice e)) (hz : z.cells.size = sz) (hsz : 0 < sz) (hby : bytes ≤ 1000)
  (h : OG e sz w base a n c xs) (hl : n ≤ 1048576) (hb : base ≤ w.heap.size) (cs : Array Value) (hcs : cs.size = sz) (h1 : cs.all (·.oneCell') = true) :
  ∃ g c' W, (Builtin.append_ #[t, t] t #[.slice a n c, .slice (some ⟨w.heap.size, 0, none⟩) 1 1]).run Tryz.prog (w.alloc (.cells cs e)) = .ok (.slice (some ⟨g, 0, none⟩) (n + 1) c') W ∧ OG e sz W base (some ⟨g, 0, none⟩) (n + 1) c' (xs ++ cs.toList) ∧ Touch (blkO a) w W ∧ (g ∈ blkO a ∨ w.heap.size ≤ g) := by
 obtain ⟨i0, hi, hz0, hz1, hz2⟩ := info_parts hinfo
 have hA : Below w.heap.size w (w.alloc (.cells cs e)) := (Below.refl _ _).alloc (Nat.le_refl _) _
 have hnew := blk_cell (blk_new w (.cells cs e))
 have hbb : (n + 1) * bytes ≤ 140737488355328 := by
  have := Nat.mul_le_mul (show n + 1 ≤ 1048577 by omega) hby
  omega
 obtain ⟨v', W, hr, h2, h3, h4, h5⟩ := run_append_own_at (P := Tryz.prog) (w.alloc (.cells cs e)) base t t e i0 z sz bytes hu hi hz0 hz1 hz2 hz hsz (.slice a n c) n xs (h.up hA) ⟨w.heap.size, 0, none⟩ 1 1 cs.toList (by rw [Array.length_toList, hcs, Nat.one_mul]) (fun j u hj => by
  have e0 : (⟨w.heap.size, 0, none⟩ : Addr).add j = ⟨w.heap.size, j, none⟩ := by unfold Addr.add; split <;> simp_all
  rw [e0, hnew j, ← Array.getElem?_toList]
  exact hj) (fun u hu => (Array.all_eq_true_iff_forall_mem.1 h1) u (by simpa using hu)) (by unfold maxLen; omega) hbb (by simp; omega)
 rcases h2.2 with ⟨_, h0⟩ | ⟨g, cap, cur, rfl, _⟩
 ·
  omega
 refine ⟨g, cap, W, hr, h2, Touch.ofGrown (v := .slice a n c) ((World.grownBy_alloc w _ _).trans h3), ?_⟩
 rcases h5 with h5 | h5
 ·
  left
  cases a with
  | none => simp [Value.ownBlock] at h5
  | some x => simp [Value.ownBlock] at h5; simp [blkO, h5]
 ·
  right
  simp only [Value.ownBlock, Option.some.injEq] at h5
  rw [h5]; simp
def tV (n : Nat) (c : Nat → Array Value) : List Value := (List.range n).flatMap fun i => (c i).toList
theorem tV_succ (n : Nat) (c : Nat → Array Value) : tV (n + 1) c = tV n c ++ (c n).toList := by simp [tV, List.range_succ]
theorem tV_ext {n : Nat} {c c' : Nat → Array Value} (h : ∀ i, i < n → c i = c' i) : tV n c = tV n c' := by
 induction n with
 | zero => rfl
 | succ n ih => rw [tV_succ, tV_succ, ih (fun i hi => h i (by omega)), h n (by omega)]
theorem tV_len {m n : Nat} {c : Nat → Array Value} (hs : ∀ i, i < n → (c i).size = m) : (tV n c).length = n * m := by
 induction n with
 | zero => simp [tV]
 | succ n ih => rw [tV_succ, List.length_append, ih (fun i hi => hs i (by omega)), Array.length_toList, hs n (by omega), Nat.succ_mul]
theorem tV_get {m n : Nat} {c : Nat → Array Value} (hs : ∀ i, i < n → (c i).size = m) : ∀ j, j < n * m → (tV n c)[j]? = some (flatT m c j) := by
 induction n with
 | zero => intro j hj; omega
 | succ n ih =>
  intro j hj
  have hs' : ∀ i, i < n → (c i).size = m := fun i hi => hs i (by omega)
  rw [Nat.succ_mul] at hj
  rw [tV_succ]
  by_cases e : j < n * m
  ·
   rw [List.getElem?_append_left (by rw [tV_len hs']; exact e)]
   exact ih hs' j e
  ·
   rw [List.getElem?_append_right (by rw [tV_len hs']; omega), tV_len hs', Array.getElem?_toList]
   have := flatT_at (c := c) (i := n) (j := j - n * m) (m := m) (by omega) (hs n (by omega))
   rw [show n * m + (j - n * m) = j by omega] at this
   exact this.symm
theorem OG.frames {t : TypeId} {w : World} {base : Nat} {a : Option Addr} {n c : Nat} {F : Nat → Pkt} (h : OG t 5 w base a n c (tV n fun i => (F i).frame)) : RdF w a n F := (h.vg (tV_get (fun _ _ => rfl))).frames
theorem OG.new (V : World) (t : TypeId) (sz base : Nat) (hb : base ≤ V.heap.size) : OG t sz (V.alloc (.cells #[] t)) base (some ⟨V.heap.size, 0, none⟩) 0 0 [] :=
 ⟨by simp, .inr ⟨V.heap.size, 0, #[], rfl, hb, blk_new _ _, Nat.le_refl _, Nat.zero_le _, by simp, by simp⟩⟩
set_option maxRecDepth 10000 in
set_option maxHeartbeats 1000000 in
theorem l7Frames_any (a : Option Addr) (n c : Nat) (F : Nat → Pkt) (w : World) (hn : n ≤ 1048576) (hb : ∀ i, i < n → (F i).b.size ≤ 1048576) (hr : RdF w a n F) (ok : Bool) (hok : ok = true ↔ ∀ i, i < n → (F i).frOk) :
  Calls Tryz.prog 24 #[.slice a n c] w fun e w' => e = .returned (.bool ok) ∧ Below w.heap.size w w' := by
 have HO : Hid (ok = true ↔ ∀ i, i < n → (F i).frOk) := hok
 have HR : Hid (RdF w a n F) := hr
 have HZ : Hid (∀ i, i < n → (F i).b.size ≤ 1048576) := hb
 clear hok hr hb
 go_enter Tryz.func24, Tryz.ntmps24
 go_wp2_with fail
 go_loopw [3] (fun i wr => ∃ k : Nat, k ≤ n ∧ i = .int .i64 k ∧ (∀ i, i < k → (F i).frOk) ∧ Below w.heap.size w wr) (fun i _ => n - (intOf i).toNat)
 case atStart => exact ⟨0, Nat.zero_le _, rfl, fun i hi => by omega, Below.refl _ _⟩
 case round =>
  obtain ⟨k, hk, rfl, hall, hB⟩ := hrel
  have HA : Hid (∀ i, i < k → (F i).frOk) := hall
  clear hall
  by_cases hlt : k < n
  ·
   have hlt' : (k : Int) < n := by omega
   obtain ⟨g, o, ea, hc⟩ := (HR.out.up hB).at hlt
   have c0 : wr.cell? ⟨g, o + k * 5, none⟩ = some (.int .i64 (F k).k) := hc 0 (by omega)
   have HC : Hid (∀ j, j < 5 → wr.cell? ⟨g, o + k * 5 + j, none⟩ = (F k).frame[j]?) := hc
   rw [ea]
   clear ea hc
   by_cases h1 : (F k).k = 1
   ·
    have h1' : ((F k).k != 1) = false := by simp [h1]
    obtain ⟨lk, hlk⟩ := ok_decS ((F k).fOk)
    have HL : Hid (lk = true ↔ (F k).fOk) := hlk
    have H1 : Hid ((F k).k = 1) := h1
    clear hlk h1
    go_wp2_with (refine wpList_ldTg 110 5 _ Tryz.underlying110 rfl infoFr5 (.tmp 19) rfl (by kernel_rfl) g (o + k * 5) rfl (F k).frame rfl HC.out ?_)
    clear HC c0 h1'
    refine (sFrameOk_ok (F k) _ (fitOf (HZ.out k hlt)) lk HL.out).mono ?_
    rintro e w2 ⟨rfl, hb⟩
    have hB2 : Below w.heap.size w w2 := hB.trans (hb.mono hB.size)
    clear hb hB
    cases lk
    ·
     have HF : Hid (ok = false) := by
      rw [Hid, Bool.eq_false_iff]
      intro e
      exact absurd (HL.out.2 (HO.out.1 e k hlt).2) (by simp)
     go_wp2_with fail
     go_ret
     exact ⟨ret_bool HF.out.symm, hB2⟩
    ·
     have HL2 : Hid ((F k).frOk) := ⟨H1.out, HL.out.1 rfl⟩
     clear HL
     go_wp2_with fail
     go_roundw
     case rel => exact ⟨k + 1, by omega, by go_num, fun i hi => by
      by_cases e : i = k
      ·
       subst e; exact HL2.out
      ·
       exact HA.out i (by omega), hB2⟩
     case measure => simp [intOf]; omega
   ·
    have h1' : ((F k).k != 1) = true := by simp [h1]
    have HF : Hid (ok = false) := by
     rw [Hid, Bool.eq_false_iff]
     intro e
     exact h1 (HO.out.1 e k hlt).1
    clear h1
    go_wp2_with fail
    go_ret
    exact ⟨ret_bool HF.out.symm, hB⟩
  ·
   obtain rfl : k = n := by omega
   have HT : Hid (ok = true) := HO.out.2 HA.out
   go_wp2_with fail
   go_ret
   exact ⟨ret_bool HT.out.symm, hB⟩
set_option maxRecDepth 10000 in
set_option maxHeartbeats 1000000 in
theorem l7Of_any (a : Option Addr) (n c : Nat) (U : Nat → Pkt) (w : World) (hn : n ≤ 1048576) (hr : RdV w a n U) :
  Calls Tryz.prog 25 #[.slice a n c] w fun e w' => ∃ a2 c2, e = .returned (.slice a2 n c2) ∧ RdF w' a2 n U ∧ Below w.heap.size w w' := by
 have HR : Hid (RdV w a n U) := hr
 clear hr
 have HB0 : Hid (Below w.heap.size w (w.alloc (.cells #[] 110))) := (Below.refl _ _).alloc (Nat.le_refl _) _
 have HO0 : Hid (OG 110 5 (w.alloc (.cells #[] 110)) w.heap.size (some ⟨w.heap.size, 0, none⟩) 0 0 (tV 0 fun i => (U i).frame)) := OG.new w _ _ _ (Nat.le_refl _)
 go_enter Tryz.func25, Tryz.ntmps25
 go_wp2_with fail
 go_loopw [3, 4] (fun s i wr => ∃ (k : Nat) (a2 : Option Addr) (c2 : Nat), k ≤ n ∧ i = .int .i64 k ∧ s = .slice a2 k c2 ∧ Hid (OG 110 5 wr w.heap.size a2 k c2 (tV k fun i => (U i).frame)) ∧ Hid (Below w.heap.size w wr)) (fun _ i _ => n - (intOf i).toNat)
 case atStart => exact ⟨0, _, _, Nat.zero_le _, rfl, rfl, HO0, HB0⟩
 case round =>
  clear HB0 HO0
  obtain ⟨k, a2, c2, hk, rfl, rfl, HT, HB⟩ := hrel
  by_cases hlt : k < n
  ·
   have hlt' : (k : Int) < n := by omega
   obtain ⟨g, o, ea, hc⟩ := (HR.out.up HB.out).at hlt
   have HC : Hid (∀ j, j < 5 → wr.cell? ⟨g, o + k * 7 + 2 + j, none⟩ = (#[.int .i64 (U k).k, .int .i64 (U k).d, .int .i64 (U k).s, .int .i64 (U k).p, .string (U k).b] : Array Value)[j]?) := fun j hj => by
    have := hc (2 + j) (by omega)
    rw [← Nat.add_assoc] at this
    rw [this]
    have : j = 0 ∨ j = 1 ∨ j = 2 ∨ j = 3 ∨ j = 4 := by omega
    rcases this with rfl | rfl | rfl | rfl | rfl <;> rfl
   obtain ⟨g1, c3, X3, hrun, hu, ht, hg⟩ := appendOG 70 110 _ 5 48 infoFrZ Tryz.underlying70 rfl (by decide) (by decide) HT.out (by omega) HB.out.size (#[.int .i64 (U k).k, .int .i64 (U k).d, .int .i64 (U k).s, .int .i64 (U k).p, .string (U k).b]) rfl (by simp [Value.oneCell'])
   have HT2 : Hid (OG 110 5 X3 w.heap.size (some ⟨g1, 0, none⟩) (k + 1) c3 (tV (k + 1) fun i => (U i).frame)) := by rw [tV_succ]; exact hu
   have HB2 : Hid (Below w.heap.size w X3) := HB.out.trans (ht.below HB.out.size (fun x hx => (HT.out.blk x hx).1))
   rw [ea]
   clear ea hc hu ht hg HT HB
   go_wp2_with (first | refine wpList_ldT rfl 110 5 _ Tryz.underlying110 rfl infoFr5 (.tmp 16) rfl g (o + k * 7 + 2) rfl _ rfl HC.out ?_ | (at_builtin; refine Lib.wpList_append_run _ rfl _ _ _ _ rfl _ _ rfl rfl _ _ hrun ?_))
   go_roundw
   case rel => exact ⟨k + 1, _, _, by omega, by go_num, rfl, HT2, HB2⟩
   case measure => simp [intOf]; omega
  ·
   obtain rfl : k = n := by omega
   go_wp2_with fail
   go_ret
   exact ⟨_, _, rfl, HT.out.frames, HB.out⟩
end Go.Proofs.YtfkpncopkgidfaaGreat
