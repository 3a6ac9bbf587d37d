import Derived.Test.YtfkpncopkgidfaaGreatN04
namespace Go.Proofs.YtfkpncopkgidfaaGreat
open Go.RowKit
set_option linter.unusedVariables false
set_option linter.unusedSimpArgs false
set_option maxHeartbeats 2000000 in
theorem iNumbers_any (S : Swg) (w : World) (ok : Bool) (hok : ok = true ↔ S.Nums) :
  Calls Tryz.prog 70 #[.agg S.cells] w fun e w' => e = .returned (.bool ok) ∧ Below w.heap.size w w' := by
 have HO : Hid (ok = true ↔ S.Nums) := hok
 have hB : Below (w.heap.size + 1) (w.alloc (.cells S.cells 45)) (w.alloc (.cells S.cells 45)) := Below.refl _ _
 have cb := boxed hB
 have c7 : (w.alloc (.cells S.cells 45)).cell? ⟨w.heap.size, 7, none⟩ = some (.int .i64 S.now) := cb 7
 have c8 : (w.alloc (.cells S.cells 45)).cell? ⟨w.heap.size, 8, none⟩ = some (.int .i64 S.nx) := cb 8
 have c15 : (w.alloc (.cells S.cells 45)).cell? ⟨w.heap.size, 15, none⟩ = some (.int .i64 S.dr) := cb 15
 have c16 : (w.alloc (.cells S.cells 45)).cell? ⟨w.heap.size, 16, none⟩ = some (.int .i64 S.lst) := cb 16
 clear cb hok
 by_cases h1 : 0 ≤ S.now ∧ S.now ≤ 1000000000
 ·
  by_cases h2 : 1 ≤ S.nx ∧ S.nx ≤ 1000000000
  ·
   by_cases h3 : 0 ≤ S.dr ∧ S.dr ≤ 1000000000
   ·
    have HF : Hid (decide (0 ≤ S.lst ∧ S.lst ≤ 1000000000) = ok) := by
     rw [Hid, Bool.eq_iff_iff, HO.out]
     simp only [decide_eq_true_eq]
     exact ⟨fun h => ⟨h1, h2, h3, h⟩, fun h => h.lst⟩
    have H1 : Hid _ := h1
    have H2 : Hid _ := h2
    have H3 : Hid _ := h3
    clear h1 h2 h3
    go_enter Tryz.func70, Tryz.ntmps70
    go_wp2_with fail
    refine (isTime_any _ _).mono ?_
    rintro e w1 ⟨rfl, rfl⟩
    rw [decide_eq_true H1.out]
    go_wp2_with fail
    refine (isWithin_any _ _ _ _).mono ?_
    rintro e w1 ⟨rfl, rfl⟩
    rw [decide_eq_true H2.out]
    go_wp2_with fail
    refine (isTime_any _ _).mono ?_
    rintro e w1 ⟨rfl, rfl⟩
    rw [decide_eq_true H3.out]
    go_wp2_with fail
    refine (isTime_any _ _).mono ?_
    rintro e w1 ⟨rfl, rfl⟩
    rw [HF.out]
    go_wp2_with fail
    go_ret
    exact ⟨rfl, under hB⟩
   ·
    obtain rfl : ok = false := by
     rw [Bool.eq_false_iff]
     intro e
     exact h3 (HO.out.1 e).dr
    have H1 : Hid _ := h1
    have H2 : Hid _ := h2
    have H3 : Hid _ := h3
    clear h1 h2 h3
    go_enter Tryz.func70, Tryz.ntmps70
    go_wp2_with fail
    refine (isTime_any _ _).mono ?_
    rintro e w1 ⟨rfl, rfl⟩
    rw [decide_eq_true H1.out]
    go_wp2_with fail
    refine (isWithin_any _ _ _ _).mono ?_
    rintro e w1 ⟨rfl, rfl⟩
    rw [decide_eq_true H2.out]
    go_wp2_with fail
    refine (isTime_any _ _).mono ?_
    rintro e w1 ⟨rfl, rfl⟩
    rw [decide_eq_false H3.out]
    go_wp2_with fail
    go_ret
    exact ⟨rfl, under hB⟩
  ·
   obtain rfl : ok = false := by
    rw [Bool.eq_false_iff]
    intro e
    exact h2 (HO.out.1 e).nx
   have H1 : Hid _ := h1
   have H2 : Hid _ := h2
   clear h1 h2
   go_enter Tryz.func70, Tryz.ntmps70
   go_wp2_with fail
   refine (isTime_any _ _).mono ?_
   rintro e w1 ⟨rfl, rfl⟩
   rw [decide_eq_true H1.out]
   go_wp2_with fail
   refine (isWithin_any _ _ _ _).mono ?_
   rintro e w1 ⟨rfl, rfl⟩
   rw [decide_eq_false H2.out]
   go_wp2_with fail
   go_ret
   exact ⟨rfl, under hB⟩
 ·
  obtain rfl : ok = false := by
   rw [Bool.eq_false_iff]
   intro e
   exact h1 (HO.out.1 e).now
  have H1 : Hid _ := h1
  clear h1
  go_enter Tryz.func70, Tryz.ntmps70
  go_wp2_with fail
  refine (isTime_any _ _).mono ?_
  rintro e w1 ⟨rfl, rfl⟩
  rw [decide_eq_false H1.out]
  go_wp2_with fail
  go_ret
  exact ⟨rfl, under hB⟩
theorem hasPort_any (S : Swg) (p : Int) (w : World) (h1 : -1000000 ≤ S.C.p) (h2 : S.C.p ≤ 1000000) :
  Calls Tryz.prog 77 #[.agg S.cells, .int .i64 p] w fun e w' => e = .returned (.bool (decide (0 ≤ p ∧ p ≤ S.C.p - 1))) ∧ Below w.heap.size w w' := by
 have hB : Below (w.heap.size + 1) (w.alloc (.cells S.cells 45)) (w.alloc (.cells S.cells 45)) := Below.refl _ _
 have c0 : (w.alloc (.cells S.cells 45)).cell? ⟨w.heap.size, 0, none⟩ = some (.int .i64 S.C.p) := boxed hB 0
 go_enter Tryz.func77, Tryz.ntmps77
 go_wp2_with fail
 refine (isWithin_any _ _ _ _).mono ?_
 rintro e w1 ⟨rfl, rfl⟩
 go_wp2_with fail
 go_ret
 exact ⟨ret_bool (by simp), under hB⟩
theorem infoSg : (Tryz.prog.info? 45).map (·.size) = some 17 := by kernel_rfl
theorem wpList_ldSg {ops : Array Oper} {rest : List Oper} {o : Oper} {a : Act} {w : World} {Q : Exit → Act → World → Prop} (hg : o.guard = none) (x : Operand) (ho : o.op = .load 45 x) (g : Nat) (hx : a.eval x = .pointer (some ⟨g, 0, none⟩))
  (S : Swg) (hk : w.heap[g]? = some (.cells S.cells 45 (0, 0))) (h : wpList Tryz.prog ops Q rest (a.put o.dst (.agg S.cells)) w) : wpList Tryz.prog ops Q (o :: rest) a w :=
 wpList_plain hg fun _ hK => wp_load_row 45 x ho g hx 45 S.cells (0, 0) _ hk Tryz.underlying45 rfl infoSg (hK _ _ h)
theorem wpList_ldGg {ops : Array Oper} {rest : List Oper} {o : Oper} {a : Act} {w : World} {Q : Exit → Act → World → Prop} (x : Operand) (ho : o.op = .load 45 x) (hw : Region.wanted o (yielded ops a.tmps) = true) (g : Nat) (hx : a.eval x = .pointer (some ⟨g, 0, none⟩))
  (S : Swg) (hk : w.heap[g]? = some (.cells S.cells 45 (0, 0))) (h : wpList Tryz.prog ops Q rest (a.put o.dst (.agg S.cells)) w) : wpList Tryz.prog ops Q (o :: rest) a w :=
 wpList_step fun K hK => by
  rw [if_pos hw]
  exact wp_load_row 45 x ho g hx 45 S.cells (0, 0) _ hk Tryz.underlying45 rfl infoSg (hK _ _ h)
theorem run_ldRow {oi : Oper} {ev : Operand → Value} {w : World} (ty : TypeId) (x : Operand) (ho : oi.op = .load ty x) (g : Nat) (hx : ev x = .pointer (some ⟨g, 0, none⟩)) (v : Value)
  (hl : (loadVar ty ⟨g, 0, none⟩).run Tryz.prog w = .ok v w) : (execOp ev oi).run Tryz.prog w = .ok (.value v) w := by
 unfold execOp
 simp only [ho, hx, Instr.loadAt, Instr.sureAddr, Sem.run_bind, Sem.run_pure, Result.andThen_ok, hl]
theorem run_ldSg {w : World} {g : Nat} {S : Swg} (hk : w.heap[g]? = some (.cells S.cells 45 (0, 0))) : (loadVar 45 ⟨g, 0, none⟩).run Tryz.prog w = .ok (.agg S.cells) w :=
 run_loadVar_row w g 45 45 S.cells (0, 0) _ hk Tryz.underlying45 rfl infoSg
theorem infoPk : (Tryz.prog.info? 112).map (·.size) = some 8 := by kernel_rfl
theorem run_ldPk {w : World} {g : Nat} {x : Pkt} (hk : w.heap[g]? = some (.cells x.cells 112 (0, 0))) : (loadVar 112 ⟨g, 0, none⟩).run Tryz.prog w = .ok (.agg x.cells) w :=
 run_loadVar_row w g 112 112 x.cells (0, 0) _ hk Tryz.underlying112 rfl infoPk
set_option maxRecDepth 100000 in
set_option maxHeartbeats 2000000 in
theorem iSeen_any (S : Swg) (w : World) (hs : S.nE ≤ 1048576) (hr : RdEnt w S.aE S.nE S.e) (h1 : 0 ≤ S.C.p) (h2 : S.C.p ≤ 1000000) (ok : Bool) (hok : ok = true ↔ S.seen) :
  Calls Tryz.prog 71 #[.agg S.cells] w fun e w' => e = .returned (.bool ok) ∧ Below w.heap.size w w' := by
 have HO : Hid (ok = true ↔ S.seen) := hok
 have HR : Hid (RdEnt w S.aE S.nE S.e) := hr
 have hB : Below (w.heap.size + 1) (w.alloc (.cells S.cells 45)) (w.alloc (.cells S.cells 45)) := Below.refl _ _
 have c9 : (w.alloc (.cells S.cells 45)).cell? ⟨w.heap.size, 9, none⟩ = some (.slice S.aE S.nE S.cE) := boxed hB 9
 obtain ⟨tk, htk⟩ := tab_dec S.nE S.e
 have HT : Hid (tk = true ↔ tabOk S.nE S.e) := htk
 clear hok hr htk
 go_enter Tryz.func71, Tryz.ntmps71
 go_wp2_with fail
 refine (iTableOk_any S.aE S.nE S.cE S.e _ (by unfold maxLen; omega) (HR.out.up (under hB)) tk HT.out).mono ?_
 rintro e w1 ⟨rfl, hb⟩
 replace hB := next hB hb
 clear c9 hb
 have c9 : w1.cell? ⟨w.heap.size, 9, none⟩ = some (.slice S.aE S.nE S.cE) := boxed hB 9
 cases tk
 ·
  obtain rfl : ok = false := by
   rw [Bool.eq_false_iff]
   intro e
   exact absurd (HT.out.2 (HO.out.1 e).1) (by simp)
  go_wp2_with fail
  go_ret
  exact ⟨rfl, under hB⟩
 have HT2 : Hid (tabOk S.nE S.e) := HT.out.1 rfl
 clear HT
 go_wp2_with fail
 go_loopw [12] (fun i wr => ∃ k : Nat, k ≤ S.nE ∧ i = .int .i64 k ∧ (∀ i, i < k → (S.e i).p < S.C.p ∧ (S.e i).t ≤ S.now) ∧ Below (w.heap.size + 1) (w.alloc (.cells S.cells 45)) wr) (fun i _ => S.nE - (intOf i).toNat)
 case atStart => exact ⟨0, Nat.zero_le _, rfl, fun i hi => by omega, hB⟩
 case round =>
  clear hB c9
  obtain ⟨k, hk, rfl, hall, hB⟩ := hrel
  have HA : Hid (∀ i, i < k → (S.e i).p < S.C.p ∧ (S.e i).t ≤ S.now) := hall
  clear hall
  by_cases hlt : k < S.nE
  ·
   have hlt' : (k : Int) < S.nE := by omega
   obtain ⟨g, o, ea, e0, e1, e2⟩ := (HR.out.up (under hB)) k hlt
   obtain ⟨V, eV⟩ : ∃ V, wr.alloc (.cells #[.int .i64 (S.e k).m, .int .i64 (S.e k).p, .int .i64 (S.e k).t] 109) = V := ⟨_, rfl⟩
   have hbV : Below wr.heap.size wr V := by rw [← eV]; exact (Below.refl _ _).alloc (Nat.le_refl _) _
   have kV : V.heap[wr.heap.size]? = some (.cells #[.int .i64 (S.e k).m, .int .i64 (S.e k).p, .int .i64 (S.e k).t] 109 (0, 0)) := by rw [← eV]; exact blk_new _ _
   have hBV := next hB hbV
   have cV := blk_cell kV
   have HkS : Hid (V.heap[w.heap.size]? = some (.cells S.cells 45 (0, 0))) := (hBV.block _ (by omega)).trans (blk_new _ _)
   rw [ea]
   clear hbV kV
   go_wp2_with (refine wpList_ldSg rfl (.tmp 1) rfl w.heap.size rfl S HkS.out ?_)
   clear HkS
   refine (hasPort_any S (S.e k).p _ (by omega) (by omega)).mono ?_
   rintro e w2 ⟨rfl, hb⟩
   have hB2 := next hBV hb
   have cV2 : ∀ o, w2.cell? ⟨wr.heap.size, o, none⟩ = (#[.int .i64 (S.e k).m, .int .i64 (S.e k).p, .int .i64 (S.e k).t] : Array Value)[o]? := fun o => (hb.cell (p := ⟨wr.heap.size, o, none⟩) (by rw [← eV]; simp)).trans (cV o)
   have c7 : w2.cell? ⟨w.heap.size, 7, none⟩ = some (.int .i64 S.now) := boxed hB2 7
   clear cV hb hBV eV hB e0 e1 e2 ea
   have hpe := (HT2.out.2 k hlt).1.2.1
   by_cases h5 : (S.e k).p < S.C.p
   ·
    rw [decide_eq_true (show 0 ≤ (S.e k).p ∧ (S.e k).p ≤ S.C.p - 1 by omega)]
    have HP : Hid ((S.e k).p < S.C.p) := h5
    clear h5 hpe
    by_cases h6 : (S.e k).t ≤ S.now
    ·
     have h6' : ¬ S.now < (S.e k).t := by omega
     have HP2 : Hid ((S.e k).t ≤ S.now) := h6
     clear h6
     go_wp2_with fail
     go_roundw
     case rel => exact ⟨k + 1, by omega, by go_num, fun i hi => by
      by_cases e : i = k
      ·
       subst e; exact ⟨HP.out, HP2.out⟩
      ·
       exact HA.out i (by omega), hB2⟩
     case measure => simp [intOf]; omega
    ·
     have h6' : S.now < (S.e k).t := by omega
     obtain rfl : ok = false := by
      rw [Bool.eq_false_iff]
      intro e
      exact h6 ((HO.out.1 e).2 k hlt).2
     clear h6
     go_wp2_with fail
     go_ret
     exact ⟨rfl, under hB2⟩
   ·
    rw [decide_eq_false (show ¬ (0 ≤ (S.e k).p ∧ (S.e k).p ≤ S.C.p - 1) by omega)]
    obtain rfl : ok = false := by
     rw [Bool.eq_false_iff]
     intro e
     exact h5 ((HO.out.1 e).2 k hlt).1
    clear h5 hpe
    go_wp2_with fail
    go_ret
    exact ⟨rfl, under hB2⟩
  ·
   obtain rfl : k = S.nE := by omega
   have hge : ¬ ((S.nE : Nat) : Int) < ((S.nE : Nat) : Int) := by omega
   obtain rfl : ok = true := HO.out.2 ⟨HT2.out, HA.out⟩
   go_wp2_with fail
   go_ret
   exact ⟨rfl, under hB⟩
def Pkt.frame (x : Pkt) : Array Value := #[.int .i64 x.k, .int .i64 x.d, .int .i64 x.s, .int .i64 x.p, .string x.b]
theorem dataFrameOk_any (x : Pkt) (w : World) (hb : x.b.size ≤ maxLen) (ok : Bool) (hok : ok = true ↔ x.frOk) :
  Calls Tryz.prog 32 #[.agg x.frame] w fun e w' => e = .returned (.bool ok) ∧ Below w.heap.size w w' := by
 have HO : Hid (ok = true ↔ x.frOk) := hok
 have hA : Below (w.heap.size + 1) (w.alloc (.cells #[.int .i64 x.k, .int .i64 x.d, .int .i64 x.s, .int .i64 x.p, .string x.b] 110)) (w.alloc (.cells #[.int .i64 x.k, .int .i64 x.d, .int .i64 x.s, .int .i64 x.p, .string x.b] 110)) := Below.refl _ _
 unfold Pkt.frame
 clear hok
 by_cases h1 : x.k = 1
 ·
  have hk : (x.k == 1) = true := by simp [h1]
  have HE : Hid (frOkB x.k x.d x.s x.p x.b.size = ok) := by
   rw [Hid, Bool.eq_iff_iff, HO.out]
   exact ⟨fun h => ⟨h1, h⟩, fun h => h.2⟩
  clear h1
  go_enter Tryz.func32, Tryz.ntmps32
  go_wp2_with fail
  refine (iFrameOk_any _ _ _ _ _ _ hb).mono ?_
  rintro e w1 ⟨rfl, hb1⟩
  have B1 := next hA hb1
  rw [HE.out]
  go_wp2_with fail
  go_ret
  exact ⟨rfl, under B1⟩
 ·
  have hk : (x.k == 1) = false := by simp [h1]
  obtain rfl : ok = false := by
   rw [Bool.eq_false_iff]
   intro e
   exact h1 (HO.out.1 e).1
  have H1 : Hid (¬ x.k = 1) := h1
  clear h1
  go_enter Tryz.func32, Tryz.ntmps32
  go_wp2_with fail
  go_ret
  exact ⟨ret_bool (by first | rfl | exact decide_eq_false H1.out), under hA⟩
theorem box2 {w wi : World} {A B : Array Value} {t s : TypeId} (h : Below (w.heap.size + 2) ((w.alloc (.cells A t)).alloc (.cells B s)) wi) : wi.heap[w.heap.size]? = some (.cells A t (0, 0)) ∧ wi.heap[w.heap.size + 1]? = some (.cells B s (0, 0)) := by
 refine ⟨(h.block _ (by omega)).trans ((blk_old _ (by simp)).trans (blk_new _ _)), (h.block _ (by omega)).trans ?_⟩
 have := blk_new (w.alloc (.cells A t)) (.cells B s)
 simpa using this
theorem under2g {w wi : World} {o o' : Obj} (h : Below (w.heap.size + 2) ((w.alloc o).alloc o') wi) : Below w.heap.size w wi :=
 (((Below.refl _ _).alloc (Nat.le_refl _) o).alloc (by simp) o').trans (h.mono (by omega))
theorem upper2g {w wi : World} {o o' : Obj} (h : Below (w.heap.size + 2) ((w.alloc o).alloc o') wi) : w.heap.size + 2 ≤ wi.heap.size := by
 have := h.size
 simpa using this
theorem next2g {w wi wj : World} {o o' : Obj} (h : Below (w.heap.size + 2) ((w.alloc o).alloc o') wi) (k : Below wi.heap.size wi wj) : Below (w.heap.size + 2) ((w.alloc o).alloc o') wj :=
 h.trans (k.mono (upper2g h))
def Pkt.ok (nx p : Int) (x : Pkt) : Prop := (1 ≤ x.id ∧ x.id ≤ nx - 1) ∧ (0 ≤ x.inn ∧ x.inn ≤ p - 1) ∧ x.frOk
set_option maxRecDepth 100000 in
set_option maxHeartbeats 2000000 in
theorem packetOk_any (S : Swg) (x : Pkt) (w : World) (hb : x.b.size ≤ maxLen) (h1 : 0 ≤ S.C.p) (h2 : S.C.p ≤ 1000000) (h3 : 1 ≤ S.nx) (h4 : S.nx ≤ 1000000000) (ok : Bool) (hok : ok = true ↔ x.ok S.nx S.C.p) :
  Calls Tryz.prog 124 #[.agg S.cells, .agg x.cells] w fun e w' => e = .returned (.bool ok) ∧ Below w.heap.size w w' := by
 have HO : Hid (ok = true ↔ x.ok S.nx S.C.p) := hok
 have hB : Below (w.heap.size + 2) ((w.alloc (.cells S.cells 45)).alloc (.cells x.cells 112)) ((w.alloc (.cells S.cells 45)).alloc (.cells x.cells 112)) := Below.refl _ _
 clear hok
 obtain ⟨W, eW⟩ : ∃ W, (w.alloc (.cells S.cells 45)).alloc (.cells x.cells 112) = W := ⟨_, rfl⟩
 rw [eW] at hB
 have HB : Hid (∀ W', Below W.heap.size W W' → Below w.heap.size w W') := fun W' h => by
  subst eW
  exact under2g (next2g hB h)
 have kS : W.heap[w.heap.size]? = some (.cells S.cells 45 (0, 0)) := by subst eW; exact (box2 hB).1
 have kX : W.heap[w.heap.size + 1]? = some (.cells x.cells 112 (0, 0)) := by subst eW; exact (box2 hB).2
 have HkS : Hid (W.heap[w.heap.size]? = some (.cells S.cells 45 (0, 0))) := kS
 have c8 : W.cell? ⟨w.heap.size, 8, none⟩ = some (.int .i64 S.nx) := blk_cell kS 8
 have x0 : W.cell? ⟨w.heap.size + 1, 0, none⟩ = some (.int .i64 x.id) := blk_cell kX 0
 have x1 : W.cell? ⟨w.heap.size + 1, 1, none⟩ = some (.int .i64 x.inn) := blk_cell kX 1
 clear hB
 go_enter Tryz.func124, Tryz.ntmps124
 go_wp2_with fail
 refine (isWithin_any _ _ _ _).mono ?_
 rintro e w1 ⟨rfl, rfl⟩
 by_cases h5 : 1 ≤ x.id ∧ x.id ≤ S.nx - 1
 ·
  rw [decide_eq_true h5]
  have H5 : Hid (1 ≤ x.id ∧ x.id ≤ S.nx - 1) := h5
  clear h5
  go_wp2_with (refine wpList_ldGg (.tmp 2) rfl (by kernel_rfl) w.heap.size rfl S HkS.out ?_)
  refine (hasPort_any S _ _ (by omega) (by omega)).mono ?_
  rintro e w2 ⟨rfl, hb2⟩
  have B2 := HB.out _ hb2
  have kX2 := (hb2.block _ (blk_lt kX)).trans kX
  have y3 : w2.cell? ⟨w.heap.size + 1, 3, none⟩ = some (.int .i64 x.k) := blk_cell kX2 3
  have y4 : w2.cell? ⟨w.heap.size + 1, 4, none⟩ = some (.int .i64 x.d) := blk_cell kX2 4
  have y5 : w2.cell? ⟨w.heap.size + 1, 5, none⟩ = some (.int .i64 x.s) := blk_cell kX2 5
  have y6 : w2.cell? ⟨w.heap.size + 1, 6, none⟩ = some (.int .i64 x.p) := blk_cell kX2 6
  have y7 : w2.cell? ⟨w.heap.size + 1, 7, none⟩ = some (.string x.b) := blk_cell kX2 7
  clear c8 x0 x1 kS kX kX2 eW HkS HB
  by_cases h6 : 0 ≤ x.inn ∧ x.inn ≤ S.C.p - 1
  ·
   rw [decide_eq_true h6]
   have H6 : Hid (0 ≤ x.inn ∧ x.inn ≤ S.C.p - 1) := h6
   obtain ⟨fk, hfk⟩ := ok_decS x.frOk
   have HE : Hid (fk = ok) := by
    rw [Hid, Bool.eq_iff_iff, HO.out, hfk]
    exact ⟨fun h => ⟨H5.out, H6.out, h⟩, fun h => h.2.2⟩
   have HF : Hid (fk = true ↔ x.frOk) := hfk
   clear h6 hfk
   go_wp2_with fail
   refine (dataFrameOk_any x _ hb fk HF.out).mono ?_
   rintro e w3 ⟨rfl, hb3⟩
   have B3 := B2.trans (hb3.mono B2.size)
   rw [HE.out]
   clear hb2 hb3 B2
   go_wp2_with fail
   go_ret
   exact ⟨rfl, B3⟩
  ·
   rw [decide_eq_false h6]
   obtain rfl : ok = false := by
    rw [Bool.eq_false_iff]
    intro e
    exact h6 (HO.out.1 e).2.1
   clear h6 hb2
   go_wp2_with fail
   go_ret
   exact ⟨rfl, B2⟩
 ·
  rw [decide_eq_false h5]
  obtain rfl : ok = false := by
   rw [Bool.eq_false_iff]
   intro e
   exact h5 (HO.out.1 e).1
  have B2 := HB.out _ (Below.refl _ _)
  clear h5 HB
  go_wp2_with fail
  go_ret
  exact ⟨rfl, B2⟩
end Go.Proofs.YtfkpncopkgidfaaGreat
