import Derived.Test.YtfkpncopkgidfaaGreatN04
import Derived.Test.YtfkpncopkgidfaaGreatN23
import Derived.Test.YtfkpncopkgidfaaGreatProg
import Derived.Lib.SmallJoins
import Derived.Shelf.LaysM
import Derived.Shelf.Strconv.Clone
namespace Go.Proofs.YtfkpncopkgidfaaGreat
open Go.RowKit
set_option linter.unusedVariables false
set_option linter.unusedSimpArgs false
def flatT (m : Nat) (c : Nat → Array Value) (j : Nat) : Value := ((c (j / m))[j % m]?).getD (.bool false)
theorem flatT_at {m : Nat} {c : Nat → Array Value} {i j : Nat} (h : j < m) (hs : (c i).size = m) : some (flatT m c (i * m + j)) = (c i)[j]? := by
 unfold flatT
 have h0 : 0 < m := by omega
 rw [Nat.add_comm (i * m) j, Nat.add_mul_div_right _ _ h0, Nat.div_eq_of_lt h, Nat.zero_add, Nat.add_mul_mod_self_right, Nat.mod_eq_of_lt h, Array.getElem?_eq_getElem (by omega)]
 rfl
theorem rdT_row {m : Nat} {w : World} {a : Option Addr} {n : Nat} {c : Nat → Array Value} (hm : 0 < m) (h : RdRow w a (n * m) (flatT m c)) (hs : ∀ i, i < n → (c i).size = m) : RdT m w a n c := by
 intro i hi
 have hlt : i * m + m ≤ n * m := by rw [← Nat.succ_mul]; exact Nat.mul_le_mul_right m hi
 obtain ⟨g, o, ha, h0⟩ := h (i * m) (by omega)
 refine ⟨hs i hi, g, o, ha, fun j hj => ?_⟩
 obtain ⟨g1, o1, ha1, h1⟩ := h (i * m + j) (by omega)
 rw [ha] at ha1
 cases ha1
 rw [flatT_at hj (hs i hi)] at h1
 rw [Nat.add_assoc]
 exact h1
theorem rowTo_putT {m : Nat} {w W : World} {g n k : Nat} {t : TypeId} {F : Nat → Value} {arr cs : Array Value} (hn : n * m ≤ arr.size) (hc : ∀ i, i < k * m → arr[i]? = some (F i)) (hlt : k < n) (hs : cs.size = m) (hcs : ∀ j, j < m → some (F (k * m + j)) = cs[j]?) (hP : Put w W g (lay arr (k * m) cs) t) : RowTo g t (n * m) F ((k + 1) * m) W := by
 have h1 : k * m + m ≤ n * m := by rw [← Nat.succ_mul]; exact Nat.mul_le_mul_right m hlt
 have hf : k * m + cs.size ≤ arr.size := by omega
 refine ⟨_, hP.blk, by rw [lay_size hf]; exact hn, fun i hi => ?_⟩
 rw [Nat.succ_mul] at hi
 by_cases e : i < k * m
 ·
  rw [lay_lo hf i e]
  exact hc i e
 ·
  have := lay_at hf (i - k * m) (by omega)
  rw [show k * m + (i - k * m) = i by omega] at this
  rw [this, ← hcs _ (by omega), show k * m + (i - k * m) = i by omega]
theorem roomT {n m k s : Nat} (h : n * m ≤ s) (hk : k < n) : k * m + m ≤ s := by
 have : k * m + m ≤ n * m := by rw [← Nat.succ_mul]; exact Nat.mul_le_mul_right m hk
 omega
theorem infoFrZ : (Tryz.prog.info? 110).map (fun i => (i.zero, i.size, i.bytes)) = some (some (.agg #[.int .i64 0, .int .i64 0, .int .i64 0, .int .i64 0, .string ⟨#[]⟩]), 5, 48) := by kernel_rfl
def zFrs (n : Nat) : Array Value := madeCells #[.int .i64 0, .int .i64 0, .int .i64 0, .int .i64 0, .string ⟨#[]⟩] (n * 5)
theorem make_Frs (n : Nat) (hn : n ≤ 1048576) (w : World) : (Instr.makeSlice 70 (.int .i64 (n : Int)) (.int .i64 (n : Int))).run Tryz.prog w = .ok (.slice (some ⟨w.heap.size, 0, none⟩) n n) (w.alloc (.cells (zFrs n) 110)) := by
 obtain ⟨i0, hi, hz0, hz1, hz2⟩ := info_parts infoFrZ
 have := run_make (P := Tryz.prog) w 70 110 i0 _ Tryz.underlying70 hi hz0 .i64 .i64 (n : Int) (n : Int) (by omega) (by omega) (by rw [hz2]; omega) (by omega)
 rw [this, hz1]
 simp [zFrs, Value.cells]
theorem infoFlZ : (Tryz.prog.info? 122).map (fun i => (i.zero, i.size, i.bytes)) = some (some (.agg #[.int .i64 0, .int .i64 0, .int .i64 0, .int .i64 0, .int .i64 0, .int .i64 0, .string ⟨#[]⟩]), 7, 64) := by kernel_rfl
theorem infoHtZ : (Tryz.prog.info? 73).map (fun i => (i.zero, i.size, i.bytes)) = some (some (.agg #[.bool false, .slice none 0 0, .slice none 0 0]), 3, 56) := by kernel_rfl
theorem infoFrL5 : (Tryz.prog.info? 102).map (·.size) = some 5 := by kernel_rfl
theorem infoFs : (Tryz.prog.info? 70).map (·.size) = some 1 := by kernel_rfl
theorem infoHs : (Tryz.prog.info? 46).map (·.size) = some 1 := by kernel_rfl
set_option maxRecDepth 10000 in
set_option maxHeartbeats 1000000 in
theorem toFrames_any (a : Option Addr) (n cap : Nat) (K : Nat → Pkt) (w : World) (hn : n ≤ 1048576) (h : RdF w a n K) :
  Calls Tryz.prog 39 #[.slice a n cap] w fun e w' => e = .returned (.slice (some ⟨w.heap.size, 0, none⟩) n n) ∧ RowTo w.heap.size 110 (n * 5) (flatT 5 fun i => (K i).frame) (n * 5) w' ∧ Below w.heap.size w w' := by
 have mk := make_Frs n hn
 have HR : Hid (RdF w a n K) := h
 clear h
 go_enter Tryz.func39, Tryz.ntmps39
 go_wp2_with fail
 clear mk
 go_loopw [4] (fun i wr => ∃ k : Nat, k ≤ n ∧ i = .int .i64 k ∧ Hid (RowTo w.heap.size 110 (n * 5) (flatT 5 fun i => (K i).frame) (k * 5) wr) ∧ Hid (Below w.heap.size w wr)) (fun i _ => n - (intOf i).toNat)
 case atStart => exact ⟨0, Nat.zero_le _, rfl, ⟨_, blk_new w _, by simp [zFrs, size_madeCells], fun i hi => by omega⟩, (Below.refl _ _).alloc (Nat.le_refl _) _⟩
 case round =>
  obtain ⟨k, hk, rfl, HT, HB⟩ := hrel
  by_cases hlt : k < n
  ·
   have hlt' : (k : Int) < n := by omega
   obtain ⟨g, o, ha, hc⟩ := (HR.out.up HB.out).at hlt
   subst ha
   have HC : Hid (∀ j, j < 5 → wr.cell? ⟨g, o + k * 5 + j, none⟩ = (K k).frame[j]?) := hc
   clear hc
   go_wp2_with (refine wpList_ldT rfl 102 5 _ Tryz.underlying102 rfl infoFrL5 (.tmp 18) rfl g (o + k * 5) rfl (K k).frame rfl HC.out ?_)
   refine (toFrame_any (K k).k (K k).d (K k).s (K k).p (K k).b _).mono ?_
   rintro e w1 ⟨rfl, hb1⟩
   have HB1 : Hid (Below w.heap.size w w1) := HB.out.trans (hb1.mono HB.out.size)
   have R1 := HT.out.keep (hb1.block _ HT.out.lt)
   obtain ⟨arr, hb2, hn2, hc2⟩ := R1
   have HG : Hid (w1.heap[w.heap.size]? = some (.cells arr 110 (0, 0))) := hb2
   have HN : Hid (n * 5 ≤ arr.size ∧ ∀ i, i < k * 5 → arr[i]? = some (flatT 5 (fun i => (K i).frame) i)) := ⟨hn2, hc2⟩
   clear hb1 HB HT HC hb2 hn2 hc2
   go_wp2_with (refine wpList_stA rfl 110 (.tmp 21) (.tmp 20) rfl w.heap.size (k * 5) (by simp [Act.eval]) (.agg (K k).frame) rfl 5 rfl 110 arr HG.out infoFr5 (by have := HN.out.1; omega) (Pkt.oneF _) ?_)
   intro W2 hP
   have HT2 : Hid (RowTo w.heap.size 110 (n * 5) (flatT 5 fun i => (K i).frame) ((k + 1) * 5) W2) := rowTo_putT HN.out.1 HN.out.2 hlt rfl (fun j hj => flatT_at hj rfl) hP
   have HB2 : Hid (Below w.heap.size w W2) := HB1.out.trans (hP.to.below HB1.out.size (fun x hx => by simp at hx; omega))
   clear hP HB1 HG HN
   go_wp2_with fail
   go_roundw
   case rel => exact ⟨k + 1, by omega, by go_num, HT2, HB2⟩
   case measure => simp [intOf]; omega
  ·
   obtain rfl : k = n := by omega
   go_wp2_with fail
   go_ret
   exact ⟨rfl, HT.out, HB.out⟩
theorem VG.frames {t : TypeId} {w : World} {base : Nat} {a : Option Addr} {n : Nat} {F : Nat → Pkt} (h : VG t w base a (n * 5) (flatT 5 fun i => (F i).frame)) : RdF w a n F := rdT_row (by omega) h.read (fun _ _ => rfl)
theorem VG.flights {t : TypeId} {w : World} {base : Nat} {a : Option Addr} {n : Nat} {F : Nat → Pkt} (h : VG t w base a (n * 7) (flatT 7 fun i => (F i).flight)) : RdV w a n F := rdT_row (by omega) h.read (fun _ _ => rfl)
theorem VG.hosts {t : TypeId} {w : World} {base : Nat} {a : Option Addr} {n : Nat} {H : Nat → Hst} (h : VG t w base a (n * 3) (flatT 3 fun i => (H i).cells)) : RdHs w a n H := rdT_row (by omega) h.read (fun _ _ => rfl)
structure AlikeF (A B : Fab) : Prop where
 s : AlikeG A.S B.S
 nH : B.nH = A.nH
 h : ∀ i, i < A.nH → AlikeH (A.H i) (B.H i)
 nU : B.nU = A.nU
 u : B.U = A.U
 nD : B.nD = A.nD
 d : B.D = A.D
theorem AlikeF.symm {A B : Fab} (h : AlikeF A B) : AlikeF B A := ⟨h.s.symm, h.nH.symm, fun i hi => (h.h i (by rw [← h.nH]; exact hi)).symm, h.nU.symm, h.u.symm, h.nD.symm, h.d.symm⟩
theorem AlikeF.trans {A B C : Fab} (h : AlikeF A B) (k : AlikeF B C) : AlikeF A C := ⟨h.s.trans k.s, k.nH.trans h.nH, fun i hi => (h.h i hi).trans (k.h i (by rw [h.nH]; exact hi)), k.nU.trans h.nU, k.u.trans h.u, k.nD.trans h.nD, k.d.trans h.d⟩
theorem AlikeF.small {A B : Fab} (h : AlikeF A B) (k : A.Small) : B.Small :=
 ⟨h.s.small k.s, by rw [h.nH]; exact k.h, fun i hi => by rw [h.nH] at hi; exact (h.h i hi).small (k.hs i hi), by rw [h.nU]; exact k.u, by rw [h.nU, h.u]; exact k.bu, by rw [h.nD]; exact k.d, by rw [h.nD, h.d]; exact k.bd⟩
theorem AlikeF.ok1 {A B : Fab} (h : AlikeF A B) (k : A.Ok) : B.Ok := by
 refine ⟨h.s.ok1 k.s, ⟨by rw [h.nH, h.s.c]; exact k.h.1, fun i hi => by rw [h.nH] at hi; exact (h.h i hi).ok1 (k.h.2 i hi)⟩, ?_, ?_⟩
 ·
  unfold Fab.upOk
  rw [h.nU, h.u, h.s.c, h.s.now]
  exact k.u
 ·
  unfold Fab.downOk
  rw [h.nD, h.d, h.s.c, h.s.now]
  exact k.d
theorem AlikeF.ok {A B : Fab} (h : AlikeF A B) : B.Ok ↔ A.Ok := ⟨h.symm.ok1, h.ok1⟩
theorem Fab.oneC (F : Fab) : F.cells.all (·.oneCell') = true := by simp [Fab.cells, Value.oneCell']
section
variable {P : Program} {ops : Array Oper} {Q : Exit → Act → World → Prop} {md : Region.Mode} {T : World → Prop} {d : Nat}
def wpAnyE (P : Program) (md : Region.Mode) (ops : Array Oper) (Q : Exit → Act → World → Prop) (T : World → Prop) (d : Nat) : Nat → Array Bool → Act → World → Prop
 | 0, listed, a, w => Region.ready md ops listed = [] ∧ Q .normal a w
 | fuel + 1, listed, a, w =>
  (Region.ready md ops listed = [] → Q .normal a w) ∧
  ∀ i ∈ Region.ready md ops listed, wpOp P ops Q i (fun a' w' => (i = d ∨ T w') ∧ wpAnyE P md ops Q T d fuel (listed.setIfInBounds i true) a' w') a w
theorem wpAny_of_E : ∀ (fuel : Nat) (listed : Array Bool) (a : Act) (w : World), wpAnyE P md ops Q T d fuel listed a w → wpAny P md ops Q fuel listed a w
 | 0, _, _, _, h => h
 | fuel + 1, _, _, _, h => ⟨h.1, fun i hi => wpOp_mono (fun a' w' h' => wpAny_of_E fuel _ a' w' h'.2) (h.2 i hi)⟩
def waitsFor (md : Region.Mode) (ops : Array Oper) (d i : Nat) : Bool := match ops[d]? with
 | some o => o.after.any fun e => Region.binds md e && e.on == i
 | none => false
theorem waitsFor_spec {i : Nat} (h : waitsFor md ops d i = true) : ∃ o, ops[d]? = some o ∧ ∃ e ∈ o.after, Region.binds md e = true ∧ e.on = i := by
 unfold waitsFor at h
 cases ho : ops[d]? with
 | none => rw [ho] at h; cases h
 | some o =>
  rw [ho] at h
  obtain ⟨e, he, h2⟩ := Array.any_eq_true'.1 h
  simp only [Bool.and_eq_true, beq_iff_eq] at h2
  exact ⟨o, rfl, e, he, h2.1, h2.2⟩
theorem not_ready {i : Nat} {listed : Array Bool} (h : waitsFor md ops d i = true) (hr : i ∈ Region.ready md ops listed) : d ∉ Region.ready md ops listed := by
 intro hd
 obtain ⟨o, ho, e, he, hb, hon⟩ := waitsFor_spec h
 obtain ⟨hjun, oj, hoj, hall⟩ := mem_ready.1 hd
 rw [ho] at hoj
 cases hoj
 have h1 := hall e he hb
 have h0 := (mem_ready.1 hr).1
 rw [hon] at h1
 rcases Nat.lt_or_ge i listed.size with h' | h'
 ·
  simp [h'] at h0 h1; rw [h0] at h1; cases h1
 ·
  simp [Array.getElem?_eq_none h'] at h1
theorem wpAnyE_first {i : Nat} {oi : Oper} {v : Value} (hi : ops[i]? = some oi) (hsel : ∀ (j : Nat) (o : Oper) cs b, ops[j]? = some o → o.op ≠ .select cs b)
  (hQ : ∀ c a w, Q (.panic c) (a.put oi.dst v) w → Q (.panic c) a w) (hd : waitsFor md ops d i = true) :
  ∀ (fuel : Nat) (listed : Array Bool) (a : Act) (w : World),
   (∀ j oj, ops[j]? = some oj → j ≠ i → listed.getD j true = false → (∀ e ∈ oj.after, Region.binds md e = true → e.on ≠ i) → oi.apart ops oj = true) →
   i ∈ Region.ready md ops listed → YieldsIf P ops T oi v a → T w →
   wpAnyE P md ops Q T d fuel (listed.setIfInBounds i true) (a.put oi.dst v) w → wpAnyE P md ops Q T d (fuel + 1) listed a w := by
 intro fuel
 induction fuel with
 | zero =>
  intro listed a w _ hr hy hS H
  refine ⟨fun h => (by rw [h] at hr; cases hr), fun j hj => ?_⟩
  by_cases hji : j = i
  ·
   subst hji; exact hy.wpOp hi hS ⟨.inr hS, H⟩
  ·
   have := ready_mono hj hji
   rw [H.1] at this
   cases this
 | succ fuel ih =>
  intro listed a w hfree hr hy hS H
  refine ⟨fun h => (by rw [h] at hr; cases hr), fun j hj => ?_⟩
  by_cases hji : j = i
  ·
   subst hji; exact hy.wpOp hi hS ⟨.inr hS, H⟩
  ·
   have h1 := H.2 j (ready_mono hj hji)
   have hjd : j ≠ d := fun e => not_ready hd hr (e ▸ hj)
   obtain ⟨hjun, oj, hoj, hall⟩ := mem_ready.1 hj
   have hnot : ∀ e ∈ oj.after, Region.binds md e = true → e.on ≠ i := fun e he hb heq => by
    have h1 := hall e he hb
    have h0 := (mem_ready.1 hr).1
    rw [heq] at h1
    rcases Nat.lt_or_ge i listed.size with h' | h'
    ·
     simp [h'] at h0 h1; rw [h0] at h1; cases h1
    ·
     simp [Array.getElem?_eq_none h'] at h1
   have h2 := wpOp_putIf hoj (hfree j oj hoj hji hjun hnot) (fun cs b => hsel i oi cs b hi) (fun cs b => hsel j oj cs b hoj) hQ hy h1
   have hfree' : ∀ k ok, ops[k]? = some ok → k ≠ i → (listed.setIfInBounds j true).getD k true = false →
     (∀ e ∈ ok.after, Region.binds md e = true → e.on ≠ i) → oi.apart ops ok = true := fun k ok hk hki hun hno => by
    refine hfree k ok hk hki ?_ hno
    by_cases hjk : j = k
    ·
     subst hjk; exact hjun
    ·
     rw [getD_set_ne true hjk] at hun; exact hun
   refine wpOp_mono (fun a' w' h3 => ?_) h2
   have hT : T w' := h3.2.1.resolve_left hjd
   refine ⟨.inr hT, ih (listed.setIfInBounds j true) a' w' hfree' (ready_mono hr (Ne.symm hji)) h3.1 hT ?_⟩
   rw [Array.setIfInBounds_comm _ _ hji]
   exact h3.2.2
theorem takeE {i : Nat} (dd : Option Tmp) {oi : Oper} {v : Value} {fuel : Nat} {listed : Array Bool} {a : Act} {w : World} (hy : ∀ w, T w → (execOp a.eval oi).run P w = .ok (.value v) w) (hS : T w)
  (h : wpAnyE P md ops Q T d fuel (listed.setIfInBounds i true) (a.put dd v) w) (hi : ops[i]? = some oi := by rfl) (hd : oi.dst = dd := by rfl) (hwt : waitsFor md ops d i = true := by kernel_rfl)
  (hs : Region.noSelect ops = true := by kernel_rfl) (hf : Region.free md ops listed i = true := by kernel_rfl) (hr : (Region.ready md ops listed).contains i = true := by kernel_rfl)
  (hQ : ∀ c a w, Q (.panic c) (a.put dd v) w → Q (.panic c) a w := by exact fun _ _ _ h => h) (hw : Region.wanted oi (yielded ops a.tmps) = true := by kernel_rfl) : wpAnyE P md ops Q T d (fuel + 1) listed a w := by
 subst hd
 exact wpAnyE_first hi (Region.noSelect_spec hs) hQ hwt fuel listed a w (Region.free_spec hi hf) (by simpa using hr) (Or.inl ⟨hw, hy⟩) hS h
def AllReadyE (P : Program) (md : Region.Mode) (ops : Array Oper) (Q : Exit → Act → World → Prop) (T : World → Prop) (d fuel : Nat) (listed : Array Bool) (a : Act) (w : World) (rs : List Nat) : Prop :=
 ∀ i ∈ rs, wpOp P ops Q i (fun a' w' => (i = d ∨ T w') ∧ wpAnyE P md ops Q T d fuel (listed.setIfInBounds i true) a' w') a w
theorem AllReadyE.nil {fuel : Nat} {listed : Array Bool} {a : Act} {w : World} : AllReadyE P md ops Q T d fuel listed a w [] := fun _ h => by cases h
theorem AllReadyE.cons {fuel : Nat} {listed : Array Bool} {a : Act} {w : World} {i : Nat} {o : Oper} {rs : List Nat} (ho : ops[i]? = some o)
  (h : ∀ K' : Act → World → Prop, Shut (∀ a w, T w → wpAnyE P md ops Q T d fuel (listed.setIfInBounds i true) a w → K' a w) → if Region.wanted o (yielded ops a.tmps) = true then Oper.wp P o a w K' Q else K' (a.put o.dst undef) w)
  (hs : AllReadyE P md ops Q T d fuel listed a w rs) : AllReadyE P md ops Q T d fuel listed a w (i :: rs) := fun j hj => by
 rcases List.mem_cons.1 hj with rfl | hj
 ·
  exact wpOp_step ho (fun K' hK => h K' (fun a w hS hW => hK a w ⟨.inr hS, hW⟩))
 ·
  exact hs j hj
theorem AllReadyE.last {fuel : Nat} {listed : Array Bool} {a : Act} {w : World} {o : Oper} (ho : ops[d]? = some o)
  (h : ∀ K' : Act → World → Prop, Shut (∀ a w, wpAnyE P md ops Q T d fuel (listed.setIfInBounds d true) a w → K' a w) → if Region.wanted o (yielded ops a.tmps) = true then Oper.wp P o a w K' Q else K' (a.put o.dst undef) w) : AllReadyE P md ops Q T d fuel listed a w [d] := fun j hj => by
 obtain rfl := List.mem_singleton.1 hj
 exact wpOp_step ho (fun K' hK => h K' (fun a w hW => hK a w ⟨.inl rfl, hW⟩))
theorem wpAnyE_ready {rs : List Nat} {fuel : Nat} {listed : Array Bool} {a : Act} {w : World} (hr : Region.ready md ops listed = rs) (hne : rs ≠ [])
  (h : AllReadyE P md ops Q T d fuel listed a w rs) : wpAnyE P md ops Q T d (fuel + 1) listed a w :=
 ⟨fun h0 => absurd (hr ▸ h0) hne, hr ▸ h⟩
theorem wpAnyE_done {listed : Array Bool} {a : Act} {w : World} (hr : Region.ready md ops listed = []) (h : Q .normal a w) :
  ∀ fuel, wpAnyE P md ops Q T d fuel listed a w
 | 0 => ⟨hr, h⟩
 | _ + 1 => ⟨fun _ => h, by rw [hr]; simp⟩
theorem wp_region_E {id : Nat} {a : Act} {w : World} (T : World → Prop) (d : Nat) (hm : P.follows .mixedOrders = true)
  (h : wpAnyE P .any ops Q T d ops.size (Array.replicate ops.size false) a w.drew) : (Code.region id ops true).wp P Q a w :=
 wp_region_any hm (wpAny_of_E _ _ _ _ h)
end
theorem wp_stE {o : Oper} {a : Act} {K : Act → World → Prop} {Q : Exit → Act → World → Prop} {w : World} {c : Prop} [Decidable c] {E : Prop} (hc : c) (dd : Option Tmp) (hd : o.dst = dd) (ty : TypeId) (x y : Operand) (ho : o.op = .store ty x y) (g off : Nat) (hx : a.eval x = .pointer (some ⟨g, off, none⟩))
  (v : Value) (hy : a.eval y = v) (n : Nat) (hn : v.cells.size = n) (t : TypeId) (cur : Array Value) (hg : w.heap[g]? = some (.cells cur t (0, 0))) (hi : (Tryz.prog.info? ty).map (·.size) = some n) (hf : off + n ≤ cur.size) (h1 : v.cells.all (·.oneCell') = true)
  (h : ∀ W, Put w W g (lay cur off v.cells) t → K (a.put dd undef) W) : if c then o.wp Tryz.prog a w K Q else E := by
 subst hd
 subst hn
 rw [if_pos hc]
 unfold Oper.wp execOp
 simp only [ho, hx, hy, Instr.storeAt, Instr.sureAddr, Sem.run_bind, Sem.run_pure, Result.andThen_ok, run_storeVar_at w g off t ty cur v hg hi hf h1]
 exact h _ (put_setRow hg _)
theorem wp_appE {o : Oper} {a : Act} {K : Act → World → Prop} {Q : Exit → Act → World → Prop} {W W' : World} {c : Prop} [Decidable c] {E : Prop} (hc : c) (dd : Option Tmp) (hd : o.dst = dd) (s x : Operand) (t : TypeId) (vs vx v : Value)
  (ho : o.op = .call { callee := .builtin .append, args := #[s, x], argTypes := #[t, t] }) (hty : o.type = t) (hs : a.eval s = vs) (hx : a.eval x = vx)
  (hr : (Builtin.append_ #[t, t] t #[vs, vx]).run Tryz.prog W = .ok v W') (h : K (a.put dd v) W') : if c then o.wp Tryz.prog a W K Q else E := by
 subst hd
 exact wp_appR hc s x t vs vx v ho hty hs hx hr h
theorem appendNone {W : World} {v : Value} {c : Nat} {base : Nat} (h : W.ownsRow base 2 1 v 0 []) :
  (Builtin.append_ #[25, 25] 25 #[v, .slice none 0 c]).run Tryz.prog W = .ok v W := by
 obtain ⟨i0, hi, hz0, hz1, hz2⟩ := info_parts info2
 rcases h.2 with ⟨rfl, _⟩ | ⟨g, cap, cur, rfl, _⟩
 ·
  simp [Builtin.append_, run_underlying Tryz.underlying25, sizeOf, typeInfo, hi, Builtin.lenOf, Builtin.firstCells, loadCells, loadCellsFrom]
 ·
  simp [Builtin.append_, run_underlying Tryz.underlying25, sizeOf, typeInfo, hi, Builtin.lenOf, Builtin.firstCells, loadCells, loadCellsFrom, storeCells]
def OI (w : World) (base : Nat) (a : Option Addr) (n c : Nat) (f : Nat → Int) : Prop := w.ownsRow base 2 1 (.slice a n c) n (intsV n f)
def blkO (a : Option Addr) : List Nat := (a.map (·.block)).toList
theorem blkI_sub {a : Option Addr} {n x : Nat} (h : x ∈ blkI a n) : x ∈ blkO a := by
 unfold blkI at h
 split at h
 ·
  simp at h
 ·
  exact h
theorem OI.vi {w : World} {base : Nat} {a : Option Addr} {n c : Nat} {f : Nat → Int} (h : OI w base a n c f) : VI w base a n f := by
 obtain ⟨a', c', e, hv⟩ := own_vi h
 cases e
 exact hv
theorem OI.up {w w' : World} {base : Nat} {a : Option Addr} {n c : Nat} {f : Nat → Int} (h : OI w base a n c f) (hb : Below w.heap.size w w') : OI w' base a n c f := by
 refine ⟨h.1, h.2.imp id ?_⟩
 rintro ⟨g, cap, cur, e, hg, hbk, hr⟩
 exact ⟨g, cap, cur, e, hg, (hb.block g (blk_lt hbk)).trans hbk, hr⟩
theorem OI.touchT {w w' : World} {base : Nat} {a : Option Addr} {n c : Nat} {f : Nat → Int} {S : List Nat} (h : OI w base a n c f) (ht : Touch S w w') (hS : ∀ g arr, w.heap[g]? = some (.cells arr 2 (0, 0)) → g ∉ S) : OI w' base a n c f := by
 refine ⟨h.1, h.2.imp id ?_⟩
 rintro ⟨g, cap, cur, e, hg, hbk, hr⟩
 exact ⟨g, cap, cur, e, hg, (ht.block g (blk_lt hbk) (hS g cur hbk)).trans hbk, hr⟩
theorem OI.blk {w : World} {base : Nat} {a : Option Addr} {n c : Nat} {f : Nat → Int} (h : OI w base a n c f) : ∀ x ∈ blkO a, base ≤ x ∧ x < w.heap.size := by
 intro x hx
 rcases h.2 with ⟨e, _⟩ | ⟨g, cap, cur, e, hg, hbk, _⟩
 ·
  cases e
  simp [blkO] at hx
 ·
  cases e
  simp [blkO] at hx
  subst hx
  exact ⟨hg, blk_lt hbk⟩
theorem OI.mono {w : World} {base base' : Nat} {a : Option Addr} {n c : Nat} {f : Nat → Int} (h : OI w base a n c f) (hb : base' ≤ base) : OI w base' a n c f := by
 refine ⟨h.1, h.2.imp id ?_⟩
 rintro ⟨g, cap, cur, e, hg, hr⟩
 exact ⟨g, cap, cur, e, by omega, hr⟩
theorem appendA {W : World} {base : Nat} {v : Value} {a : Option Addr} {n c : Nat} {f : Nat → Int} (h : W.ownsRow base 2 1 v 0 []) (hb : base ≤ W.heap.size) (hn : n ≤ 1048576) (hr : RdRow W a n fun i => .int .i64 (f i)) :
  ∃ a' c' W', (Builtin.append_ #[25, 25] 25 #[v, .slice a n c]).run Tryz.prog W = .ok (.slice a' n c') W' ∧ OI W' base a' n c' f ∧ W.grownBy W' v.ownBlock ∧ (∀ x ∈ blkO a', some x = v.ownBlock ∨ x = W.heap.size) := by
 have fin : ∀ (v' : Value) (W' : World), W'.ownsRow base 2 1 v' n (intsV n f) → (v'.ownBlock = v.ownBlock ∨ v'.ownBlock = some W.heap.size) → ∃ a' c', v' = .slice a' n c' ∧ OI W' base a' n c' f ∧ (∀ x ∈ blkO a', some x = v.ownBlock ∨ x = W.heap.size) := by
  intro v' W' h2 h5
  obtain ⟨a', c', rfl, hv⟩ := own_vi h2
  refine ⟨a', c', rfl, h2, fun x hx => ?_⟩
  cases a' with
  | none => simp [blkO] at hx
  | some ad =>
   simp [blkO] at hx
   subst hx
   rcases h5 with h5 | h5
   ·
    exact .inl (by rw [← h5]; rfl)
   ·
    right
    simpa [Value.ownBlock] using h5
 by_cases h0 : n = 0
 ·
  subst h0
  cases a with
  | none =>
   obtain ⟨a', c', rfl, hv, hx⟩ := fin v W (by simpa [intsV] using h) (.inl rfl)
   exact ⟨a', c', W, appendNone h, hv, ⟨rfl, rfl, rfl, Nat.le_refl _, fun _ _ _ => rfl⟩, hx⟩
  | some ad =>
   obtain ⟨i0, hi, hz0, hz1, hz2⟩ := info_parts info2
   obtain ⟨v', w', hr', h2, h3, h4, h5⟩ := run_append_own_at (P := Tryz.prog) W base 25 25 2 i0 (.int .i64 0) 1 8 Tryz.underlying25 hi hz0 hz1 hz2 rfl (by decide) v 0 [] h ad 0 c [] rfl (fun j u hj => by simp at hj) (fun u hu => by simp at hu) (by unfold maxLen; omega) (by omega) hb
   obtain ⟨a', c', rfl, hv, hx⟩ := fin v' w' (by simpa [intsV] using h2) h5
   exact ⟨a', c', w', hr', hv, h3, hx⟩
 ·
  obtain ⟨g, q, rfl, _⟩ := hr 0 (by omega)
  obtain ⟨i0, hi, hz0, hz1, hz2⟩ := info_parts info2
  obtain ⟨v', w', hr', h2, h3, h4, h5⟩ := run_append_own_at (P := Tryz.prog) W base 25 25 2 i0 (.int .i64 0) 1 8 Tryz.underlying25 hi hz0 hz1 hz2 rfl (by decide) v 0 [] h ⟨g, q, none⟩ n c (intsV n f) (by rw [intsV_len]; omega) (fun j u hj => by
   obtain ⟨hjn, rfl⟩ := intsV_get hj
   have e : (⟨g, q, none⟩ : Addr).add j = ⟨g, q + j, none⟩ := by unfold Addr.add; split <;> simp_all
   rw [e]
   obtain ⟨g', o', e, hc⟩ := hr j hjn
   cases e
   exact hc) (fun u hu => by
   obtain ⟨j, _, rfl⟩ := List.mem_map.1 hu
   rfl) (by unfold maxLen; omega) (by omega) hb
  rw [Nat.zero_add, List.nil_append] at h2
  obtain ⟨a', c', rfl, hv, hx⟩ := fin v' w' h2 h5
  exact ⟨a', c', w', hr', hv, h3, hx⟩
theorem copyOfA_any (a : Option Addr) (n cap : Nat) (f : Nat → Int) (w : World) (hn : n ≤ 1048576) (h : RdRow w a n fun i => .int .i64 (f i)) :
  Calls Tryz.prog 165 #[.slice a n cap] w fun e w' => ∃ a' c', e = .returned (.slice a' n c') ∧ OI w' w.heap.size a' n c' f ∧ Below w.heap.size w w' := by
 obtain ⟨a', c', W', hr, hv, hg, hp⟩ := appendA (W := w) (base := w.heap.size) (v := .slice none 0 0) (c := cap) (World.ownsRow_nil _ _ _ _) (Nat.le_refl _) hn h
 have hB : Below w.heap.size w W' := (Below.refl _ _).grown hg (Nat.le_refl _) (fun k e => by simp [Value.ownBlock] at e)
 have HV : Hid (OI W' w.heap.size a' n c' f) := hv
 clear hv hg hp h
 go_enter Tryz.func165, Tryz.ntmps165
 go_wp2_with (at_builtin; refine Lib.wpList_append_run _ rfl _ _ _ _ rfl _ _ rfl rfl _ _ hr ?_)
 go_ret
 exact ⟨_, _, rfl, HV.out, hB⟩
theorem apart_old {W W' : World} {base b2 : Nat} {a a' : Option Addr} {n n' : Nat} {f f' : Nat → Int} (h : VI W base a n f) (h' : VI W' b2 a' n' f') (hb : W.heap.size ≤ b2) : apartI a n a' n' := by
 intro x hx hy
 have h1 := (h.blk x hx).2
 have h2 := (h'.blk x hy).1
 omega
theorem apart_oldO {W W' : World} {base b2 : Nat} {a a' : Option Addr} {n n' c' : Nat} {f f' : Nat → Int} (h : VI W base a n f) (h' : OI W' b2 a' n' c' f') (hb : W.heap.size ≤ b2) : ∀ x ∈ blkI a n, x ∉ blkO a' := by
 intro x hx hy
 have h1 := (h.blk x hx).2
 have h2 := (h'.blk x hy).1
 omega
theorem apart_oldOO {W W' : World} {base b2 : Nat} {a a' : Option Addr} {n c n' c' : Nat} {f f' : Nat → Int} (h : OI W base a n c f) (h' : OI W' b2 a' n' c' f') (hb : W.heap.size ≤ b2) : ∀ x ∈ blkO a, x ∉ blkO a' := by
 intro x hx hy
 have h1 := (h.blk x hx).2
 have h2 := (h'.blk x hy).1
 omega
structure Cp (R : Rnd) (base : Nat) (W : World) (aQ : Option Addr) (aD : Option Addr) (gS : Nat) (A : Nat → Option Addr) (C : Nat → Nat) (k : Nat) : Prop where
 q : VI W base aQ R.nQ R.q
 d : VI W base aD R.nD R.d
 s : VS W base (some ⟨gS, 0, none⟩) R.nS fun i => if i < k then .slice (A i) (R.L i) (C i) else .slice none 0 0
 z : ∀ i, i < k → OI W base (A i) (R.L i) (C i) (R.z i)
 qd : apartI aQ R.nQ aD R.nD
 qz : ∀ i, i < k → ∀ x ∈ blkI aQ R.nQ, x ∉ blkO (A i)
 dz : ∀ i, i < k → ∀ x ∈ blkI aD R.nD, x ∉ blkO (A i)
 zz : ∀ i j, i < k → j < k → i ≠ j → ∀ x ∈ blkO (A i), x ∉ blkO (A j)
theorem Cp.up {R : Rnd} {base : Nat} {W W' : World} {aQ aD : Option Addr} {gS : Nat} {A : Nat → Option Addr} {C : Nat → Nat} {k : Nat} (h : Cp R base W aQ aD gS A C k) (hb : Below W.heap.size W W') : Cp R base W' aQ aD gS A C k :=
 ⟨h.q.up hb, h.d.up hb, h.s.up hb, fun i hi => (h.z i hi).up hb, h.qd, h.qz, h.dz, h.zz⟩
theorem Cp.next {R : Rnd} {base : Nat} {W W' : World} {aQ aD : Option Addr} {gS : Nat} {A : Nat → Option Addr} {C : Nat → Nat} {k : Nat} {a' : Option Addr} {c' : Nat} (h : Cp R base W aQ aD gS A C k) (hk : k < R.nS) (hb : Below W.heap.size W W') (hB : base ≤ W.heap.size)
  (hv : OI W' W.heap.size a' (R.L k) c' (R.z k)) : Cp R base (W'.setCell ⟨gS, k, none⟩ (.slice a' (R.L k) c')) aQ aD gS (fun i => if i = k then a' else A i) (fun i => if i = k then c' else C i) (k + 1) := by
 have h1 := h.up hb
 rcases h1.s with h0 | ⟨g, hg, hbg, hr⟩
 ·
  omega
 cases hg
 have ht : Touch [gS] W' (W'.setCell ⟨gS, k, none⟩ (.slice a' (R.L k) c')) := (Touch.refl _ _).set (by simp) k _
 have key : ∀ {a : Option Addr} {n b2 : Nat} {f : Nat → Int}, VI W' b2 a n f → VI (W'.setCell ⟨gS, k, none⟩ (.slice a' (R.L k) c')) b2 a n f := fun hv => hv.touchS ht (fun x hx hx2 => by
  simp at hx2
  subst hx2
  obtain ⟨arr, h2, _⟩ := hr
  exact notInI hv (by decide) h2 hx)
 have keyO : ∀ {a : Option Addr} {n c b2 : Nat} {f : Nat → Int}, OI W' b2 a n c f → OI (W'.setCell ⟨gS, k, none⟩ (.slice a' (R.L k) c')) b2 a n c f := fun hv => hv.touchT ht (fun g arr hg hx2 => by
  simp at hx2
  subst hx2
  obtain ⟨arr', h2, _⟩ := hr
  rw [hg] at h2
  simp at h2)
 refine ⟨key h1.q, key h1.d, .inr ⟨gS, rfl, hbg, ?_⟩, fun i hi => ?_, h.qd, fun i hi => ?_, fun i hi => ?_, fun i j hi hj hne => ?_⟩
 ·
  obtain ⟨arr, h2, h3, h4⟩ := hr
  refine ⟨_, blk_set h2 _, by simpa using h3, fun i hi => ?_⟩
  by_cases e : i = k
  ·
   subst e
   dsimp only
   rw [if_pos (show i < i + 1 by omega), if_pos rfl, if_pos rfl]
   exact Array.getElem?_setIfInBounds_self_of_lt (by omega)
  ·
   rw [Array.getElem?_setIfInBounds_ne (by omega), h4 i hi]
   show some (if i < k then _ else _) = some (if i < k + 1 then _ else _)
   by_cases h5 : i < k
   ·
    rw [if_pos h5, if_pos (by omega), if_neg e, if_neg e]
   ·
    rw [if_neg h5, if_neg (by omega)]
 ·
  by_cases e : i = k
  ·
   subst e
   simp only [if_true]
   exact (keyO hv).mono hB
  ·
   simp only [if_neg e]
   exact keyO (h1.z i (by omega))
 ·
  by_cases e : i = k
  ·
   subst e
   simp only [if_true]
   exact apart_oldO h.q hv (Nat.le_refl _)
  ·
   simp only [if_neg e]
   exact h.qz i (by omega)
 ·
  by_cases e : i = k
  ·
   subst e
   simp only [if_true]
   exact apart_oldO h.d hv (Nat.le_refl _)
  ·
   simp only [if_neg e]
   exact h.dz i (by omega)
 ·
  by_cases e : i = k
  ·
   subst e
   simp only [if_true, if_neg (Ne.symm hne)]
   exact fun x hx hy => apart_oldOO (h.z j (by omega)) hv (Nat.le_refl _) x hy hx
  ·
   by_cases e2 : j = k
   ·
    subst e2
    simp only [if_true, if_neg e]
    exact apart_oldOO (h.z i (by omega)) hv (Nat.le_refl _)
   ·
    simp only [if_neg e, if_neg e2]
    exact h.zz i j (by omega) (by omega) hne
def Rnd.cp (R : Rnd) (aQ : Option Addr) (cQ : Nat) (aD : Option Addr) (cD gS : Nat) (A : Nat → Option Addr) (C : Nat → Nat) : Rnd :=
 ⟨aQ, R.nQ, cQ, R.q, aD, R.nD, cD, R.d, R.turn, R.fresh, some ⟨gS, 0, none⟩, R.nS, R.nS, A, R.L, C, R.z⟩
structure OwnRz (w : World) (base : Nat) (R : Rnd) : Prop where
 own : OwnRn w base R
 z : ∀ i, i < R.nS → OI w base (R.A i) (R.L i) (R.C i) (R.z i)
 qz : ∀ i, i < R.nS → ∀ x ∈ blkI R.aQ R.nQ, x ∉ blkO (R.A i)
 dz : ∀ i, i < R.nS → ∀ x ∈ blkI R.aD R.nD, x ∉ blkO (R.A i)
 zz : ∀ i j, i < R.nS → j < R.nS → i ≠ j → ∀ x ∈ blkO (R.A i), x ∉ blkO (R.A j)
theorem Cp.own {R : Rnd} {base : Nat} {W : World} {aQ aD : Option Addr} {gS : Nat} {A : Nat → Option Addr} {C : Nat → Nat} (h : Cp R base W aQ aD gS A C R.nS) (cQ cD : Nat) : OwnRz W base (R.cp aQ cQ aD cD gS A C) :=
 ⟨⟨h.q, h.d, h.s.imp id (by
  rintro ⟨g, ha, hg, hr⟩
  exact ⟨g, ha, hg, hr.ext (fun i hi => by rw [if_pos hi]; rfl)⟩), fun i hi => (h.z i hi).vi, h.qd, fun i hi x hx hy => h.qz i hi x hx (blkI_sub hy), fun i hi x hx hy => h.dz i hi x hx (blkI_sub hy), fun i j hi hj hne x hx hy => h.zz i j hi hj hne x (blkI_sub hx) (blkI_sub hy)⟩, h.z, h.qz, h.dz, h.zz⟩
theorem OwnRz.touch {w w' : World} {base : Nat} {R : Rnd} {S : List Nat} (h : OwnRz w base R) (ht : Touch S w w') (hS : ∀ x ∈ S, x < base) : OwnRz w' base R :=
 ⟨h.own.touch ht hS, fun i hi => by
  refine ⟨(h.z i hi).1, (h.z i hi).2.imp id ?_⟩
  rintro ⟨g, cap, cur, e, hg, hbk, hr⟩
  exact ⟨g, cap, cur, e, hg, (ht.block g (blk_lt hbk) (fun hx => by have := hS g hx; omega)).trans hbk, hr⟩, h.qz, h.dz, h.zz⟩
theorem OwnRz.mono {w : World} {base base' : Nat} {R : Rnd} (h : OwnRz w base R) (hb : base' ≤ base) : OwnRz w base' R := ⟨h.own.mono hb, fun i hi => (h.z i hi).mono hb, h.qz, h.dz, h.zz⟩
def OG (t : TypeId) (sz : Nat) (w : World) (base : Nat) (a : Option Addr) (n c : Nat) (xs : List Value) : Prop := w.ownsRow base t sz (.slice a n c) n xs
section
variable {t : TypeId} {sz : Nat} {w w' : World} {base base' : Nat} {a : Option Addr} {n c : Nat} {xs : List Value} {S : List Nat}
theorem OG.up (h : OG t sz w base a n c xs) (hb : Below w.heap.size w w') : OG t sz w' base a n c xs := by
 refine ⟨h.1, h.2.imp id ?_⟩
 rintro ⟨g, cap, cur, e, hg, hbk, hr⟩
 exact ⟨g, cap, cur, e, hg, (hb.block g (blk_lt hbk)).trans hbk, hr⟩
theorem OG.mono (h : OG t sz w base a n c xs) (hb : base' ≤ base) : OG t sz w base' a n c xs := by
 refine ⟨h.1, h.2.imp id ?_⟩
 rintro ⟨g, cap, cur, e, hg, hr⟩
 exact ⟨g, cap, cur, e, by omega, hr⟩
theorem OG.blk (h : OG t sz w base a n c xs) : ∀ x ∈ blkO a, base ≤ x ∧ x < w.heap.size := by
 intro x hx
 rcases h.2 with ⟨e, _⟩ | ⟨g, cap, cur, e, hg, hbk, _⟩
 ·
  cases e
  simp [blkO] at hx
 ·
  cases e
  simp [blkO] at hx
  subst hx
  exact ⟨hg, blk_lt hbk⟩
theorem OG.type (h : OG t sz w base a n c xs) : ∀ x ∈ blkO a, ∃ cs, w.heap[x]? = some (.cells cs t (0, 0)) := by
 intro x hx
 rcases h.2 with ⟨e, _⟩ | ⟨g, cap, cur, e, hg, hbk, _⟩
 ·
  cases e
  simp [blkO] at hx
 ·
  cases e
  simp [blkO] at hx
  subst hx
  exact ⟨cur, hbk⟩
theorem OG.touchS (h : OG t sz w base a n c xs) (ht : Touch S w w') (hp : ∀ x ∈ blkO a, x ∉ S) : OG t sz w' base a n c xs := by
 refine ⟨h.1, ?_⟩
 rcases h.2 with h2 | ⟨g, cap, cur, e, hg, hbk, hr⟩
 ·
  exact .inl h2
 ·
  cases e
  exact .inr ⟨g, c, cur, rfl, hg, (ht.block g (blk_lt hbk) (hp g (by simp [blkO]))).trans hbk, hr⟩
theorem OG.low (h : OG t sz w base a n c xs) (ht : Touch S w w') (hS : ∀ x ∈ S, x < base) : OG t sz w' base a n c xs :=
 h.touchS ht (fun x hx hy => by have := (h.blk x hx).1; have := hS x hy; omega)
theorem OG.notT (h : OG t sz w base a n c xs) {g : Nat} {cs : Array Value} {t' : TypeId} (hne : t ≠ t') (hg : w.heap[g]? = some (.cells cs t' (0, 0))) : g ∉ blkO a := by
 intro hx
 obtain ⟨cs', h1⟩ := h.type g hx
 rw [hg] at h1
 simp at h1
 exact hne h1.2.symm
theorem OG.vg {f : Nat → Value} (h : OG t sz w base a n c xs) (hf : ∀ i, i < n * sz → xs[i]? = some (f i)) : VG t w base a (n * sz) f := by
 rcases h.2 with ⟨e, h0⟩ | ⟨g, cap, cur, e, hg, hbk, hn, hm, hs, ht⟩
 ·
  exact .inl (by rw [h0]; simp)
 ·
  cases e
  refine .inr ⟨g, 0, rfl, hg, cur, hbk, ?_, fun i hi => ?_⟩
  ·
   rw [hs, Nat.zero_add]
   exact Nat.mul_le_mul_right _ hn
  ·
   rw [Nat.zero_add, ← Array.getElem?_toList, ← List.getElem?_take_of_lt hi, ht]
   exact hf i hi
theorem OG.vt {f : Nat → Value} (h : OG t sz w base a n c xs) (hf : ∀ i, i < n * sz → xs[i]? = some (f i)) : VT t w base a (n * sz) f := by
 rcases h.2 with ⟨e, h0⟩ | ⟨g, cap, cur, e, hg, hbk, hn, hm, hs, ht⟩
 ·
  exact .inl (by rw [h0]; simp)
 ·
  cases e
  refine .inr ⟨g, rfl, hg, cur, hbk, ?_, fun i hi => ?_⟩
  ·
   rw [hs]
   exact Nat.mul_le_mul_right _ hn
  ·
   rw [← Array.getElem?_toList, ← List.getElem?_take_of_lt hi, ht]
   exact hf i hi
end
theorem OG.apart {t t' : TypeId} {sz sz' : Nat} {w : World} {base base' : Nat} {a a' : Option Addr} {n n' c c' : Nat} {xs xs' : List Value} (h : OG t sz w base a n c xs) (k : OG t' sz' w base' a' n' c' xs') (hne : t ≠ t') : ∀ x ∈ blkO a, x ∉ blkO a' := by
 intro x hx hy
 obtain ⟨cs, h1⟩ := h.type x hx
 obtain ⟨cs', h2⟩ := k.type x hy
 rw [h1] at h2
 simp at h2
 exact hne h2.2
theorem OG.nil (t : TypeId) (sz : Nat) (w : World) (base : Nat) : OG t sz w base none 0 0 [] := World.ownsRow_nil _ _ _ _
theorem intsV_z (n : Nat) (f : Nat → Int) (i : Nat) (h : i < n) : (intsV n f)[i]? = some (.int .i64 (f i)) := by
 unfold intsV
 rw [List.getElem?_map, List.getElem?_range h]
 rfl
theorem OI.vgI {w : World} {base : Nat} {a : Option Addr} {n c : Nat} {f : Nat → Int} (h : OI w base a n c f) : VG 2 w base a n fun i => .int .i64 (f i) := by
 have h2 : OG 2 1 w base a n c (intsV n f) := h
 have := h2.vg (f := fun i => .int .i64 (f i)) (fun i hi => intsV_z n f i (by omega))
 rwa [Nat.mul_one] at this
theorem OI.touchS {w w' : World} {base : Nat} {a : Option Addr} {n c : Nat} {f : Nat → Int} {S : List Nat} (h : OI w base a n c f) (ht : Touch S w w') (hp : ∀ x ∈ blkO a, x ∉ S) : OI w' base a n c f := OG.touchS (t := 2) (sz := 1) h ht hp
theorem Touch.ofGrown {w w' : World} {v : Value} {a : Option Addr} {n c : Nat} (h : w.grownBy w' (Value.slice a n c).ownBlock) : Touch (blkO a) w w' :=
 ⟨h.os, h.tape, h.output, h.size, fun k hk hn => h.block k hk (fun e => hn (by
  cases a with
  | none => simp [Value.ownBlock] at e
  | some x => simp [Value.ownBlock] at e; simp [blkO, e]))⟩
theorem appendOG {w : World} {base : Nat} {a : Option Addr} {n c : Nat} {xs : List Value} (t e : TypeId) (z : Value) (sz bytes : Nat) (hinfo : (Tryz.prog.info? e).map (fun i => (i.zero, i.size, i.bytes)) = some (some z, sz, bytes)) (hu : Tryz.prog.underlying t = some (.slice e)) (hz : z.cells.size = sz) (hsz : 0 < sz) (hby : bytes ≤ 1000)
  (h : OG e sz w base a n c xs) (hl : n ≤ 1048576) (hb : base ≤ w.heap.size) (cs : Array Value) (hcs : cs.size = sz) (h1 : cs.all (·.oneCell') = true) :
  ∃ g c' W, (Builtin.append_ #[t, t] t #[.slice a n c, .slice (some ⟨w.heap.size, 0, none⟩) 1 1]).run Tryz.prog (w.alloc (.cells cs e)) = .ok (.slice (some ⟨g, 0, none⟩) (n + 1) c') W ∧ OG e sz W base (some ⟨g, 0, none⟩) (n + 1) c' (xs ++ cs.toList) ∧ Touch (blkO a) w W ∧ (g ∈ blkO a ∨ w.heap.size ≤ g) := by
 obtain ⟨i0, hi, hz0, hz1, hz2⟩ := info_parts hinfo
 have hA : Below w.heap.size w (w.alloc (.cells cs e)) := (Below.refl _ _).alloc (Nat.le_refl _) _
 have hnew := blk_cell (blk_new w (.cells cs e))
 have hbb : (n + 1) * bytes ≤ 140737488355328 := by
  have := Nat.mul_le_mul (show n + 1 ≤ 1048577 by omega) hby
  omega
 obtain ⟨v', W, hr, h2, h3, h4, h5⟩ := run_append_own_at (P := Tryz.prog) (w.alloc (.cells cs e)) base t t e i0 z sz bytes hu hi hz0 hz1 hz2 hz hsz (.slice a n c) n xs (h.up hA) ⟨w.heap.size, 0, none⟩ 1 1 cs.toList (by rw [Array.length_toList, hcs, Nat.one_mul]) (fun j u hj => by
  have e0 : (⟨w.heap.size, 0, none⟩ : Addr).add j = ⟨w.heap.size, j, none⟩ := by unfold Addr.add; split <;> simp_all
  rw [e0, hnew j, ← Array.getElem?_toList]
  exact hj) (fun u hu => (Array.all_eq_true_iff_forall_mem.1 h1) u (by simpa using hu)) (by unfold maxLen; omega) hbb (by simp; omega)
 rcases h2.2 with ⟨_, h0⟩ | ⟨g, cap, cur, rfl, _⟩
 ·
  omega
 refine ⟨g, cap, W, hr, h2, Touch.ofGrown (v := .slice a n c) ((World.grownBy_alloc w _ _).trans h3), ?_⟩
 rcases h5 with h5 | h5
 ·
  left
  cases a with
  | none => simp [Value.ownBlock] at h5
  | some x => simp [Value.ownBlock] at h5; simp [blkO, h5]
 ·
  right
  simp only [Value.ownBlock, Option.some.injEq] at h5
  rw [h5]; simp
def slsV (n : Nat) (A : Nat → Option Addr) (L C : Nat → Nat) : List Value := (List.range n).map fun i => .slice (A i) (L i) (C i)
theorem slsV_succ (n : Nat) (A : Nat → Option Addr) (L C : Nat → Nat) : slsV (n + 1) A L C = slsV n A L C ++ [.slice (A n) (L n) (C n)] := by simp [slsV, List.range_succ]
theorem slsV_ext {n : Nat} {A A' : Nat → Option Addr} {L L' C C' : Nat → Nat} (h : ∀ i, i < n → A i = A' i ∧ L i = L' i ∧ C i = C' i) : slsV n A L C = slsV n A' L' C' := by
 unfold slsV
 refine List.map_congr_left fun i hi => ?_
 obtain ⟨h1, h2, h3⟩ := h i (List.mem_range.1 hi)
 rw [h1, h2, h3]
theorem slsV_get (n : Nat) (A : Nat → Option Addr) (L C : Nat → Nat) (i : Nat) (h : i < n) : (slsV n A L C)[i]? = some (.slice (A i) (L i) (C i)) := by
 unfold slsV
 rw [List.getElem?_map, List.getElem?_range h]
 rfl
theorem blkO_nodup (a : Option Addr) : (blkO a).Nodup := by cases a <;> simp [blkO]
theorem blkI_nodup (a : Option Addr) (n : Nat) : (blkI a n).Nodup := by
 unfold blkI
 split
 ·
  exact List.nodup_nil
 ·
  cases a <;> simp
theorem blkV_sub (a : Option Addr) (n : Nat) : List.Sublist (blkV a n) (blkO a) := by
 unfold blkV
 split
 ·
  exact List.nil_sublist _
 ·
  exact List.Sublist.refl _
theorem nodup_flat {f : Nat → List Nat} : ∀ n, (∀ i, i < n → (f i).Nodup) → (∀ i j, i < n → j < n → i ≠ j → ∀ x ∈ f i, x ∉ f j) → ((List.range n).flatMap f).Nodup := by
 intro n
 induction n with
 | zero => intro _ _; simp
 | succ n ih =>
  intro h1 h2
  rw [List.range_succ, List.flatMap_append]
  simp only [List.flatMap_cons, List.flatMap_nil, List.append_nil]
  refine List.nodup_append.2 ⟨ih (fun i hi => h1 i (by omega)) (fun i j hi hj => h2 i j (by omega) (by omega)), h1 n (by omega), fun x hx y hy e => ?_⟩
  subst e
  simp only [List.mem_flatMap, List.mem_range] at hx
  obtain ⟨i, hi, hx⟩ := hx
  exact h2 i n (by omega) (by omega) (by omega) x hx hy
def flO (n : Nat) (A : Nat → Option Addr) : List Nat := (List.range n).flatMap fun i => blkO (A i)
theorem flO_mem {n : Nat} {A : Nat → Option Addr} {x : Nat} : x ∈ flO n A ↔ ∃ i, i < n ∧ x ∈ blkO (A i) := by
 unfold flO
 simp
def Rnd.blkz (R : Rnd) : List Nat := blkI R.aQ R.nQ ++ (blkI R.aD R.nD ++ flO R.nS R.A)
theorem OwnRz.nd {w : World} {base : Nat} {R : Rnd} (h : OwnRz w base R) : R.blkz.Nodup := by
 refine List.nodup_append.2 ⟨blkI_nodup _ _, List.nodup_append.2 ⟨blkI_nodup _ _, nodup_flat _ (fun i _ => blkO_nodup _) h.zz, fun x hx y hy e => ?_⟩, fun x hx y hy e => ?_⟩
 ·
  subst e
  obtain ⟨i, hi, hy⟩ := flO_mem.1 hy
  exact h.dz i hi x hx hy
 ·
  subst e
  rcases List.mem_append.1 hy with hy | hy
  ·
   exact h.own.qd x hx hy
  ·
   obtain ⟨i, hi, hy⟩ := flO_mem.1 hy
   exact h.qz i hi x hx hy
theorem OwnRz.blk {w : World} {base : Nat} {R : Rnd} (h : OwnRz w base R) : ∀ x ∈ R.blkz, base ≤ x ∧ x < w.heap.size := by
 intro x hx
 rcases List.mem_append.1 hx with hx | hx
 ·
  exact h.own.q.blk x hx
 rcases List.mem_append.1 hx with hx | hx
 ·
  exact h.own.d.blk x hx
 ·
  obtain ⟨i, hi, hx⟩ := flO_mem.1 hx
  exact (h.z i hi).blk x hx
def Lng.blkz (l : Lng) : List Nat := (blkO l.aT ++ l.R.blkz) ++ flO l.nU l.uA
structure OwnLz (w : World) (base : Nat) (l : Lng) : Prop where
 t : OI w base l.aT l.nT l.cT l.t
 u : OG 25 1 w base l.aU l.nU l.cU (slsV l.nU l.uA l.uL l.uC)
 z : ∀ i, i < l.nU → OI w base (l.uA i) (l.uL i) (l.uC i) (l.uz i)
 r : OwnRz w base l.R
 nd : l.blkz.Nodup
 su : ∀ x ∈ blkI l.R.aS l.R.nS, x ∉ blkO l.aU
theorem OwnLz.g {w : World} {base : Nat} {l : Lng} (h : OwnLz w base l) : OwnLg w base l := by
 refine ⟨h.t.vgI, ?_, fun i hi => (h.z i hi).vgI, h.r.own.q.g, h.r.own.d.g, h.r.own.s.g, fun i hi => (h.r.z i hi).vgI, ?_⟩
 ·
  have := h.u.vg (f := fun i => .slice (l.uA i) (l.uL i) (l.uC i)) (fun i hi => slsV_get _ _ _ _ i (by omega))
  rwa [Nat.mul_one] at this
 ·
  have hp : l.blks.Perm ((blkV l.aT l.nT ++ (blkV l.R.aQ l.R.nQ ++ (blkV l.R.aD l.R.nD ++ blkS l.R.nS l.R.A l.R.L))) ++ blkS l.nU l.uA l.uL) := by
   unfold Lng.blks
   rw [List.append_assoc]
   exact List.Perm.append_left _ List.perm_append_comm
  refine hp.nodup_iff.2 (List.Sublist.nodup ?_ h.nd)
  have hs : ∀ (n : Nat) (A : Nat → Option Addr) (L : Nat → Nat), List.Sublist (blkS n A L) (flO n A) := by
   intro n A L
   unfold blkS flO
   induction n with
   | zero => exact List.Sublist.refl _
   | succ n ih =>
    rw [List.range_succ, List.flatMap_append, List.flatMap_append]
    refine ih.append ?_
    simp only [List.flatMap_cons, List.flatMap_nil, List.append_nil]
    exact blkV_sub _ _
  exact ((blkV_sub _ _).append ((List.Sublist.refl _).append ((List.Sublist.refl _).append (hs _ _ _)))).append (hs _ _ _)
theorem OwnLz.blk {w : World} {base : Nat} {l : Lng} (h : OwnLz w base l) : ∀ x ∈ l.blkz, base ≤ x ∧ x < w.heap.size := by
 intro x hx
 unfold Lng.blkz at hx
 simp only [List.mem_append] at hx
 rcases hx with (hx | hx) | hx
 ·
  exact h.t.blk x hx
 ·
  exact h.r.blk x hx
 ·
  obtain ⟨i, hi, hx⟩ := flO_mem.1 hx
  exact (h.z i hi).blk x hx
theorem OwnRz.upZ {w w' : World} {base : Nat} {R : Rnd} (h : OwnRz w base R) (hb : Below w.heap.size w w') : OwnRz w' base R :=
 ⟨⟨h.own.q.up hb, h.own.d.up hb, h.own.s.up hb, fun i hi => (h.own.z i hi).up hb, h.own.qd, h.own.qz, h.own.dz, h.own.zz⟩, fun i hi => (h.z i hi).up hb, h.qz, h.dz, h.zz⟩
theorem OwnRz.monoZ {w : World} {base base' : Nat} {R : Rnd} (h : OwnRz w base R) (hb : base' ≤ base) : OwnRz w base' R :=
 ⟨⟨h.own.q.mono hb, h.own.d.mono hb, h.own.s.mono hb, fun i hi => (h.own.z i hi).mono hb, h.own.qd, h.own.qz, h.own.dz, h.own.zz⟩, fun i hi => (h.z i hi).mono hb, h.qz, h.dz, h.zz⟩
theorem VS.touchS {w w' : World} {base : Nat} {a : Option Addr} {n : Nat} {f : Nat → Value} {S : List Nat} (h : VS w base a n f) (ht : Touch S w w') (hp : ∀ x ∈ blkI a n, x ∉ S) : VS w' base a n f := by
 rcases h with h | ⟨g, rfl, hg, hr⟩
 ·
  exact .inl h
 ·
  by_cases h0 : n = 0
  ·
   exact .inl h0
  exact .inr ⟨g, rfl, hg, hr.keep (ht.block g hr.lt (hp g (blkI_mem h0)))⟩
theorem VS.blkS {w : World} {base : Nat} {a : Option Addr} {n : Nat} {f : Nat → Value} (h : VS w base a n f) : ∀ x ∈ blkI a n, (base ≤ x ∧ x < w.heap.size) ∧ ∃ cs, w.heap[x]? = some (.cells cs 25 (0, 0)) := by
 intro x hx
 unfold blkI at hx
 split at hx
 ·
  simp at hx
 ·
  rcases h with h | ⟨g, rfl, hg, hr⟩
  ·
   contradiction
  ·
   simp at hx
   subst hx
   obtain ⟨cs, hc, _⟩ := hr
   exact ⟨⟨hg, blk_lt hc⟩, cs, hc⟩
theorem OwnRz.touchZ {w w' : World} {base : Nat} {R : Rnd} {S : List Nat} (h : OwnRz w base R) (ht : Touch S w w') (h1 : ∀ x ∈ R.blkz, x ∉ S) (h2 : ∀ x ∈ blkI R.aS R.nS, x ∉ S) : OwnRz w' base R := by
 have hq : ∀ x ∈ blkI R.aQ R.nQ, x ∉ S := fun x hx => h1 x (List.mem_append_left _ hx)
 have hd : ∀ x ∈ blkI R.aD R.nD, x ∉ S := fun x hx => h1 x (List.mem_append_right _ (List.mem_append_left _ hx))
 have hz : ∀ i, i < R.nS → ∀ x ∈ blkO (R.A i), x ∉ S := fun i hi x hx => h1 x (List.mem_append_right _ (List.mem_append_right _ (flO_mem.2 ⟨i, hi, hx⟩)))
 exact ⟨⟨h.own.q.touchS ht hq, h.own.d.touchS ht hd, h.own.s.touchS ht h2, fun i hi => (h.own.z i hi).touchS ht (fun x hx => hz i hi x (blkI_sub hx)), h.own.qd, h.own.qz, h.own.dz, h.own.zz⟩, fun i hi => (h.z i hi).touchS ht (hz i hi), h.qz, h.dz, h.zz⟩
theorem OwnLz.up {w w' : World} {base : Nat} {l : Lng} (h : OwnLz w base l) (hb : Below w.heap.size w w') : OwnLz w' base l := ⟨h.t.up hb, h.u.up hb, fun i hi => (h.z i hi).up hb, h.r.upZ hb, h.nd, h.su⟩
theorem OwnLz.mono {w : World} {base base' : Nat} {l : Lng} (h : OwnLz w base l) (hb : base' ≤ base) : OwnLz w base' l := ⟨h.t.mono hb, h.u.mono hb, fun i hi => (h.z i hi).mono hb, h.r.monoZ hb, h.nd, h.su⟩
theorem OwnLz.touch {w w' : World} {base : Nat} {l : Lng} {S : List Nat} (h : OwnLz w base l) (ht : Touch S w w') (h1 : ∀ x ∈ l.blkz, x ∉ S) (h2 : ∀ x ∈ blkO l.aU, x ∉ S) (h3 : ∀ x ∈ blkI l.R.aS l.R.nS, x ∉ S) : OwnLz w' base l := by
 have k1 : ∀ x ∈ blkO l.aT, x ∉ S := fun x hx => h1 x (List.mem_append_left _ (List.mem_append_left _ hx))
 have k2 : ∀ x ∈ l.R.blkz, x ∉ S := fun x hx => h1 x (List.mem_append_left _ (List.mem_append_right _ hx))
 have k3 : ∀ i, i < l.nU → ∀ x ∈ blkO (l.uA i), x ∉ S := fun i hi x hx => h1 x (List.mem_append_right _ (flO_mem.2 ⟨i, hi, hx⟩))
 exact ⟨h.t.touchS ht k1, h.u.touchS ht h2, fun i hi => (h.z i hi).touchS ht (k3 i hi), h.r.touchZ ht k2 h3, h.nd, h.su⟩
theorem OwnRz.type2 {w : World} {base : Nat} {R : Rnd} (h : OwnRz w base R) : ∀ x ∈ R.blkz, ∃ cs, w.heap[x]? = some (.cells cs 2 (0, 0)) := by
 intro x hx
 rcases List.mem_append.1 hx with hx | hx
 ·
  exact h.own.q.g.type x hx
 rcases List.mem_append.1 hx with hx | hx
 ·
  exact h.own.d.g.type x hx
 ·
  obtain ⟨i, hi, hx⟩ := flO_mem.1 hx
  exact OG.type (t := 2) (sz := 1) (h.z i hi) x hx
theorem OwnLz.type2 {w : World} {base : Nat} {l : Lng} (h : OwnLz w base l) : ∀ x ∈ l.blkz, ∃ cs, w.heap[x]? = some (.cells cs 2 (0, 0)) := by
 intro x hx
 unfold Lng.blkz at hx
 simp only [List.mem_append] at hx
 rcases hx with (hx | hx) | hx
 ·
  exact OG.type (t := 2) (sz := 1) h.t x hx
 ·
  exact h.r.type2 x hx
 ·
  obtain ⟨i, hi, hx⟩ := flO_mem.1 hx
  exact OG.type (t := 2) (sz := 1) (h.z i hi) x hx
theorem OwnLz.box {w w' : World} {base g : Nat} {l : Lng} {cs : Array Value} {t : TypeId} (h : OwnLz w base l) (hg : w.heap[g]? = some (.cells cs t (0, 0))) (ht2 : t ≠ 2) (hts : t ≠ 25) (ht : Touch [g] w w') : OwnLz w' base l := by
 refine h.touch ht (fun x hx hy => ?_) (fun x hx hy => ?_) (fun x hx hy => ?_)
 ·
  obtain ⟨cs', h1⟩ := h.type2 x hx
  rw [List.mem_singleton.1 hy, hg] at h1
  simp at h1
  exact ht2 h1.2
 ·
  obtain ⟨cs', h1⟩ := h.u.type x hx
  rw [List.mem_singleton.1 hy, hg] at h1
  simp at h1
  exact hts h1.2
 ·
  obtain ⟨_, cs', h1⟩ := h.r.own.s.blkS x hx
  rw [List.mem_singleton.1 hy, hg] at h1
  simp at h1
  exact hts h1.2
theorem range_flatMap_congrO {f g : Nat → List Nat} : ∀ {k : Nat}, (∀ i, i < k → f i = g i) → (List.range k).flatMap f = (List.range k).flatMap g := by
 intro k h
 induction k with
 | zero => rfl
 | succ k ih =>
  rw [List.range_succ, List.flatMap_append, List.flatMap_append, ih (fun i hi => h i (by omega))]
  simp only [List.flatMap_cons, List.flatMap_nil, List.append_nil]
  rw [h k (by omega)]
def Lng.more (l : Lng) (k : Nat) (aU : Option Addr) (cU : Nat) (a : Option Addr) (c : Nat) : Lng := { l with aU := aU, nU := k + 1, cU := cU, uA := fun i => if i = k then a else l.uA i, uC := fun i => if i = k then c else l.uC i }
theorem OwnLz.more {V V1 W : World} {base k g c2 c : Nat} {l : Lng} {a : Option Addr} (h : OwnLz V base l) (hk : l.nU = k) (hb : Below V.heap.size V V1) (hbase : base ≤ V.heap.size) (ho : OI V1 V.heap.size a (l.uL k) c (l.uz k))
  (hu : OG 25 1 W base (some ⟨g, 0, none⟩) (k + 1) c2 (slsV k l.uA l.uL l.uC ++ [.slice a (l.uL k) c])) (ht : Touch (blkO l.aU) V1 W) (hg : g ∈ blkO l.aU ∨ V1.heap.size ≤ g) : OwnLz W base (l.more k (some ⟨g, 0, none⟩) c2 a c) := by
 subst hk
 have h1 := h.up hb
 have q1 : ∀ x ∈ l.blkz, x ∉ blkO l.aU := fun x hx hy => by
  obtain ⟨cs, e1⟩ := h.type2 x hx
  obtain ⟨cs', e2⟩ := h.u.type x hy
  rw [e1] at e2
  simp at e2
 have k1 : ∀ x ∈ blkO l.aT, x ∉ blkO l.aU := fun x hx => q1 x (List.mem_append_left _ (List.mem_append_left _ hx))
 have k2 : ∀ x ∈ l.R.blkz, x ∉ blkO l.aU := fun x hx => q1 x (List.mem_append_left _ (List.mem_append_right _ hx))
 have k3 : ∀ i, i < l.nU → ∀ x ∈ blkO (l.uA i), x ∉ blkO l.aU := fun i hi x hx => q1 x (List.mem_append_right _ (flO_mem.2 ⟨i, hi, hx⟩))
 refine ⟨h1.t.touchS ht k1, ?_, fun i hi => ?_, h1.r.touchZ ht k2 h.su, ?_, fun x hx hy => ?_⟩
 ·
  have e : slsV (l.nU + 1) (fun i => if i = l.nU then a else l.uA i) l.uL (fun i => if i = l.nU then c else l.uC i) = slsV l.nU l.uA l.uL l.uC ++ [.slice a (l.uL l.nU) c] := by
   rw [slsV_succ, slsV_ext (n := l.nU) (A := fun i => if i = l.nU then a else l.uA i) (L := l.uL) (C := fun i => if i = l.nU then c else l.uC i) (A' := l.uA) (L' := l.uL) (C' := l.uC) (fun i hi => ⟨if_neg (by omega), rfl, if_neg (by omega)⟩), if_pos rfl, if_pos rfl]
  rw [← e] at hu
  exact hu
 ·
  show OI W base (if i = l.nU then a else l.uA i) (l.uL i) (if i = l.nU then c else l.uC i) (l.uz i)
  by_cases e : i = l.nU
  ·
   rw [if_pos e, if_pos e, e]
   refine OI.mono (ho.touchS ht (fun x hx hy => ?_)) hbase
   have := (ho.blk x hx).1
   have := (h.u.blk x hy).2
   omega
  ·
   rw [if_neg e, if_neg e]
   have hi' : i < l.nU := by have : i < l.nU + 1 := hi; omega
   exact (h1.z i hi').touchS ht (k3 i hi')
 ·
  show ((blkO l.aT ++ l.R.blkz) ++ (List.range (l.nU + 1)).flatMap fun i => blkO (if i = l.nU then a else l.uA i)).Nodup
  rw [List.range_succ, List.flatMap_append]
  simp only [List.flatMap_cons, List.flatMap_nil, List.append_nil, if_true]
  rw [range_flatMap_congrO (f := fun i => blkO (if i = l.nU then a else l.uA i)) (g := fun i => blkO (l.uA i)) (fun i hi => by rw [if_neg (by omega)]), ← List.append_assoc]
  refine nodup_app h.nd (blkO_nodup _) V.heap.size (fun x hx => (h.blk x hx).2) (fun x hx => (ho.blk x hx).1)
 ·
  have hx1 := (h.r.own.s.blkS x hx).1.2
  have hy' : x = g := by simpa [Lng.more, blkO] using hy
  rcases hg with hg | hg
  ·
   exact h.su x hx (hy' ▸ hg)
  ·
   have := hb.size
   omega
def tV (n : Nat) (c : Nat → Array Value) : List Value := (List.range n).flatMap fun i => (c i).toList
theorem tV_succ (n : Nat) (c : Nat → Array Value) : tV (n + 1) c = tV n c ++ (c n).toList := by simp [tV, List.range_succ]
theorem tV_ext {n : Nat} {c c' : Nat → Array Value} (h : ∀ i, i < n → c i = c' i) : tV n c = tV n c' := by
 induction n with
 | zero => rfl
 | succ n ih => rw [tV_succ, tV_succ, ih (fun i hi => h i (by omega)), h n (by omega)]
theorem tV_len {m n : Nat} {c : Nat → Array Value} (hs : ∀ i, i < n → (c i).size = m) : (tV n c).length = n * m := by
 induction n with
 | zero => simp [tV]
 | succ n ih => rw [tV_succ, List.length_append, ih (fun i hi => hs i (by omega)), Array.length_toList, hs n (by omega), Nat.succ_mul]
theorem tV_get {m n : Nat} {c : Nat → Array Value} (hs : ∀ i, i < n → (c i).size = m) : ∀ j, j < n * m → (tV n c)[j]? = some (flatT m c j) := by
 induction n with
 | zero => intro j hj; omega
 | succ n ih =>
  intro j hj
  have hs' : ∀ i, i < n → (c i).size = m := fun i hi => hs i (by omega)
  rw [Nat.succ_mul] at hj
  rw [tV_succ]
  by_cases e : j < n * m
  ·
   rw [List.getElem?_append_left (by rw [tV_len hs']; exact e)]
   exact ih hs' j e
  ·
   rw [List.getElem?_append_right (by rw [tV_len hs']; omega), tV_len hs', Array.getElem?_toList]
   have := flatT_at (c := c) (i := n) (j := j - n * m) (m := m) (by omega) (hs n (by omega))
   rw [show n * m + (j - n * m) = j by omega] at this
   exact this.symm
theorem OG.frames {t : TypeId} {w : World} {base : Nat} {a : Option Addr} {n c : Nat} {F : Nat → Pkt} (h : OG t 5 w base a n c (tV n fun i => (F i).frame)) : RdF w a n F := (h.vg (tV_get (fun _ _ => rfl))).frames
theorem OG.new (V : World) (t : TypeId) (sz base : Nat) (hb : base ≤ V.heap.size) : OG t sz (V.alloc (.cells #[] t)) base (some ⟨V.heap.size, 0, none⟩) 0 0 [] :=
 ⟨by simp, .inr ⟨V.heap.size, 0, #[], rfl, hb, blk_new _ _, Nat.le_refl _, Nat.zero_le _, by simp, by simp⟩⟩
set_option maxRecDepth 10000 in
set_option maxHeartbeats 1000000 in
theorem l7Frames_any (a : Option Addr) (n c : Nat) (F : Nat → Pkt) (w : World) (hn : n ≤ 1048576) (hb : ∀ i, i < n → (F i).b.size ≤ 1048576) (hr : RdF w a n F) (ok : Bool) (hok : ok = true ↔ ∀ i, i < n → (F i).frOk) :
  Calls Tryz.prog 24 #[.slice a n c] w fun e w' => e = .returned (.bool ok) ∧ Below w.heap.size w w' := by
 have HO : Hid (ok = true ↔ ∀ i, i < n → (F i).frOk) := hok
 have HR : Hid (RdF w a n F) := hr
 have HZ : Hid (∀ i, i < n → (F i).b.size ≤ 1048576) := hb
 clear hok hr hb
 go_enter Tryz.func24, Tryz.ntmps24
 go_wp2_with fail
 go_loopw [3] (fun i wr => ∃ k : Nat, k ≤ n ∧ i = .int .i64 k ∧ (∀ i, i < k → (F i).frOk) ∧ Below w.heap.size w wr) (fun i _ => n - (intOf i).toNat)
 case atStart => exact ⟨0, Nat.zero_le _, rfl, fun i hi => by omega, Below.refl _ _⟩
 case round =>
  obtain ⟨k, hk, rfl, hall, hB⟩ := hrel
  have HA : Hid (∀ i, i < k → (F i).frOk) := hall
  clear hall
  by_cases hlt : k < n
  ·
   have hlt' : (k : Int) < n := by omega
   obtain ⟨g, o, ea, hc⟩ := (HR.out.up hB).at hlt
   have c0 : wr.cell? ⟨g, o + k * 5, none⟩ = some (.int .i64 (F k).k) := hc 0 (by omega)
   have HC : Hid (∀ j, j < 5 → wr.cell? ⟨g, o + k * 5 + j, none⟩ = (F k).frame[j]?) := hc
   rw [ea]
   clear ea hc
   by_cases h1 : (F k).k = 1
   ·
    have h1' : ((F k).k != 1) = false := by simp [h1]
    obtain ⟨lk, hlk⟩ := ok_decS ((F k).fOk)
    have HL : Hid (lk = true ↔ (F k).fOk) := hlk
    have H1 : Hid ((F k).k = 1) := h1
    clear hlk h1
    go_wp2_with (refine wpList_ldTg 110 5 _ Tryz.underlying110 rfl infoFr5 (.tmp 19) rfl (by kernel_rfl) g (o + k * 5) rfl (F k).frame rfl HC.out ?_)
    clear HC c0 h1'
    refine (sFrameOk_ok (F k) _ (fitOf (HZ.out k hlt)) lk HL.out).mono ?_
    rintro e w2 ⟨rfl, hb⟩
    have hB2 : Below w.heap.size w w2 := hB.trans (hb.mono hB.size)
    clear hb hB
    cases lk
    ·
     have HF : Hid (ok = false) := by
      rw [Hid, Bool.eq_false_iff]
      intro e
      exact absurd (HL.out.2 (HO.out.1 e k hlt).2) (by simp)
     go_wp2_with fail
     go_ret
     exact ⟨ret_bool HF.out.symm, hB2⟩
    ·
     have HL2 : Hid ((F k).frOk) := ⟨H1.out, HL.out.1 rfl⟩
     clear HL
     go_wp2_with fail
     go_roundw
     case rel => exact ⟨k + 1, by omega, by go_num, fun i hi => by
      by_cases e : i = k
      ·
       subst e; exact HL2.out
      ·
       exact HA.out i (by omega), hB2⟩
     case measure => simp [intOf]; omega
   ·
    have h1' : ((F k).k != 1) = true := by simp [h1]
    have HF : Hid (ok = false) := by
     rw [Hid, Bool.eq_false_iff]
     intro e
     exact h1 (HO.out.1 e k hlt).1
    clear h1
    go_wp2_with fail
    go_ret
    exact ⟨ret_bool HF.out.symm, hB⟩
  ·
   obtain rfl : k = n := by omega
   have HT : Hid (ok = true) := HO.out.2 HA.out
   go_wp2_with fail
   go_ret
   exact ⟨ret_bool HT.out.symm, hB⟩
set_option maxRecDepth 10000 in
set_option maxHeartbeats 1000000 in
theorem l7Of_any (a : Option Addr) (n c : Nat) (U : Nat → Pkt) (w : World) (hn : n ≤ 1048576) (hr : RdV w a n U) :
  Calls Tryz.prog 25 #[.slice a n c] w fun e w' => ∃ a2 c2, e = .returned (.slice a2 n c2) ∧ RdF w' a2 n U ∧ Below w.heap.size w w' := by
 have HR : Hid (RdV w a n U) := hr
 clear hr
 have HB0 : Hid (Below w.heap.size w (w.alloc (.cells #[] 110))) := (Below.refl _ _).alloc (Nat.le_refl _) _
 have HO0 : Hid (OG 110 5 (w.alloc (.cells #[] 110)) w.heap.size (some ⟨w.heap.size, 0, none⟩) 0 0 (tV 0 fun i => (U i).frame)) := OG.new w _ _ _ (Nat.le_refl _)
 go_enter Tryz.func25, Tryz.ntmps25
 go_wp2_with fail
 go_loopw [3, 4] (fun s i wr => ∃ (k : Nat) (a2 : Option Addr) (c2 : Nat), k ≤ n ∧ i = .int .i64 k ∧ s = .slice a2 k c2 ∧ Hid (OG 110 5 wr w.heap.size a2 k c2 (tV k fun i => (U i).frame)) ∧ Hid (Below w.heap.size w wr)) (fun _ i _ => n - (intOf i).toNat)
 case atStart => exact ⟨0, _, _, Nat.zero_le _, rfl, rfl, HO0, HB0⟩
 case round =>
  clear HB0 HO0
  obtain ⟨k, a2, c2, hk, rfl, rfl, HT, HB⟩ := hrel
  by_cases hlt : k < n
  ·
   have hlt' : (k : Int) < n := by omega
   obtain ⟨g, o, ea, hc⟩ := (HR.out.up HB.out).at hlt
   have HC : Hid (∀ j, j < 5 → wr.cell? ⟨g, o + k * 7 + 2 + j, none⟩ = (#[.int .i64 (U k).k, .int .i64 (U k).d, .int .i64 (U k).s, .int .i64 (U k).p, .string (U k).b] : Array Value)[j]?) := fun j hj => by
    have := hc (2 + j) (by omega)
    rw [← Nat.add_assoc] at this
    rw [this]
    have : j = 0 ∨ j = 1 ∨ j = 2 ∨ j = 3 ∨ j = 4 := by omega
    rcases this with rfl | rfl | rfl | rfl | rfl <;> rfl
   obtain ⟨g1, c3, X3, hrun, hu, ht, hg⟩ := appendOG 70 110 _ 5 48 infoFrZ Tryz.underlying70 rfl (by decide) (by decide) HT.out (by omega) HB.out.size (#[.int .i64 (U k).k, .int .i64 (U k).d, .int .i64 (U k).s, .int .i64 (U k).p, .string (U k).b]) rfl (by simp [Value.oneCell'])
   have HT2 : Hid (OG 110 5 X3 w.heap.size (some ⟨g1, 0, none⟩) (k + 1) c3 (tV (k + 1) fun i => (U i).frame)) := by rw [tV_succ]; exact hu
   have HB2 : Hid (Below w.heap.size w X3) := HB.out.trans (ht.below HB.out.size (fun x hx => (HT.out.blk x hx).1))
   rw [ea]
   clear ea hc hu ht hg HT HB
   go_wp2_with (first | refine wpList_ldT rfl 110 5 _ Tryz.underlying110 rfl infoFr5 (.tmp 16) rfl g (o + k * 7 + 2) rfl _ rfl HC.out ?_ | (at_builtin; refine Lib.wpList_append_run _ rfl _ _ _ _ rfl _ _ rfl rfl _ _ hrun ?_))
   go_roundw
   case rel => exact ⟨k + 1, _, _, by omega, by go_num, rfl, HT2, HB2⟩
   case measure => simp [intOf]; omega
  ·
   obtain rfl : k = n := by omega
   go_wp2_with fail
   go_ret
   exact ⟨_, _, rfl, HT.out.frames, HB.out⟩
open Go.Shelf
def laysM316_ren : Go.Shelf.Ren := ⟨fun | 316 => 174 | n => n, fun | 9 => 9 | 3 => 3 | 4 => 4 | 37 => 195 | 0 => 0 | 127 => 228 | 5 => 5 | n => n, fun | n => n⟩
theorem laysM316 : Go.Proofs.LaysM.n316 Tryz.prog laysM316_ren := {
 mixed := by kernel_rfl
 f316 := Tryz.func174.trans (congrArg some (by kernel_rfl))
 t0 := Tryz.underlying0
 a0 := Tryz.isAgg0
 z0 := Tryz.sizeOf0
 v0 := Tryz.zeroValue0
 t3 := Tryz.underlying3
 a3 := Tryz.isAgg3
 z3 := Tryz.sizeOf3
 v3 := Tryz.zeroValue3
 t4 := Tryz.underlying4
 a4 := Tryz.isAgg4
 z4 := Tryz.sizeOf4
 v4 := Tryz.zeroValue4
 t9 := Tryz.underlying9
 a9 := Tryz.isAgg9
 z9 := Tryz.sizeOf9
 v9 := Tryz.zeroValue9
 t37 := Tryz.underlying195
 a37 := Tryz.isAgg195
 z37 := Tryz.sizeOf195
 v37 := Tryz.zeroValue195
 t127 := Tryz.underlying228
 a127 := Tryz.isAgg228
 z127 := Tryz.sizeOf228
 v127 := Tryz.zeroValue228
 t5 := Tryz.underlying5
 a5 := Tryz.isAgg5
 z5 := Tryz.sizeOf5
 v5 := Tryz.zeroValue5
 i0 := by kernel_rfl
 i3 := by kernel_rfl
 i4 := by kernel_rfl
 i5 := by kernel_rfl
 i9 := by kernel_rfl
 i37 := by kernel_rfl
 i127 := by kernel_rfl }
open Go.RowKit in
theorem clone57 (s : ByteArray) (w : World) (hlim : s.size ≤ 281474976710656) :
  Calls Tryz.prog 174 #[.string s] w fun e w' => e = .returned (.string s) ∧ Below w.heap.size w w' := Go.Proofs.Any.stringslite_Clone laysM316 s w hlim
theorem cloneS_any (s : ByteArray) (w : World) (hlim : s.size ≤ 1048576) :
  Calls Tryz.prog 167 #[.string s] w fun e w' => e = .returned (.string s) ∧ Below w.heap.size w w' := by
 go_enter Tryz.func167, Tryz.ntmps167
 go_wp2_with fail
 refine (clone57 s _ (by omega)).mono ?_
 rintro e w1 ⟨rfl, hb⟩
 go_wp2_with fail
 go_ret
 exact ⟨rfl, hb⟩
theorem copyFrame_any (k d s p : Int) (b : ByteArray) (w : World) (hlim : b.size ≤ 1048576) :
  Calls Tryz.prog 139 #[.agg #[.int .i64 k, .int .i64 d, .int .i64 s, .int .i64 p, .string b]] w fun e w' => e = .returned (.agg #[.int .i64 k, .int .i64 d, .int .i64 s, .int .i64 p, .string b]) ∧ Below w.heap.size w w' := by
 go_enter Tryz.func139, Tryz.ntmps139
 go_wp2_with fail
 refine (cloneS_any b _ hlim).mono ?_
 rintro e w1 ⟨rfl, hb⟩
 have HX : Hid (Boxes w #[.int .i64 k, .int .i64 d, .int .i64 s, .int .i64 p, .string b] #[.int .i64 0, .int .i64 0, .int .i64 0, .int .i64 0, .string ⟨#[]⟩] #[.int .i64 k, .int .i64 d, .int .i64 s, .int .i64 p, .string b] 110 110 w1) := (Boxes.start w #[.int .i64 k, .int .i64 d, .int .i64 s, .int .i64 p, .string b] #[.int .i64 0, .int .i64 0, .int .i64 0, .int .i64 0, .string ⟨#[]⟩] #[.int .i64 k, .int .i64 d, .int .i64 s, .int .i64 p, .string b] 110 110).up hb
 clear hb
 have HC : Hid (w1.heap[w.heap.size + 1 + 1]? = some (.cells #[.int .i64 k, .int .i64 d, .int .i64 s, .int .i64 p, .string b] 110 (0, 0))) := HX.out.c
 go_wp2_with (refine wpList_stA rfl 9 (.tmp 8) (.tmp 7) rfl (w.heap.size + 1 + 1) 4 rfl (.string b) rfl 1 rfl 110 _ HC.out (by kernel_rfl) (Nat.le_of_ble_eq_true rfl) (by simp [Value.cells, Value.oneCell']) ?_)
 intro w2 hP
 replace hP : Put w1 w2 (w.heap.size + 1 + 1) #[.int .i64 k, .int .i64 d, .int .i64 s, .int .i64 p, .string b] 110 := hP.cast rfl
 replace HX : Hid (Boxes w #[.int .i64 k, .int .i64 d, .int .i64 s, .int .i64 p, .string b] #[.int .i64 0, .int .i64 0, .int .i64 0, .int .i64 0, .string ⟨#[]⟩] #[.int .i64 k, .int .i64 d, .int .i64 s, .int .i64 p, .string b] 110 110 w2) := HX.out.put hP
 clear hP HC
 have HL : Hid (∀ j, j < 5 → w2.cell? ⟨w.heap.size + 1 + 1, 0 + j, none⟩ = (#[.int .i64 k, .int .i64 d, .int .i64 s, .int .i64 p, .string b] : Array Value)[j]?) := fun j _ => by rw [Nat.zero_add]; exact blk_cell HX.out.c j
 have HD : Hid (w2.heap[w.heap.size + 1]? = some (.cells #[.int .i64 0, .int .i64 0, .int .i64 0, .int .i64 0, .string ⟨#[]⟩] 110 (0, 0))) := HX.out.b
 go_wp2_with (first | refine wpList_ldT rfl 110 5 _ Tryz.underlying110 rfl infoFrI (.tmp 3) rfl (w.heap.size + 1 + 1) 0 rfl #[.int .i64 k, .int .i64 d, .int .i64 s, .int .i64 p, .string b] rfl HL.out ?_ | refine wpList_stA rfl 110 (.tmp 2) (.tmp 9) rfl (w.heap.size + 1) 0 rfl (.agg #[.int .i64 k, .int .i64 d, .int .i64 s, .int .i64 p, .string b]) rfl 5 rfl 110 _ HD.out infoFrI (Nat.le_of_ble_eq_true rfl) (by simp [Value.cells, Value.oneCell']) ?_)
 intro w3 hP
 replace hP : Put w2 w3 (w.heap.size + 1) #[.int .i64 k, .int .i64 d, .int .i64 s, .int .i64 p, .string b] 110 := hP.cast rfl
 have HK : Hid (w3.heap[w.heap.size + 1]? = some (.cells #[.int .i64 k, .int .i64 d, .int .i64 s, .int .i64 p, .string b] 110 (0, 0))) := hP.blk
 have HB : Hid (Below w.heap.size w w3) := (HX.out.out hP).bel
 clear hP HL HD
 go_wp2_with fail
 exact bodyPost_ret (res_cellT Tryz.results139 5 _ Tryz.underlying110 rfl infoFrI _ _ (w.heap.size + 1) #[.int .i64 k, .int .i64 d, .int .i64 s, .int .i64 p, .string b] rfl 110 HK.out rfl) rfl ⟨rfl, HB.out⟩
end Go.Proofs.YtfkpncopkgidfaaGreat
