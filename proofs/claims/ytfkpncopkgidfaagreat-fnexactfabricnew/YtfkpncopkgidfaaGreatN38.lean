import Derived.Test.YtfkpncopkgidfaaGreatN29
import Derived.Test.YtfkpncopkgidfaaGreatN30
namespace Go.Proofs.YtfkpncopkgidfaaGreat
open Go.RowKit
set_option linter.unusedVariables false
set_option linter.unusedSimpArgs false
theorem lay_hi {cur cs : Array Value} {o : Nat} (h : o + cs.size ≤ cur.size) (j : Nat) (hj : o + cs.size ≤ j) : (lay cur o cs)[j]? = cur[j]? := by
 unfold lay
 simp only [List.getElem?_toArray]
 rw [List.append_assoc, List.getElem?_append_right (by simp; omega), List.getElem?_append_right (by simp; omega), List.getElem?_drop]
 simp only [List.length_take, Array.length_toList, Array.getElem?_toList]
 congr 1
 omega
def hM (m : Nat) (H : Nat → Hst) : Nat → Nat
 | 0 => m
 | i + 1 => hM m H i + 1 + (H i).nO * 5 + (H i).nG * 5
theorem hM_le (m : Nat) (H : Nat → Hst) : ∀ n i, i ≤ n → hM m H i ≤ hM m H n := by
 intro n
 induction n with
 | zero => intro i hi; rw [show i = 0 by omega]; exact Nat.le_refl _
 | succ n ih =>
  intro i hi
  by_cases e : i = n + 1
  ·
   rw [e]; exact Nat.le_refl _
  ·
   have := ih i (by omega)
   show _ ≤ hM m H n + 1 + (H n).nO * 5 + (H n).nG * 5
   omega
def HRow (w : World) (g n : Nat) (st : Nat → Bool) (H : Nat → Hst) : Prop := ∃ arr : Array Value, w.heap[g]? = some (.cells arr 73 (0, 0)) ∧ n * 3 ≤ arr.size ∧ ∀ i, i < n → arr[i * 3]? = some (.bool (st i)) ∧ arr[i * 3 + 1]? = some (.slice (H i).aO (H i).nO (H i).cO) ∧ arr[i * 3 + 2]? = some (.slice (H i).aG (H i).nG (H i).cG)
theorem HRow.lt {w : World} {g n : Nat} {st : Nat → Bool} {H : Nat → Hst} (h : HRow w g n st H) : g < w.heap.size := by
 obtain ⟨arr, h1, _⟩ := h
 exact blk_lt h1
theorem HRow.keep {w w' : World} {g n : Nat} {st : Nat → Bool} {H : Nat → Hst} (h : HRow w g n st H) (hb : w'.heap[g]? = w.heap[g]?) : HRow w' g n st H := by
 obtain ⟨arr, h1, h2⟩ := h
 exact ⟨arr, hb.trans h1, h2⟩
theorem HRow.farT {w w' : World} {g n : Nat} {st : Nat → Bool} {H : Nat → Hst} {S : List Nat} {t' : TypeId} (h : HRow w g n st H) (ht : Touch S w w') (hS : ∀ x ∈ S, ∃ cs, w.heap[x]? = some (.cells cs t' (0, 0))) (hne : 73 ≠ t') : HRow w' g n st H :=
 h.keep (ht.block g h.lt (fun hx => by
  obtain ⟨cs, e⟩ := hS g hx
  obtain ⟨arr, h1, _⟩ := h
  rw [h1] at e
  simp at e
  exact hne e.2))
theorem HRow.put {w W : World} {g n k : Nat} {st : Nat → Bool} {H : Nat → Hst} {arr : Array Value} {b : Bool} (h1 : n * 3 ≤ arr.size) (h2 : ∀ i, i < n → arr[i * 3]? = some (.bool (st i)) ∧ arr[i * 3 + 1]? = some (.slice (H i).aO (H i).nO (H i).cO) ∧ arr[i * 3 + 2]? = some (.slice (H i).aG (H i).nG (H i).cG)) (hk : k < n) (hP : Put w W g (lay arr (k * 3) #[.bool b]) 73) :
  HRow W g n (fun i => if i = k then b else st i) H := by
 have hf : k * 3 + (#[.bool b] : Array Value).size ≤ arr.size := by show k * 3 + 1 ≤ _; omega
 refine ⟨_, hP.blk, by rw [lay_size hf]; exact h1, fun i hi => ?_⟩
 have hz : (#[.bool b] : Array Value).size = 1 := rfl
 obtain ⟨a0, a1, a2⟩ := h2 i hi
 by_cases e : i = k
 ·
  subst e
  refine ⟨?_, ?_, ?_⟩
  ·
   have := lay_at hf 0 (by omega)
   rw [Nat.add_zero] at this
   rw [this]
   dsimp only
   rw [if_pos rfl]
   rfl
  ·
   rw [lay_hi hf _ (by omega)]; exact a1
  ·
   rw [lay_hi hf _ (by omega)]; exact a2
 ·
  dsimp only
  rw [if_neg e]
  by_cases e2 : i < k
  ·
   refine ⟨?_, ?_, ?_⟩
   ·
    rw [lay_lo hf _ (by omega)]; exact a0
   ·
    rw [lay_lo hf _ (by omega)]; exact a1
   ·
    rw [lay_lo hf _ (by omega)]; exact a2
  ·
   refine ⟨?_, ?_, ?_⟩
   ·
    rw [lay_hi hf _ (by omega)]; exact a0
   ·
    rw [lay_hi hf _ (by omega)]; exact a1
   ·
    rw [lay_hi hf _ (by omega)]; exact a2
theorem OG.hrow {w : World} {base n c : Nat} {a : Option Addr} {H : Nat → Hst} (h : OG 73 3 w base a n c (tV n fun i => (H i).cells)) (h0 : 0 < n) : ∃ g, a = some ⟨g, 0, none⟩ ∧ base ≤ g ∧ HRow w g n (fun i => (H i).st) H := by
 obtain ⟨g, cur, ea, hg, hc, _, _⟩ := h.open h0 (fun _ _ => rfl)
 refine ⟨g, ea, hg, cur, hc, ?_, fun i hi => ?_⟩
 ·
  obtain ⟨g2, cur2, ea2, _, hc2, hr, _⟩ := h.open (show n - 1 < n by omega) (fun _ _ => rfl)
  rw [ea] at ea2
  cases ea2
  rw [hc] at hc2
  simp at hc2
  subst hc2
  omega
 ·
  obtain ⟨g2, cur2, ea2, _, hc2, hr, hv⟩ := h.open hi (fun _ _ => rfl)
  rw [ea] at ea2
  cases ea2
  rw [hc] at hc2
  simp at hc2
  subst hc2
  exact ⟨hv 0 (by omega), hv 1 (by omega), hv 2 (by omega)⟩
structure HsAt (w : World) (base g n : Nat) (st : Nat → Bool) (fo fg : Nat → Nat → Value) (H : Nat → Hst) : Prop where
 row : HRow w g n st H
 o : ∀ i, i < n → VT 110 w base (H i).aO ((H i).nO * 5) (fo i)
 g : ∀ i, i < n → VT 110 w base (H i).aG ((H i).nG * 5) (fg i)
theorem HsAt.up {w w' : World} {base g n : Nat} {st : Nat → Bool} {fo fg : Nat → Nat → Value} {H : Nat → Hst} (h : HsAt w base g n st fo fg H) (hb : Below w.heap.size w w') : HsAt w' base g n st fo fg H :=
 ⟨h.row.keep (hb.block _ h.row.lt), fun i hi => (h.o i hi).up hb, fun i hi => (h.g i hi).up hb⟩
theorem HsAt.ext {w : World} {base g n : Nat} {st st' : Nat → Bool} {fo fg fo' fg' : Nat → Nat → Value} {H : Nat → Hst} (h : HsAt w base g n st fo fg H) (h1 : ∀ i, i < n → st i = st' i) (h2 : ∀ i, i < n → fo i = fo' i) (h3 : ∀ i, i < n → fg i = fg' i) : HsAt w base g n st' fo' fg' H := by
 obtain ⟨arr, a1, a2, a3⟩ := h.row
 exact ⟨⟨arr, a1, a2, fun i hi => by rw [← h1 i hi]; exact a3 i hi⟩, fun i hi => by rw [← h2 i hi]; exact h.o i hi, fun i hi => by rw [← h3 i hi]; exact h.g i hi⟩
structure HAp (n : Nat) (H : Nat → Hst) : Prop where
 og : ∀ i, i < n → ∀ x ∈ blkO (H i).aO, x ∉ blkO (H i).aG
 ap : ∀ i j, i < n → j < n → i ≠ j → ∀ x ∈ (H i).blkz, x ∉ (H j).blkz
theorem inO {h : Hst} {x : Nat} (hx : x ∈ blkV h.aO (h.nO * 5)) : x ∈ blkO h.aO ∧ x ∈ h.blkz := ⟨(blkV_sub _ _).subset hx, List.mem_append_left _ ((blkV_sub _ _).subset hx)⟩
theorem inG {h : Hst} {x : Nat} (hx : x ∈ blkV h.aG (h.nG * 5)) : x ∈ blkO h.aG ∧ x ∈ h.blkz := ⟨(blkV_sub _ _).subset hx, List.mem_append_right _ ((blkV_sub _ _).subset hx)⟩
theorem HsAt.setO {w w' : World} {base g n k : Nat} {st : Nat → Bool} {fo fg : Nat → Nat → Value} {f' : Nat → Value} {H : Nat → Hst} (h : HsAt w base g n st fo fg H) (q : HAp n H) (hk : k < n) (ht : Touch (blkV (H k).aO ((H k).nO * 5)) w w') (hv : VT 110 w' base (H k).aO ((H k).nO * 5) f') :
  HsAt w' base g n st (fun i => if i = k then f' else fo i) fg H := by
 refine ⟨h.row.farT ht (h.o k hk).type (by decide), fun i hi => ?_, fun i hi => ?_⟩
 ·
  by_cases e : i = k
  ·
   subst e
   simp only [if_true]
   exact hv
  ·
   simp only [if_neg e]
   exact (h.o i hi).touchS ht (fun x hx hy => q.ap i k hi hk e x (inO hx).2 (inO hy).2)
 ·
  by_cases e : i = k
  ·
   subst e
   exact (h.g i hi).touchS ht (fun x hx hy => q.og i hi x (inO hy).1 (inG hx).1)
  ·
   exact (h.g i hi).touchS ht (fun x hx hy => q.ap i k hi hk e x (inG hx).2 (inO hy).2)
theorem HsAt.setG {w w' : World} {base g n k : Nat} {st : Nat → Bool} {fo fg : Nat → Nat → Value} {f' : Nat → Value} {H : Nat → Hst} (h : HsAt w base g n st fo fg H) (q : HAp n H) (hk : k < n) (ht : Touch (blkV (H k).aG ((H k).nG * 5)) w w') (hv : VT 110 w' base (H k).aG ((H k).nG * 5) f') :
  HsAt w' base g n st fo (fun i => if i = k then f' else fg i) H := by
 refine ⟨h.row.farT ht (h.g k hk).type (by decide), fun i hi => ?_, fun i hi => ?_⟩
 ·
  by_cases e : i = k
  ·
   subst e
   exact (h.o i hi).touchS ht (fun x hx hy => q.og i hi x (inO hx).1 (inG hy).1)
  ·
   exact (h.o i hi).touchS ht (fun x hx hy => q.ap i k hi hk e x (inO hx).2 (inG hy).2)
 ·
  by_cases e : i = k
  ·
   subst e
   simp only [if_true]
   exact hv
  ·
   simp only [if_neg e]
   exact (h.g i hi).touchS ht (fun x hx hy => q.ap i k hi hk e x (inG hx).2 (inG hy).2)
def HsMk (w : World) (base g n m : Nat) (H : Nat → Hst) (k : Nat) : Prop :=
 HsAt w base g n (fun i => if i < k then mb (hM m H i) else (H i).st) (fun i => if i < k then markR (hM m H i + 1) else flatT 5 fun j => ((H i).O j).frame) (fun i => if i < k then markR (hM m H i + 1 + (H i).nO * 5) else flatT 5 fun j => ((H i).G j).frame) H
def Still (base : Nat) (P : World → Prop) : Prop := ∀ (w1 w2 : World) (S : List Nat) (t' : TypeId), (t' = 73 ∨ t' = 110) → Touch S w1 w2 → (∀ x ∈ S, base ≤ x ∧ ∃ cs, w1.heap[x]? = some (.cells cs t' (0, 0))) → P w1 → P w2
theorem VT.both {t : TypeId} {w : World} {base n : Nat} {a : Option Addr} {f : Nat → Value} (h : VT t w base a n f) : ∀ x ∈ blkV a n, base ≤ x ∧ ∃ cs, w.heap[x]? = some (.cells cs t (0, 0)) := fun x hx => ⟨(h.blk x hx).1, h.type x hx⟩
set_option maxRecDepth 10000 in
set_option maxHeartbeats 2000000 in
theorem markHs_any (g n cap m base : Nat) (H : Nat → Hst) (P : World → Prop) (w : World) (hg : base ≤ g) (h : HsMk w base g n m H 0) (q : HAp n H) (hn : n ≤ 1048576) (hs : ∀ i, i < n → (H i).Small) (hm : hM m H n ≤ 40000000) (hP : P w) (hSt : Still base P) :
  Calls Tryz.prog 45 #[.slice (some ⟨g, 0, none⟩) n cap, .int .i64 m] w fun e w' => e = .returned (.int .i64 ((hM m H n : Nat) : Int)) ∧ HsMk w' base g n m H n ∧ P w' := by
 have HA : Hid (HsMk w base g n m H 0) := h
 have HQ : Hid (HAp n H) := q
 have HS : Hid (∀ i, i < n → (H i).Small) := hs
 have HSt : Hid (Still base P) := hSt
 have HP0 : Hid (P w) := hP
 have HM : Hid (hM m H n ≤ 40000000) := hm
 have HLE : Hid (∀ i, i ≤ n → hM m H i ≤ hM m H n) := hM_le m H n
 clear h q hs hSt hP hm
 go_enter Tryz.func45, Tryz.ntmps45
 go_wp2_with fail
 go_loopw [1, 5] (fun x i wr => ∃ (k c : Nat), k ≤ n ∧ i = .int .i64 k ∧ x = .int .i64 (c : Int) ∧ Hid (c = hM m H k) ∧ Hid (HsMk wr base g n m H k) ∧ Hid (P wr)) (fun _ i _ => n - (intOf i).toNat)
 case atStart => exact ⟨0, m, Nat.zero_le _, rfl, rfl, rfl, HA, HP0⟩
 case round =>
  clear HA HP0
  obtain ⟨k, c, hk, rfl, rfl, HC, HA, HP⟩ := hrel
  by_cases hlt : k < n
  ·
   have hlt' : (k : Int) < n := by omega
   have hc1 : c ≤ 40000000 := by have := HC.out; have := HM.out; have := HLE.out k hk; omega
   have hS2 : c + 1 + (H k).nO * 5 + (H k).nG * 5 ≤ 40000000 := by
    have h1 := HLE.out (k + 1) (by omega)
    have h2 : hM m H (k + 1) = hM m H k + 1 + (H k).nO * 5 + (H k).nG * 5 := rfl
    have := HC.out
    have := HM.out
    omega
   obtain ⟨arr, a1, a2, a3⟩ := HA.out.row
   have HG : Hid (wr.heap[g]? = some (.cells arr 73 (0, 0))) := a1
   have HN : Hid (n * 3 ≤ arr.size ∧ ∀ i, i < n → arr[i * 3]? = some (.bool (if i < k then mb (hM m H i) else (H i).st)) ∧ arr[i * 3 + 1]? = some (.slice (H i).aO (H i).nO (H i).cO) ∧ arr[i * 3 + 2]? = some (.slice (H i).aG (H i).nG (H i).cG)) := ⟨a2, a3⟩
   clear a1 a2 a3
   go_wp2_with (refine wpList_stA rfl 4 (.tmp 18) (.tmp 16) rfl g (k * 3) (by simp [Act.eval]) (.bool (mb c)) (by simp [Act.eval, mb_c]) 1 rfl 73 arr HG.out infoB1 (by have := HN.out.1; omega) (by simp [Value.cells, Value.oneCell']) ?_)
   intro W1 hP1
   have HA1 : Hid (HsAt W1 base g n (fun i => if i = k then mb c else if i < k then mb (hM m H i) else (H i).st) (fun i => if i < k then markR (hM m H i + 1) else flatT 5 fun j => ((H i).O j).frame) (fun i => if i < k then markR (hM m H i + 1 + (H i).nO * 5) else flatT 5 fun j => ((H i).G j).frame) H) :=
    ⟨HRow.put HN.out.1 HN.out.2 hlt hP1, fun i hi => (HA.out.o i hi).farT hP1.to (typ1 HG.out) (by decide), fun i hi => (HA.out.g i hi).farT hP1.to (typ1 HG.out) (by decide)⟩
   have HP1 : Hid (P W1) := HSt.out _ _ _ _ (.inl rfl) hP1.to (fun x hx => by rw [List.mem_singleton.1 hx]; exact ⟨hg, _, HG.out⟩) HP.out
   clear hP1 HG HN HA HP
   obtain ⟨arr, b1, b2, b3⟩ := HA1.out.row
   have v1 : W1.cell? ⟨g, k * 3 + 1, none⟩ = some (.slice (H k).aO (H k).nO (H k).cO) := (blk_cell b1 _).trans (b3 k hlt).2.1
   clear b1 b2 b3
   have HVO : Hid (VT 110 W1 base (H k).aO ((H k).nO * 5) (flatT 5 fun j => ((H k).O j).frame)) := by
    have := HA1.out.o k hlt
    try dsimp only at this
    rw [if_neg (Nat.lt_irrefl k)] at this
    exact this
   go_wp2_with fail
   clear v1
   refine (markFrV_any (H k).aO (H k).nO (H k).cO (c + 1) base _ _ HVO.out (HS.out k hlt).o (by omega)).mono ?_
   rintro e W2 ⟨rfl, hv, ht⟩
   have HA2 := Hid.mk' (HA1.out.setO HQ.out hlt ht hv)
   have HP2 : Hid (P W2) := HSt.out _ _ _ _ (.inr rfl) ht HVO.out.both HP1.out
   clear hv ht HA1 HP1 HVO
   obtain ⟨arr, b1, b2, b3⟩ := HA2.out.row
   have v2 : W2.cell? ⟨g, k * 3 + 2, none⟩ = some (.slice (H k).aG (H k).nG (H k).cG) := (blk_cell b1 _).trans (b3 k hlt).2.2
   clear b1 b2 b3
   have HVG : Hid (VT 110 W2 base (H k).aG ((H k).nG * 5) (flatT 5 fun j => ((H k).G j).frame)) := by
    have := HA2.out.g k hlt
    try dsimp only at this
    rw [if_neg (Nat.lt_irrefl k)] at this
    exact this
   go_wp2_with fail
   clear v2
   refine (markFrV_any (H k).aG (H k).nG (H k).cG (c + 1 + (H k).nO * 5) base _ _ HVG.out (HS.out k hlt).g (by omega)).mono ?_
   rintro e W3 ⟨rfl, hv, ht⟩
   have HA3 : Hid (HsMk W3 base g n m H (k + 1)) := by
    refine (HA2.out.setG HQ.out hlt ht hv).ext (fun i hi => ?_) (fun i hi => ?_) (fun i hi => ?_)
    all_goals
     by_cases e : i = k
     ·
      subst e
      simp only [if_true, if_pos (Nat.lt_succ_self _), HC.out]
     ·
      simp only [if_neg e]
      by_cases e2 : i < k
      ·
       rw [if_pos e2, if_pos (by omega)]
      ·
       rw [if_neg e2, if_neg (by omega)]
   have HP3 : Hid (P W3) := HSt.out _ _ _ _ (.inr rfl) ht HVG.out.both HP2.out
   clear hv ht HA2 HP2 HVG
   have HC2 : Hid (c + 1 + (H k).nO * 5 + (H k).nG * 5 = hM m H (k + 1)) := by
    show c + 1 + (H k).nO * 5 + (H k).nG * 5 = hM m H k + 1 + (H k).nO * 5 + (H k).nG * 5
    rw [HC.out]
   go_wp2_with fail
   go_roundw
   case rel => exact ⟨k + 1, _, by omega, by go_num, rfl, HC2, HA3, HP3⟩
   case measure => simp [intOf]; omega
  ·
   obtain rfl : k = n := by omega
   go_wp2_with fail
   go_ret
   exact ⟨ret_int (by rw [HC.out]), HA.out, HP.out⟩
set_option maxRecDepth 10000 in
set_option maxHeartbeats 2000000 in
theorem heldHs_any (g n cap m base : Nat) (H : Nat → Hst) (w : World) (h : HsMk w base g n m H n) (hn : n ≤ 1048576) (hs : ∀ i, i < n → (H i).Small) (hm : hM m H n ≤ 40000000) :
  Calls Tryz.prog 48 #[.slice (some ⟨g, 0, none⟩) n cap, .int .i64 m] w fun e w' => e = .returned (.int .i64 ((hM m H n : Nat) : Int)) ∧ Below w.heap.size w w' := by
 have HA0 : Hid (HsMk w base g n m H n) := h
 have HS : Hid (∀ i, i < n → (H i).Small) := hs
 have HM : Hid (hM m H n ≤ 40000000) := hm
 have HLE : Hid (∀ i, i ≤ n → hM m H i ≤ hM m H n) := hM_le m H n
 clear h hs hm
 go_enter Tryz.func48, Tryz.ntmps48
 go_wp2_with fail
 go_loopw [1, 5] (fun x i wr => ∃ (k c : Nat), k ≤ n ∧ i = .int .i64 k ∧ x = .int .i64 (c : Int) ∧ Hid (c = hM m H k) ∧ Hid (Below w.heap.size w wr)) (fun _ i _ => n - (intOf i).toNat)
 case atStart => exact ⟨0, m, Nat.zero_le _, rfl, rfl, rfl, Below.refl _ _⟩
 case round =>
  obtain ⟨k, c, hk, rfl, rfl, HC, HB⟩ := hrel
  by_cases hlt : k < n
  ·
   have hlt' : (k : Int) < n := by omega
   have hc1 : c ≤ 40000000 := by have := HC.out; have := HM.out; have := HLE.out k hk; omega
   have hS2 : c + 1 + (H k).nO * 5 + (H k).nG * 5 ≤ 40000000 := by
    have h1 := HLE.out (k + 1) (by omega)
    have h2 : hM m H (k + 1) = hM m H k + 1 + (H k).nO * 5 + (H k).nG * 5 := rfl
    have := HC.out
    have := HM.out
    omega
   have HA : Hid (HsMk wr base g n m H n) := HA0.out.up HB.out
   obtain ⟨arr, b1, b2, b3⟩ := HA.out.row
   have v0 : wr.cell? ⟨g, k * 3, none⟩ = some (.bool (mb c)) := by
    rw [blk_cell b1, (b3 k hlt).1]
    dsimp only
    rw [if_pos hlt, HC.out]
   have v1 : wr.cell? ⟨g, k * 3 + 1, none⟩ = some (.slice (H k).aO (H k).nO (H k).cO) := (blk_cell b1 _).trans (b3 k hlt).2.1
   have HVO : Hid (VT 110 wr base (H k).aO ((H k).nO * 5) (markR (c + 1))) := by
    have := HA.out.o k hlt
    try dsimp only at this
    rw [if_pos hlt, ← HC.out] at this
    exact this
   have hmb : (mb c == (((c : Int)) % 3 == 0)) = true := by rw [mb_c]; cases mb c <;> rfl
   clear b1 b2 b3
   go_wp2_with fail
   clear v0 v1 hmb
   refine (heldFrV_any (H k).aO (H k).nO (H k).cO (c + 1) base _ HVO.out (HS.out k hlt).o (by omega)).mono ?_
   rintro e W2 ⟨rfl, hb⟩
   have HB2 : Hid (Below w.heap.size w W2) := HB.out.trans (hb.mono HB.out.size)
   have HA2 : Hid (HsMk W2 base g n m H n) := HA.out.up hb
   clear hb HB HA HVO
   obtain ⟨arr, b1, b2, b3⟩ := HA2.out.row
   have v2 : W2.cell? ⟨g, k * 3 + 2, none⟩ = some (.slice (H k).aG (H k).nG (H k).cG) := (blk_cell b1 _).trans (b3 k hlt).2.2
   have HVG : Hid (VT 110 W2 base (H k).aG ((H k).nG * 5) (markR (c + 1 + (H k).nO * 5))) := by
    have := HA2.out.g k hlt
    try dsimp only at this
    rw [if_pos hlt, ← HC.out] at this
    exact this
   have hp1 : ¬ ((c + 1 + (H k).nO * 5 : Nat) : Int) < 0 := by omega
   clear b1 b2 b3
   go_wp2_with fail
   clear v2
   refine (heldFrV_any (H k).aG (H k).nG (H k).cG (c + 1 + (H k).nO * 5) base _ HVG.out (HS.out k hlt).g (by omega)).mono ?_
   rintro e W3 ⟨rfl, hb⟩
   have HB3 : Hid (Below w.heap.size w W3) := HB2.out.trans (hb.mono HB2.out.size)
   clear hb HB2 HA2 HVG
   have HC2 : Hid (c + 1 + (H k).nO * 5 + (H k).nG * 5 = hM m H (k + 1)) := by
    show c + 1 + (H k).nO * 5 + (H k).nG * 5 = hM m H k + 1 + (H k).nO * 5 + (H k).nG * 5
    rw [HC.out]
   have hp2 : ¬ ((c + 1 + (H k).nO * 5 + (H k).nG * 5 : Nat) : Int) < 0 := by omega
   go_wp2_with fail
   go_roundw
   case rel => exact ⟨k + 1, _, by omega, by go_num, rfl, HC2, HB3⟩
   case measure => simp [intOf]; omega
  ·
   obtain rfl : k = n := by omega
   go_wp2_with fail
   go_ret
   exact ⟨ret_int (by rw [HC.out]), HB.out⟩
theorem markHs0 (a : Option Addr) (cap m : Nat) (w : World) : Calls Tryz.prog 45 #[.slice a 0 cap, .int .i64 m] w fun e w' => e = .returned (.int .i64 (m : Int)) ∧ w' = w := by
 go_enter Tryz.func45, Tryz.ntmps45
 go_wp2_with fail
 go_loop [1, 5] (fun x i => i = .int .i64 0 ∧ x = .int .i64 (m : Int)) (fun _ _ => 0)
 case atStart => exact ⟨rfl, rfl⟩
 case round =>
  obtain ⟨rfl, rfl⟩ := hrel
  go_wp2_with fail
  go_ret
  exact ⟨rfl, rfl⟩
theorem heldHs0 (a : Option Addr) (cap m : Nat) (w : World) : Calls Tryz.prog 48 #[.slice a 0 cap, .int .i64 m] w fun e w' => e = .returned (.int .i64 (m : Int)) ∧ w' = w := by
 go_enter Tryz.func48, Tryz.ntmps48
 go_wp2_with fail
 go_loop [1, 5] (fun x i => i = .int .i64 0 ∧ x = .int .i64 (m : Int)) (fun _ _ => 0)
 case atStart => exact ⟨rfl, rfl⟩
 case round =>
  obtain ⟨rfl, rfl⟩ := hrel
  go_wp2_with fail
  go_ret
  exact ⟨rfl, rfl⟩
def MkdH (w : World) (base m : Nat) (a : Option Addr) (n : Nat) (H : Nat → Hst) : Prop := n = 0 ∨ ∃ g, a = some ⟨g, 0, none⟩ ∧ HsMk w base g n m H n
theorem MkdH.up {w w' : World} {base m : Nat} {a : Option Addr} {n : Nat} {H : Nat → Hst} (h : MkdH w base m a n H) (hb : Below w.heap.size w w') : MkdH w' base m a n H := Or.imp id (by rintro ⟨g, ha, hl⟩; exact ⟨g, ha, HsAt.up hl hb⟩) h
theorem markHV_any (a : Option Addr) (n cap m base : Nat) (H : Nat → Hst) (P : World → Prop) (w : World) (h : OwnHs w base a n cap H) (hn : n ≤ 1048576) (hs : ∀ i, i < n → (H i).Small) (hm : hM m H n ≤ 40000000) (hP : P w) (hSt : Still base P) :
  Calls Tryz.prog 45 #[.slice a n cap, .int .i64 m] w fun e w' => e = .returned (.int .i64 ((hM m H n : Nat) : Int)) ∧ MkdH w' base m a n H ∧ P w' := by
 by_cases h0 : n = 0
 ·
  subst h0
  refine (markHs0 a cap m w).mono ?_
  rintro e w' ⟨rfl, rfl⟩
  exact ⟨rfl, .inl rfl, hP⟩
 ·
  obtain ⟨g, rfl, hg, hr⟩ := h.h.hrow (by omega)
  have h1 : HsMk w base g n m H 0 := ⟨hr, fun i hi => (h.hs i hi).o.vt (tV_get (fun _ _ => rfl)), fun i hi => (h.hs i hi).g.vt (tV_get (fun _ _ => rfl))⟩
  refine (markHs_any g n cap m base H P w hg h1 ⟨fun i hi => (h.hs i hi).og, h.ap⟩ hn hs hm hP hSt).mono ?_
  rintro e w' ⟨rfl, h2, h3⟩
  exact ⟨rfl, .inr ⟨g, rfl, h2⟩, h3⟩
theorem heldHV_any (a : Option Addr) (n cap m base : Nat) (H : Nat → Hst) (w : World) (h : MkdH w base m a n H) (hn : n ≤ 1048576) (hs : ∀ i, i < n → (H i).Small) (hm : hM m H n ≤ 40000000) :
  Calls Tryz.prog 48 #[.slice a n cap, .int .i64 m] w fun e w' => e = .returned (.int .i64 ((hM m H n : Nat) : Int)) ∧ Below w.heap.size w w' := by
 by_cases h0 : n = 0
 ·
  subst h0
  refine (heldHs0 a cap m w).mono ?_
  rintro e w' ⟨rfl, rfl⟩
  exact ⟨rfl, Below.refl _ _⟩
 ·
  rcases h with h | ⟨g, rfl, h⟩
  ·
   exact absurd h h0
  ·
   exact heldHs_any g n cap m base H w h hn hs hm
theorem MkdS.farT {t' : TypeId} {w w' : World} {base m : Nat} {G : Swg} {S : List Nat} (h : MkdS w base m G) (ht : Touch S w w') (hS : ∀ x ∈ S, ∃ cs, w.heap[x]? = some (.cells cs t' (0, 0))) (q : OffS t') : MkdS w' base m G :=
 ⟨h.e.farT ht hS q.e, h.u.farT ht hS q.i, h.p.farT ht hS q.b, h.k.farT ht hS q.k, h.l.imp (fun g hl => hl.farT ht hS q.l q.i q.s)⟩
theorem OwnSg.allT {w : World} {base : Nat} {S : Swg} (h : OwnSg w base S) : ∀ x ∈ S.all, ∃ cs t, w.heap[x]? = some (.cells cs t (0, 0)) ∧ t ≠ 73 ∧ t ≠ 110 ∧ t ≠ 49 := by
 intro x hx
 unfold Swg.all allV at hx
 simp only [List.mem_append, List.mem_flatMap, List.mem_range] at hx
 have two : ∀ {a : Option Addr} {n : Nat} {f : Nat → Value}, VG 2 w base a n f → x ∈ blkV a n → ∃ cs t, w.heap[x]? = some (.cells cs t (0, 0)) ∧ t ≠ 73 ∧ t ≠ 110 ∧ t ≠ 49 := fun hv hx => by
  obtain ⟨cs, e⟩ := hv.type x hx
  exact ⟨cs, _, e, by decide, by decide, by decide⟩
 rcases hx with hx | hx | hx | hx | hx | ⟨i, hi, hx⟩
 ·
  obtain ⟨cs, e⟩ := h.e.type x hx
  exact ⟨cs, _, e, by decide, by decide, by decide⟩
 ·
  obtain ⟨cs, e⟩ := h.u.type x hx
  exact ⟨cs, _, e, by decide, by decide, by decide⟩
 ·
  obtain ⟨cs, e⟩ := h.p.type x hx
  exact ⟨cs, _, e, by decide, by decide, by decide⟩
 ·
  obtain ⟨cs, e⟩ := h.k.type x hx
  exact ⟨cs, _, e, by decide, by decide, by decide⟩
 ·
  obtain ⟨cs, e⟩ := h.l.type x hx
  exact ⟨cs, _, e, by decide, by decide, by decide⟩
 ·
  have hl := h.ls i hi
  unfold Lng.blks at hx
  simp only [List.mem_append, blkS_mem] at hx
  rcases hx with hx | ⟨j, hj, hx⟩ | hx | hx | ⟨j, hj, hx⟩
  ·
   exact two hl.t hx
  ·
   exact two (hl.z j hj) hx
  ·
   exact two hl.q hx
  ·
   exact two hl.d hx
  ·
   exact two (hl.y j hj) hx
theorem OwnHs.offS {w w' : World} {base base' : Nat} {aH : Option Addr} {nH cH : Nat} {H : Nat → Hst} {S : Swg} (k : OwnHs w base aH nH cH H) (h : OwnSg w base' S) (ht : Touch S.all w w') : OwnHs w' base aH nH cH H := by
 have no : ∀ {t : TypeId} {sz : Nat} {a : Option Addr} {n c : Nat} {xs : List Value}, OG t sz w base a n c xs → (t = 73 ∨ t = 110) → OG t sz w' base a n c xs := fun hv ht2 => hv.touchS ht (fun x hx hy => by
  obtain ⟨cs, e1⟩ := hv.type x hx
  obtain ⟨cs', t', e2, n1, n2, _⟩ := h.allT x hy
  rw [e1] at e2
  simp at e2
  rcases ht2 with rfl | rfl
  ·
   exact n1 e2.2.symm
  ·
   exact n2 e2.2.symm)
 exact ⟨no k.h (.inl rfl), fun i hi => ⟨no (k.hs i hi).o (.inr rfl), no (k.hs i hi).g (.inr rfl), (k.hs i hi).og⟩, k.ap⟩
structure MkdF (w : World) (base : Nat) (F : Fab) : Prop where
 s : MkdS w base 1 F.S
 h : MkdH w base (F.S.mEnd 1) F.aH F.nH F.H
theorem MkdF.up {w w' : World} {base : Nat} {F : Fab} (h : MkdF w base F) (hb : Below w.heap.size w w') : MkdF w' base F := ⟨h.s.up hb, h.h.up hb⟩
def Fab.mk9 (F : Fab) : Nat := hM (F.S.mEnd 1) F.H F.nH
set_option maxRecDepth 10000 in
set_option maxHeartbeats 2000000 in
theorem markFb_any (F : Fab) (base : Nat) (w : World) (h : OwnFz w base F) (hs : F.Small) (ht : F.S.tot ≤ 2000000) (hm : F.mk9 ≤ 40000000) (hu : F.nU = 0) (hd : F.nD = 0) (hbase : base ≤ w.heap.size) :
  Calls Tryz.prog 17 #[.agg F.cells, .int .i64 1] w fun e w' => e = .returned (.int .i64 ((F.mk9 : Nat) : Int)) ∧ MkdF w' base F ∧ Below base w w' ∧ ∀ (x : Nat) (cs : Array Value), w.heap[x]? = some (.cells cs 49 (0, 0)) → w'.heap[x]? = some (.cells cs 49 (0, 0)) := by
 have HO : Hid (OwnFz w base F) := h
 have HS : Hid F.Small := hs
 have HT : Hid (F.S.tot ≤ 2000000 ∧ F.mk9 ≤ 40000000) := ⟨ht, hm⟩
 obtain ⟨W, eW⟩ : ∃ W, w.alloc (.cells F.cells 49) = W := ⟨_, rfl⟩
 have hB : Below (w.heap.size + 1) (w.alloc (.cells F.cells 49)) W := by rw [eW]; exact Below.refl _ _
 have HK : Hid (W.heap[w.heap.size]? = some (.cells F.cells 49 (0, 0))) := kept1 hB
 have HW : Hid (Below w.heap.size w W) := under hB
 have HL : Hid (∀ j, j < 17 → W.cell? ⟨w.heap.size, 0 + j, none⟩ = F.S.cells[j]?) := blkSw HK.out
 clear h hs ht hm hB
 go_enter Tryz.func17, Tryz.ntmps17
 go_wp2_with (refine wpList_ldT rfl 45 17 _ Tryz.underlying45 rfl infoSgI (.tmp 5) rfl w.heap.size 0 rfl F.S.cells rfl HL.out ?_)
 clear eW HL
 refine (markSw_any F.S base _ (HO.out.s.up HW.out) HS.out.s HT.out.1).mono ?_
 rintro e w1 ⟨rfl, hmk, hto⟩
 have hsW := HO.out.s.up HW.out
 have HK1 : Hid (w1.heap[w.heap.size]? = some (.cells F.cells 49 (0, 0))) := (hto.block _ (blk_lt HK.out) (fun hx => by
  have := (HO.out.s.all _ hx).2
  omega)).trans HK.out
 have HP : Hid (MkdS w1 base 1 F.S ∧ Below base w w1 ∧ ∀ (x : Nat) (cs : Array Value), W.heap[x]? = some (.cells cs 49 (0, 0)) → w1.heap[x]? = some (.cells cs 49 (0, 0))) := ⟨hmk, (HW.out.mono hbase).trans (hto.below (Nat.le_trans hbase HW.out.size) (fun x hx => (hsW.all x hx).1)), fun x cs hx => (hto.block _ (blk_lt hx) (fun hy => by
  obtain ⟨cs', t', e2, _, _, n3⟩ := hsW.allT x hy
  rw [hx] at e2
  simp at e2
  exact n3 e2.2.symm)).trans hx⟩
 have HH : Hid (OwnHs w1 base F.aH F.nH F.cH F.H) := (HO.out.h.up HW.out).offS hsW hto
 have HSt : Hid (Still base fun w' => MkdS w' base 1 F.S ∧ Below base w w' ∧ ∀ (x : Nat) (cs : Array Value), W.heap[x]? = some (.cells cs 49 (0, 0)) → w'.heap[x]? = some (.cells cs 49 (0, 0))) := by
  intro u1 u2 S t' ht' hT hS hp
  have hS2 : ∀ x ∈ S, ∃ cs, u1.heap[x]? = some (.cells cs t' (0, 0)) := fun x hx => (hS x hx).2
  refine ⟨?_, hp.2.1.trans (hT.below (Nat.le_trans hbase hp.2.1.size) (fun x hx => (hS x hx).1)), fun y cs hy => (hT.block _ (blk_lt (hp.2.2 y cs hy)) (fun hx => ?_)).trans (hp.2.2 y cs hy)⟩
  ·
   rcases ht' with rfl | rfl
   ·
    exact hp.1.farT hT hS2 offHt
   ·
    exact hp.1.farT hT hS2 offFr
  ·
   obtain ⟨cs', e⟩ := hS2 _ hx
   rw [hp.2.2 y cs hy] at e
   simp at e
   rcases ht' with rfl | rfl
   ·
    exact absurd e.2 (by decide)
   ·
    exact absurd e.2 (by decide)
 have c17 : w1.cell? ⟨w.heap.size, 17, none⟩ = some (.slice F.aH F.nH F.cH) := blk_cell HK1.out 17
 clear hmk hto hsW HK1
 go_wp2_with fail
 clear c17
 refine (markHV_any F.aH F.nH F.cH (F.S.mEnd 1) base F.H _ _ HH.out HS.out.h HS.out.hs HT.out.2 HP.out HSt.out).mono ?_
 rintro e w2 ⟨rfl, hmh, hp⟩
 have HF : Hid (MkdF w2 base F ∧ Below base w w2 ∧ ∀ (x : Nat) (cs : Array Value), w.heap[x]? = some (.cells cs 49 (0, 0)) → w2.heap[x]? = some (.cells cs 49 (0, 0))) := ⟨⟨hp.1, hmh⟩, hp.2.1, fun x cs hx => hp.2.2 x cs ((HW.out.block _ (blk_lt hx)).trans hx)⟩
 have hkk := hp.2.2 _ _ HK.out
 have c18 : w2.cell? ⟨w.heap.size, 18, none⟩ = some (.slice F.aU 0 F.cU) := by rw [blk_cell hkk 18, ← hu]; rfl
 have c19 : w2.cell? ⟨w.heap.size, 19, none⟩ = some (.slice F.aD 0 F.cD) := by rw [blk_cell hkk 19, ← hd]; rfl
 clear hmh hp HH HP HSt hkk HK HW
 go_wp2_with fail
 refine (markFls0 F.aU F.cU F.mk9 _).mono ?_
 rintro e w3 ⟨rfl, rfl⟩
 go_wp2_with fail
 refine (markFls0 F.aD F.cD F.mk9 _).mono ?_
 rintro e w4 ⟨rfl, rfl⟩
 clear c18 c19
 go_wp2_with fail
 go_ret
 exact ⟨rfl, HF.out.1, HF.out.2.1, HF.out.2.2⟩
set_option maxRecDepth 10000 in
set_option maxHeartbeats 2000000 in
theorem heldFb_any (F : Fab) (base : Nat) (w : World) (h : MkdF w base F) (hs : F.Small) (ht : F.S.tot ≤ 2000000) (hm : F.mk9 ≤ 40000000) (hu : F.nU = 0) (hd : F.nD = 0) :
  Calls Tryz.prog 18 #[.agg F.cells, .int .i64 1] w fun e w' => e = .returned (.int .i64 ((F.mk9 : Nat) : Int)) ∧ Below w.heap.size w w' := by
 have HO : Hid (MkdF w base F) := h
 have HS : Hid F.Small := hs
 have HT : Hid (F.S.tot ≤ 2000000 ∧ F.mk9 ≤ 40000000) := ⟨ht, hm⟩
 obtain ⟨W, eW⟩ : ∃ W, w.alloc (.cells F.cells 49) = W := ⟨_, rfl⟩
 have HB : Hid (Below (w.heap.size + 1) (w.alloc (.cells F.cells 49)) W) := by rw [eW]; exact Below.refl _ _
 have HL : Hid (∀ j, j < 17 → W.cell? ⟨w.heap.size, 0 + j, none⟩ = F.S.cells[j]?) := blkSw (kept1 HB.out)
 clear h hs ht hm
 go_enter Tryz.func18, Tryz.ntmps18
 go_wp2_with (refine wpList_ldT rfl 45 17 _ Tryz.underlying45 rfl infoSgI (.tmp 5) rfl w.heap.size 0 rfl F.S.cells rfl HL.out ?_)
 clear eW HL
 refine (heldSw_any F.S base _ (HO.out.s.up (under HB.out)) HS.out.s HT.out.1).mono ?_
 rintro e w1 ⟨rfl, hb⟩
 replace HB : Hid (Below (w.heap.size + 1) (w.alloc (.cells F.cells 49)) w1) := next HB.out hb
 have c17 : w1.cell? ⟨w.heap.size, 17, none⟩ = some (.slice F.aH F.nH F.cH) := blk_cell (kept1 HB.out) 17
 have p1 : ¬ ((F.S.mEnd 1 : Nat) : Int) < 0 := by omega
 clear hb
 go_wp2_with fail
 clear c17
 refine (heldHV_any F.aH F.nH F.cH (F.S.mEnd 1) base F.H _ (HO.out.h.up (under HB.out)) HS.out.h HS.out.hs HT.out.2).mono ?_
 rintro e w2 ⟨rfl, hb⟩
 replace HB : Hid (Below (w.heap.size + 1) (w.alloc (.cells F.cells 49)) w2) := next HB.out hb
 have c18 : w2.cell? ⟨w.heap.size, 18, none⟩ = some (.slice F.aU 0 F.cU) := by rw [blk_cell (kept1 HB.out) 18, ← hu]; rfl
 have c19 : w2.cell? ⟨w.heap.size, 19, none⟩ = some (.slice F.aD 0 F.cD) := by rw [blk_cell (kept1 HB.out) 19, ← hd]; rfl
 have p2 : ¬ ((hM (F.S.mEnd 1) F.H F.nH : Nat) : Int) < 0 := by omega
 clear hb
 go_wp2_with fail
 refine (heldFls0 F.aU F.cU F.mk9 _).mono ?_
 rintro e w3 ⟨rfl, rfl⟩
 have p3 : ¬ ((F.mk9 : Nat) : Int) < 0 := by omega
 go_wp2_with fail
 refine (heldFls0 F.aD F.cD F.mk9 _).mono ?_
 rintro e w4 ⟨rfl, rfl⟩
 have B9 := under HB.out
 clear c18 c19
 go_wp2_with fail
 go_ret
 exact ⟨rfl, B9⟩
open Go.ChangeShapes Go.WideShapes Go.ChangeAt in
set_option maxRecDepth 100000 in
theorem open_rws {H : Type} {enc : TypeId × Value → H} {W : World} {b0 : Nat} {held : Bool} {r : Reach} {v : Value} {d : DataW H} {p : List MemPlace}
  (hv : Value.okWide Tryz.prog W r b0 53 v) (h : DataW.Trod enc Tryz.prog W 0 (fun _ => true) held 53 v d p) : ∃ R : Rws, v = .slice R.a R.n R.c ∧ R.Fit ∧ RdRws W R := by
 obtain ⟨a9, n9, c9, rfl⟩ := okWide_slice Tryz.underlying53 hv
 obtain ⟨fuel, hf⟩ := h
 change DataW.trod enc Tryz.prog W 0 (fun _ => true) held fuel 53 [.slice a9 n9 c9] = some (d, p) at hf
 rcases Go.Deep.open_slice Tryz.underlying53 hf with ⟨hcs, _⟩ | ⟨a, len, cap, m, n, D, Pl, hcs, hb, hl, hm, hmm, _, hx⟩
 ·
  simp at hcs
  obtain ⟨rfl, rfl, rfl⟩ := hcs
  exact ⟨⟨none, 0, 0, fun _ => none, fun _ => 0, fun _ => 0, fun _ _ => default⟩, rfl, ⟨Nat.zero_le _, fun i hi => absurd hi (Nat.not_lt_zero _), fun i hi => absurd hi (Nat.not_lt_zero _)⟩, ⟨RdRow.nil _ _ _, fun i hi => absurd hi (Nat.not_lt_zero _)⟩⟩
 ·
  simp at hcs hmm
  subst hmm
  obtain ⟨rfl, rfl, rfl⟩ := hcs
  have each : ∀ i, i < c9 → ∃ y : Option Addr × Nat × Nat × (Nat → Pkt), W.cell? (a.add (i * 1 + 0)) = some (.slice y.1 y.2.1 y.2.2.1) ∧ y.2.1 ≤ maxLen ∧ RdF W y.1 y.2.1 y.2.2.2 ∧ ∀ j, j < y.2.1 → (y.2.2.2 j).b.size ≤ maxLen := by
   intro i hi
   obtain ⟨cs', h1, h2⟩ := hx i hi
   rw [show Tryz.prog.cellsOf 83 = 1 by kernel_rfl] at h1
   obtain ⟨_, hlen, hcell⟩ := World.cells?_some h1
   match cs', hlen with
   | [v1], _ =>
    obtain ⟨a1, n1, c1, K, rfl, fn, rf, bf⟩ := openL_frames h2
    have e0 := hcell 0 (by omega)
    rw [Go.Deep.add_add] at e0
    exact ⟨(a1, n1, c1, K), e0, fn, rf, bf⟩
  obtain ⟨f, hf2⟩ := Go.Deep.choose_lt each
  obtain ⟨b, off, spot⟩ := a
  refine ⟨⟨some ⟨b, off, spot⟩, n9, c9, fun i => (f i).1, fun i => (f i).2.1, fun i => (f i).2.2.1, fun i => (f i).2.2.2⟩, rfl, ⟨by dsimp only; omega, fun i hi => (hf2 i (Nat.lt_of_lt_of_le hi hl)).2.1, fun i hi => (hf2 i (Nat.lt_of_lt_of_le hi hl)).2.2.2⟩, ⟨fun i hi => ?_, fun i hi => (hf2 i (Nat.lt_of_lt_of_le hi hl)).2.2.1⟩⟩
  have hi9 := Nat.lt_of_lt_of_le hi hl
  have q := (hf2 i hi9).1
  have hspot : spot = none := by
   have h0 := (hf2 0 (by omega)).1
   simpa [Addr.add] using World.cell?_spot h0
  subst hspot
  refine ⟨b, off, rfl, ?_⟩
  rw [addr_addR] at q
  rw [Nat.mul_one, Nat.add_zero] at q
  exact q
end Go.Proofs.YtfkpncopkgidfaaGreat
