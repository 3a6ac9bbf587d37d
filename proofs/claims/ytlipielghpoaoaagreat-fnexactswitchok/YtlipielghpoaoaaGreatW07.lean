/- Whether a round is right: the program's answer. -/
import Derived.Test.YtlipielghpoaoaaGreatW04
import Derived.Test.YtlipielghpoaoaaGreatW06
import Derived.Lib.AppendZeros
import Derived.LoopIn
import Derived.LoopNIn
import Derived.Maps.AppendAt
import Derived.OwnWalkIn
import Derived.RangeFuncBound
import Derived.RangeFuncCalls
import Derived.RangeFuncLeaves
import Derived.RangeFuncNested
import Derived.Room.AppendFits
import Derived.Shelf.Abstract
import Derived.Shelf.RegionOpen
import Derived.TacticsInMore
namespace Go.Proofs.YtlipielghpoaoaaGreat
open Go.RowKit
set_option linter.unusedVariables false
set_option linter.unusedSimpArgs false

theorem wpList_ldPkG {ops : Array Oper} {rest : List Oper} {o : Oper} {a : Act} {w : World} {Q : Exit → Act → World → Prop} (x : Operand) (ho : o.op = .load 60 x) (hw : Region.wanted o (yielded ops a.tmps) = true) (b off : Nat) (hx : a.eval x = .pointer (some ⟨b, off, none⟩))
  (X : Pkt) (hc : ∀ j, j < 8 → w.cell? ⟨b, off + j, none⟩ = X.cells[j]?) (h : wpList Tryz.prog ops Q rest (a.put o.dst (.agg X.cells)) w) : wpList Tryz.prog ops Q (o :: rest) a w :=
 wpList_step fun K hK => by
  rw [if_pos hw]
  exact wp_load_mid 60 x ho b off hx X.cells.toList _ (fun j v hv => by
   have hj : j < 8 := by
    have := (List.getElem?_eq_some_iff.1 hv).1
    simpa [Pkt.cells] using this
   rw [hc j hj, ← Array.getElem?_toList]
   exact hv) Tryz.underlying60 rfl infoPk (hK _ _ h)
def cmpI (a b : Int) : Int := if a < b then -1 else if b < a then 1 else 0
theorem isNaN_any (a : Int) (w : World) :
  Calls Tryz.prog 148 #[.int .i64 a] w fun e w' => e = .returned (.bool false) ∧ w' = w := by
 have h : (a != a) = false := by simp
 go_enter Tryz.func148, Tryz.ntmps148
 go_wp2
 go_ret
 exact ⟨ret_bool (by simp), rfl⟩
theorem cmp_any (a b : Int) (w : World) :
  Calls Tryz.prog 143 #[.int .i64 a, .int .i64 b] w fun e w' => e = .returned (.int .i64 (cmpI a b)) ∧ w' = w := by
 by_cases h1 : a < b
 ·
  have e : cmpI a b = -1 := if_pos h1
  rw [e]
  go_enter Tryz.func143, Tryz.ntmps143
  go_wp2_with (go_at_call 148; refine (isNaN_any _ _).mono ?_; rintro e w' ⟨rfl, rfl⟩)
  go_ret
  exact ⟨rfl, rfl⟩
 ·
  by_cases h2 : b < a
  ·
   have e : cmpI a b = 1 := by unfold cmpI; rw [if_neg h1, if_pos h2]
   rw [e]
   go_enter Tryz.func143, Tryz.ntmps143
   go_wp2_with (go_at_call 148; refine (isNaN_any _ _).mono ?_; rintro e w' ⟨rfl, rfl⟩)
   go_ret
   exact ⟨rfl, rfl⟩
  ·
   have e : cmpI a b = 0 := by unfold cmpI; rw [if_neg h1, if_neg h2]
   rw [e]
   go_enter Tryz.func143, Tryz.ntmps143
   go_wp2_with (go_at_call 148; refine (isNaN_any _ _).mono ?_; rintro e w' ⟨rfl, rfl⟩)
   go_ret
   exact ⟨rfl, rfl⟩
theorem cmpPk_any (x : Pkt) (b : Int) (w : World) :
  Calls Tryz.prog 142 #[.agg x.cells, .int .i64 b] w fun e w' => e = .returned (.int .i64 (cmpI x.id b)) ∧ Below w.heap.size w w' := by
 have hB : Below (w.heap.size + 1) (w.alloc (.cells x.cells 60)) (w.alloc (.cells x.cells 60)) := Below.refl _ _
 have c0 : (w.alloc (.cells x.cells 60)).cell? ⟨w.heap.size, 0, none⟩ = some (.int .i64 x.id) := boxed hB 0
 go_enter Tryz.func142, Tryz.ntmps142
 go_wp2_with (go_at_call 143; refine (cmp_any _ _ _).mono ?_; rintro e w' ⟨rfl, rfl⟩)
 go_ret
 exact ⟨rfl, under hB⟩
theorem cmpI_lt {a b : Int} : cmpI a b < 0 ↔ a < b := by
 unfold cmpI
 split
 ·
  simp [*]
 ·
  split
  ·
   simp; omega
  ·
   simp; omega
theorem cmpI_eq {a b : Int} : cmpI a b = 0 ↔ a = b := by
 unfold cmpI
 split
 ·
  simp; omega
 ·
  split
  ·
   simp; omega
  ·
   simp; omega
/-- where a search ends -/
def FndV (n : Nat) (K : Nat → Pkt) (t : Int) (i : Nat) (v : Value) : Prop :=
 ∃ f : Bool, v = .bool f ∧ i ≤ n ∧ (∀ m, m < i → (K m).id < t) ∧ (∀ m, i ≤ m → m < n → t ≤ (K m).id) ∧ (f = true ↔ i < n ∧ (K i).id = t)
set_option maxRecDepth 100000 in
set_option maxHeartbeats 2000000 in
theorem search_any (a : Option Addr) (n c : Nat) (K : Nat → Pkt) (t : Int) (w : World) (hn : n ≤ 1048576) (h : RdPk w a n K) (hup : ∀ i, i < n → 0 < i → (K (i - 1)).id < (K i).id) :
  Calls Tryz.prog 141 #[.slice a n c, .int .i64 t, .func (.func 142) #[] #[]] w fun e w' =>
   ∃ (i : Nat) (v : Value), FndV n K t i v ∧ e = .returned (.tuple #[.int .i64 i, v]) ∧ Below w.heap.size w w' := by
 have HR : Hid (RdPk w a n K) := h
 have HU : Hid (∀ j i, i < j → j < n → (K i).id < (K j).id) := rise_lt hup
 clear h hup
 go_enter Tryz.func141, Tryz.ntmps141
 go_wp2_with fail
 go_loopw [9, 10] (fun x y wr => ∃ i j : Nat, i ≤ j ∧ j ≤ n ∧ x = .int .i64 i ∧ y = .int .i64 j ∧ (∀ m, m < i → (K m).id < t) ∧ (∀ m, j ≤ m → m < n → t ≤ (K m).id) ∧ Below w.heap.size w wr) (fun x y _ => (intOf y).toNat - (intOf x).toNat)
 case atStart => exact ⟨0, n, Nat.zero_le _, Nat.le_refl _, rfl, rfl, fun m hm => by omega, fun m h1 h2 => by omega, Below.refl _ _⟩
 case round =>
  obtain ⟨i, j, hij, hjn, rfl, rfl, hlo, hhi, hB⟩ := hrel
  have HL : Hid (∀ m, m < i → (K m).id < t) := hlo
  have HH : Hid (∀ m, j ≤ m → m < n → t ≤ (K m).id) := hhi
  clear hlo hhi
  by_cases hlt : i < j
  ·
   have hlt' : (i : Int) < (j : Int) := by omega
   have hq : (i + j) / 2 < n := by omega
   obtain ⟨g, o, rfl, hc⟩ := (HR.out.up hB) _ hq
   go_wp2_with (refine wpList_ldPk rfl (.tmp 27) rfl g (o + (i + j) / 2 * 8) rfl (K ((i + j) / 2)) hc ?_)
   refine (cmpPk_any _ _ _).mono ?_
   rintro e w2 ⟨rfl, hb⟩
   have hB2 := hB.trans (hb.mono hB.size)
   clear hb hc hB
   by_cases hcm : (K ((i + j) / 2)).id < t
   ·
    have hcm' : cmpI (K ((i + j) / 2)).id t < 0 := cmpI_lt.2 hcm
    have HN : Hid (∀ m, m < (i + j) / 2 + 1 → (K m).id < t) := fun m hm => by
     by_cases e : m = (i + j) / 2
     ·
      rw [e]; exact hcm
     ·
      have := HU.out ((i + j) / 2) m (by omega) hq
      omega
    clear hcm
    go_wp2_with fail
    go_roundw
    case rel => exact ⟨(i + j) / 2 + 1, j, by omega, hjn, by go_num, rfl, HN.out, HH.out, hB2⟩
    case measure => simp [intOf]; omega
   ·
    have hcm' : ¬ cmpI (K ((i + j) / 2)).id t < 0 := fun e => hcm (cmpI_lt.1 e)
    have HN : Hid (∀ m, (i + j) / 2 ≤ m → m < n → t ≤ (K m).id) := fun m hm hm2 => by
     by_cases e : m = (i + j) / 2
     ·
      rw [e]; omega
     ·
      have := HU.out m ((i + j) / 2) (by omega) hm2
      omega
    clear hcm
    go_wp2_with fail
    go_roundw
    case rel => exact ⟨i, (i + j) / 2, by omega, by omega, rfl, by go_num, HL.out, HN.out, hB2⟩
    case measure => simp [intOf]; omega
  ·
   obtain rfl : i = j := by omega
   have hge : ¬ (i : Int) < (i : Int) := by omega
   by_cases hin : i < n
   ·
    have hin' : (i : Int) < (n : Int) := by omega
    obtain ⟨g, o, rfl, hc⟩ := (HR.out.up hB) _ hin
    go_wp2_with (refine wpList_ldPkG (.tmp 43) rfl (by kernel_rfl) g (o + i * 8) rfl (K i) hc ?_)
    refine (cmpPk_any _ _ _).mono ?_
    rintro e w2 ⟨rfl, hb⟩
    have hB2 := hB.trans (hb.mono hB.size)
    clear hb hc hB
    have HQ : Hid ((cmpI (K i).id t == 0) = true ↔ i < n ∧ (K i).id = t) := by
     rw [Hid]
     simp [hin, cmpI_eq]
    go_wp2_with fail
    go_ret2
    exact ⟨i, _, ⟨_, rfl, hjn, HL.out, HH.out, HQ.out⟩, rfl, hB2⟩
   ·
    have hin' : ¬ (i : Int) < (n : Int) := by omega
    go_wp2_with fail
    go_ret2
    exact ⟨i, .bool false, ⟨false, rfl, hjn, HL.out, HH.out, ⟨fun h => by simp at h, fun h => absurd h.1 hin⟩⟩, rfl, hB⟩
theorem packetOf_yes (g o n c : Nat) (K : Nat → Pkt) (id : Int) (w : World) (hn : n ≤ 1048576) (h : RdPk w (some ⟨g, o, none⟩) n K) (hup : ∀ i, i < n → 0 < i → (K (i - 1)).id < (K i).id) (j : Nat) (hj : j < n) (hid : (K j).id = id) :
  Calls Tryz.prog 133 #[.slice (some ⟨g, o, none⟩) n c, .int .i64 id] w fun e w' => e = .returned (.pointer (some ⟨g, o + j * 8, none⟩)) ∧ Below w.heap.size w w' := by
 go_enter Tryz.func133, Tryz.ntmps133
 go_wp2_with fail
 refine (search_any _ n c K id _ hn h hup).mono ?_
 rintro e w2 ⟨i, v, ⟨f, rfl, hi, hlo, hhi, hf⟩, rfl, hb⟩
 obtain rfl : i = j := by
  have := rise_lt hup
  by_cases c1 : j < i
  ·
   have := hlo j c1; omega
  ·
   by_cases c2 : i < j
   ·
    have h1 := hhi i (Nat.le_refl _) (by omega)
    have h2 := this j i c2 hj
    omega
   ·
    omega
 obtain rfl : f = true := hf.2 ⟨hj, hid⟩
 clear hf
 have hj' : (i : Int) < (n : Int) := by omega
 clear hlo hhi hup
 go_wp2_with fail
 go_ret
 exact ⟨rfl, hb⟩
theorem packetOf_no (a : Option Addr) (n c : Nat) (K : Nat → Pkt) (id : Int) (w : World) (hn : n ≤ 1048576) (h : RdPk w a n K) (hup : ∀ i, i < n → 0 < i → (K (i - 1)).id < (K i).id) (hid : ∀ j, j < n → (K j).id ≠ id) :
  Calls Tryz.prog 133 #[.slice a n c, .int .i64 id] w fun e w' => e = .returned (.pointer none) ∧ Below w.heap.size w w' := by
 go_enter Tryz.func133, Tryz.ntmps133
 go_wp2_with fail
 refine (search_any a n c K id _ hn h hup).mono ?_
 rintro e w2 ⟨i, v, ⟨f, rfl, hi, hlo, hhi, hf⟩, rfl, hb⟩
 obtain rfl : f = false := by
  rw [Bool.eq_false_iff]
  intro e
  exact hid i (hf.1 e).1 (hf.1 e).2
 clear hf
 clear hlo hhi hup hid
 go_wp2_with fail
 go_ret
 exact ⟨rfl, hb⟩
end Go.Proofs.YtlipielghpoaoaaGreat
namespace Go.Proofs.YtlipielghpoaoaaGreat
open Go.RowKit
set_option linter.unusedVariables false
set_option linter.unusedSimpArgs false

set_option maxRecDepth 100000 in
set_option maxHeartbeats 2000000 in
theorem idsOk_any (aT : Option Addr) (n c : Nat) (z : Nat → Int) (prio : Int) (aK : Option Addr) (m cK : Nat) (K : Nat → Pkt) (w : World) (hn : n ≤ 1048576) (hm : m ≤ 1048576) (ht : RdRow w aT n fun i => .int .i64 (z i)) (hk : RdPk w aK m K) (hup : ∀ i, i < m → 0 < i → (K (i - 1)).id < (K i).id) (ok : Bool) (hok : ok = true ↔ idsP n z prio m K) :
  Calls Tryz.prog 111 #[.slice aT n c, .int .i64 prio, .slice aK m cK] w fun e w' => e = .returned (.bool ok) ∧ Below w.heap.size w w' := by
 have HO : Hid (ok = true ↔ idsP n z prio m K) := hok
 have HR : Hid (RdPk w aK m K) := hk
 have HT : Hid (RdRow w aT n fun i => .int .i64 (z i)) := ht
 have HU : Hid (∀ i, i < m → 0 < i → (K (i - 1)).id < (K i).id) := hup
 clear hok hk ht hup
 go_enter Tryz.func111, Tryz.ntmps111
 go_wp2_with fail
 go_loopw [12] (fun i wr => ∃ k : Nat, k ≤ n ∧ i = .int .i64 k ∧ idsP k z prio m K ∧ Below w.heap.size w wr) (fun i _ => n - (intOf i).toNat)
 case atStart => exact ⟨0, Nat.zero_le _, rfl, fun i hi => by omega, Below.refl _ _⟩
 case round =>
  obtain ⟨k, hk, rfl, hall, hB⟩ := hrel
  have HA : Hid (idsP k z prio m K) := hall
  clear hall
  by_cases hlt : k < n
  ·
   have hlt' : (k : Int) < n := by omega
   obtain ⟨gt, ot, rfl, c0⟩ := (HT.out.up hB) k hlt
   dsimp only at c0
   go_wp2_with fail
   clear c0
   by_cases hex : ∃ j, j < m ∧ (K j).id = z k
   ·
    obtain ⟨j, hj, ej⟩ := hex
    obtain ⟨g, o, rfl, _⟩ := HR.out j hj
    refine (packetOf_yes g o m cK K (z k) _ hm (HR.out.up hB) HU.out j hj ej).mono ?_
    rintro e w2 ⟨rfl, hb⟩
    have hB2 := hB.trans (hb.mono hB.size)
    have c6 : w2.cell? ⟨g, o + j * 8 + 6, none⟩ = some (.int .i64 (K j).p) := (HR.out.up hB2).cell hj 6 (by omega)
    have HE : Hid ((K j).id = z k) := ej
    clear hb hB ej
    by_cases hp : (K j).p = prio
    ·
     have hp' : ((K j).p != prio) = false := by simp [hp]
     have HP : Hid ((K j).p = prio) := hp
     clear hp
     by_cases h0 : k = 0
     ·
      subst h0
      go_wp2_with fail
      go_roundw
      case rel => exact ⟨0 + 1, by omega, by go_num, fun i hi => by
       obtain rfl : i = 0 := by omega
       exact ⟨⟨j, hj, HE.out, HP.out⟩, fun h => by omega⟩, hB2⟩
      case measure => simp [intOf]; omega
     ·
      have h0' : (0 : Int) < (k : Int) := by omega
      have hk1 : (1 : Int) ≤ (k : Int) := by omega
      have hk2 : (k : Int) - 1 < (n : Int) := by omega
      have hk3 : ((k : Int) - 1).toNat = k - 1 := by omega
      obtain ⟨gt', ot', et, c1⟩ := (HT.out.up hB2) (k - 1) (by omega)
      cases et
      dsimp only at c1
      by_cases hr : z (k - 1) < z k
      ·
       have hr' : ¬ z k ≤ z (k - 1) := by omega
       have HRs : Hid (z (k - 1) < z k) := hr
       clear hr
       go_wp2_with fail
       go_roundw
       case rel => exact ⟨k + 1, by omega, by go_num, fun i hi => by
        by_cases e : i = k
        ·
         subst e; exact ⟨⟨j, hj, HE.out, HP.out⟩, fun _ => HRs.out⟩
        ·
         exact HA.out i (by omega), hB2⟩
       case measure => simp [intOf]; omega
      ·
       have hr' : z k ≤ z (k - 1) := by omega
       have HF : Hid (ok = false) := by
        rw [Hid, Bool.eq_false_iff]
        intro e
        exact hr ((HO.out.1 e k hlt).2 (by omega))
       clear hr
       go_wp2_with fail
       go_ret
       exact ⟨ret_bool HF.out.symm, hB2⟩
    ·
     have hp' : ((K j).p != prio) = true := by simp [hp]
     have HF : Hid (ok = false) := by
      rw [Hid, Bool.eq_false_iff]
      intro e
      obtain ⟨⟨j2, hj2, e2, e3⟩, _⟩ := HO.out.1 e k hlt
      obtain rfl := rise_inj HU.out hj hj2 (HE.out.trans e2.symm)
      exact hp e3
     clear hp
     go_wp2_with fail
     go_ret
     exact ⟨ret_bool HF.out.symm, hB2⟩
   ·
    have HF : Hid (ok = false) := by
     rw [Hid, Bool.eq_false_iff]
     intro e
     obtain ⟨⟨j2, hj2, e2, e3⟩, _⟩ := HO.out.1 e k hlt
     exact hex ⟨j2, hj2, e2⟩
    refine (packetOf_no aK m cK K (z k) _ hm (HR.out.up hB) HU.out (fun j hj e => hex ⟨j, hj, e⟩)).mono ?_
    rintro e w2 ⟨rfl, hb⟩
    have hB2 := hB.trans (hb.mono hB.size)
    clear hb hB hex
    go_wp2_with fail
    go_ret
    exact ⟨ret_bool HF.out.symm, hB2⟩
  ·
   obtain rfl : k = n := by omega
   have hge : ¬ ((k : Nat) : Int) < ((k : Nat) : Int) := by omega
   have HT2 : Hid (ok = true) := HO.out.2 HA.out
   go_wp2_with fail
   go_ret
   exact ⟨ret_bool HT2.out.symm, hB⟩
end Go.Proofs.YtlipielghpoaoaaGreat
namespace Go.Proofs.YtlipielghpoaoaaGreat
open Go.RowKit
set_option linter.unusedVariables false
set_option linter.unusedSimpArgs false

set_option maxHeartbeats 1000000 in
theorem equalB_any (a1 a2 : Option Addr) (n1 n2 c1 c2 : Nat) (f1 f2 : Nat → Int) (w : World) (hn : n1 ≤ 1048576) (hn2 : n2 ≤ 1048576) (h1 : RdRow w a1 n1 fun i => .int .i64 (f1 i)) (h2 : RdRow w a2 n2 fun i => .int .i64 (f2 i)) (ok : Bool) (hok : ok = true ↔ n1 = n2 ∧ ∀ i, i < n1 → f1 i = f2 i) :
  Calls Tryz.prog 76 #[.slice a1 n1 c1, .slice a2 n2 c2] w fun e w' => e = .returned (.bool ok) ∧ Same w w' := by
 have HO : Hid (ok = true ↔ n1 = n2 ∧ ∀ i, i < n1 → f1 i = f2 i) := hok
 have H1 : Hid (RdRow w a1 n1 fun i => .int .i64 (f1 i)) := h1
 have H2 : Hid (RdRow w a2 n2 fun i => .int .i64 (f2 i)) := h2
 clear hok h1 h2
 by_cases hl : n1 = n2
 ·
  subst hl
  have hnn : ((n1 : Int) != (n1 : Int)) = false := by simp
  go_enter Tryz.func76, Tryz.ntmps76
  go_wp2_with fail
  go_loopw [13] (fun i wr => ∃ k : Nat, k ≤ n1 ∧ i = .int .i64 k ∧ (∀ i, i < k → f1 i = f2 i) ∧ Same w wr) (fun i _ => n1 - (intOf i).toNat)
  case atStart => exact ⟨0, Nat.zero_le _, rfl, fun i hi => by omega, Same.refl _⟩
  case round =>
   obtain ⟨k, hk, rfl, hall, hS⟩ := hrel
   have HA : Hid (∀ i, i < k → f1 i = f2 i) := hall
   clear hall
   by_cases hlt : k < n1
   ·
    obtain ⟨g1, o1, rfl, e1⟩ := H1.out k hlt
    obtain ⟨g2, o2, rfl, e2⟩ := H2.out k hlt
    rw [← hS.cell] at e1 e2
    dsimp only at e1 e2
    have hlt' : (k : Int) < n1 := by omega
    by_cases he : f1 k = f2 k
    ·
     have hbb : (f1 k != f2 k) = false := by simp [he]
     have HE : Hid (f1 k = f2 k) := he
     clear he
     go_wp2_with fail
     go_quiet (fail)
     go_wp2_with fail
     go_roundw
     case rel => exact ⟨k + 1, by omega, by go_num, fun i hi => by
      by_cases e : i = k
      ·
       subst e; exact HE.out
      ·
       exact HA.out i (by omega), hS.drewN _⟩
     case measure => simp [intOf]; omega
    ·
     have hbb : (f1 k != f2 k) = true := by simp [he]
     have HF : Hid (ok = false) := by
      rw [Hid, Bool.eq_false_iff]
      intro e
      exact he ((HO.out.1 e).2 k hlt)
     clear he
     go_wp2_with fail
     go_quiet (fail)
     go_wp2_with fail
     go_ret
     exact ⟨ret_bool HF.out.symm, hS.drewN _⟩
   ·
    obtain rfl : k = n1 := by omega
    have hge : ¬ ((k : Nat) : Int) < ((k : Nat) : Int) := by omega
    have HT : Hid (ok = true) := HO.out.2 ⟨by trivial, HA.out⟩
    go_wp2_with fail
    go_ret
    exact ⟨ret_bool HT.out.symm, hS⟩
 ·
  have hnn : ((n1 : Int) != (n2 : Int)) = true := by simp; omega
  have hnn2 : ¬ ((n1 : Int) = (n2 : Int)) := by omega
  obtain rfl : ok = false := by
   rw [Bool.eq_false_iff]
   intro e
   exact hl (HO.out.1 e).1
  clear hl
  go_enter Tryz.func76, Tryz.ntmps76
  go_wp2_with fail
  go_ret
  exact ⟨rfl, Same.refl _⟩
/-- n numbers -/
def intsQ (n : Nat) (q : Nat → Int) : List Value := (List.range n).map fun i => .int .i64 (q i)
theorem intsQ_succ (n : Nat) (q : Nat → Int) : intsQ (n + 1) q = intsQ n q ++ [.int .i64 (q n)] := by simp [intsQ, List.range_succ]
theorem own_rdQ {w : World} {base n c : Nat} {a : Option Addr} {q : Nat → Int} (h : w.ownsRow base 2 1 (.slice a n c) n (intsQ n q)) : RdRow w a n fun i => .int .i64 (q i) := by
 intro i hi
 rcases h.2 with ⟨_, e0⟩ | ⟨g, cap, cur, e, _, hb, h1, h2, h3, h4⟩
 ·
  omega
 ·
  cases e
  refine ⟨g, 0, rfl, ?_⟩
  rw [Nat.zero_add, blk_cell hb]
  have : (cur.toList.take (n * 1))[i]? = (intsQ n q)[i]? := by rw [h4]
  rw [List.getElem?_take_of_lt (by omega), Array.getElem?_toList] at this
  rw [this]
  simp [intsQ, hi]
/-- one number more behind a row of one's own -/
theorem appQ {W : World} {base n : Nat} {v : Value} {q : Nat → Int} (hown : W.ownsRow base 2 1 v n (intsQ n q)) (hl : n ≤ 1048576) (hb : base ≤ W.heap.size) :
  ∃ a' c' W', (Builtin.append_ #[25, 25] 25 #[v, .slice (some ⟨W.heap.size, 0, none⟩) 1 1]).run Tryz.prog (W.alloc (.cells #[.int .i64 (q n)] 2)) = .ok (.slice a' (n + 1) c') W' ∧ W'.ownsRow base 2 1 (.slice a' (n + 1) c') (n + 1) (intsQ (n + 1) q) ∧ Below base W W' := by
 obtain ⟨ii, hi, hz0, hz1, hz2⟩ := info_parts info2
 have hA : Below W.heap.size W (W.alloc (.cells #[.int .i64 (q n)] 2)) := (Below.refl _ _).alloc (Nat.le_refl _) _
 have eA : (W.alloc (.cells #[.int .i64 (q n)] 2)).heap.size = W.heap.size + 1 := by simp
 have hown2 := own_below hown hA (Nat.le_refl _)
 have hadd : ∀ j : Nat, (⟨W.heap.size, 0, none⟩ : Addr).add j = ⟨W.heap.size, 0 + j, none⟩ := fun j => by unfold Addr.add; split <;> simp_all
 obtain ⟨va, W2, hrun, hown3, hgrow, _, hblk⟩ := run_append_own_at (P := Tryz.prog) (w := W.alloc (.cells #[.int .i64 (q n)] 2)) base 25 25 2 ii (.int .i64 0) 1 8 Tryz.underlying25 hi hz0 hz1 hz2 rfl (by decide) v n _ hown2 ⟨W.heap.size, 0, none⟩ 1 1 [.int .i64 (q n)] rfl (fun j u hu => by
  have hj : j = 0 := by
   have := (List.getElem?_eq_some_iff.1 hu).1
   simp at this
   exact this
  subst hj
  rw [hadd, blk_cell (blk_new W _)]
  simpa using hu) (by intro u hu; simp at hu; subst hu; rfl) (by unfold maxLen; omega) (by omega) (by omega)
 rw [← intsQ_succ] at hown3
 have hlow : ∀ x, v.ownBlock = some x → base ≤ x := fun x hx => by
  rcases hown.2 with ⟨e, _⟩ | ⟨g, cap, cur, e, hg, _⟩
  ·
   rw [e] at hx; simp [Value.ownBlock] at hx
  ·
   rw [e] at hx; simp [Value.ownBlock] at hx; omega
 have hB : Below base W W2 := by
  refine ⟨hgrow.os, hgrow.tape, hgrow.output, by have := hgrow.size; omega, fun k hk => ?_⟩
  exact (hgrow.block k (by omega) (fun e => by have := hlow k e.symm; omega)).trans (hA.block k (by omega))
 rcases own_formsC hown3 with ⟨_, e0⟩ | ⟨g, cap, rfl⟩
 ·
  omega
 ·
  exact ⟨_, _, _, hrun, hown3, hB⟩
theorem cells_ok {x : Pkt} (h : x.frOk) : cellsN x.k x.d x.s x.p x.b.size = x.cl := by
 unfold cellsN
 rw [if_pos h.2]
 rfl
set_option maxRecDepth 100000 in
set_option maxHeartbeats 2000000 in
theorem cellsAll_any (aT : Option Addr) (n c : Nat) (z : Nat → Int) (aK : Option Addr) (m cK : Nat) (K : Nat → Pkt) (nx p : Int) (q : Nat → Int) (w : World) (hn : n ≤ 1048576) (ht : RdRow w aT n fun i => .int .i64 (z i)) (hk : RdPk w aK m K) (hK : PksOk nx p m K) (hq : ∀ i, i < n → ∃ j, j < m ∧ (K j).id = z i ∧ q i = (K j).cl) :
  Calls Tryz.prog 112 #[.slice aT n c, .slice aK m cK] w fun e w' => ∃ a c', e = .returned (.slice a n c') ∧ RdRow w' a n (fun i => .int .i64 (q i)) ∧ Below w.heap.size w w' := by
 have HR : Hid (RdPk w aK m K) := hk
 have HT : Hid (RdRow w aT n fun i => .int .i64 (z i)) := ht
 have HK : Hid (PksOk nx p m K) := hK
 have HQ : Hid (∀ i, i < n → ∃ j, j < m ∧ (K j).id = z i ∧ q i = (K j).cl) := hq
 have hm : m ≤ 1000 := hK.le
 clear hk ht hK hq
 go_enter Tryz.func112, Tryz.ntmps112
 go_wp2_with fail
 go_loopw [5, 10] (fun v i wr => ∃ (k : Nat) (a : Option Addr) (c' : Nat), k ≤ n ∧ i = .int .i64 k ∧ v = .slice a k c' ∧ wr.ownsRow w.heap.size 2 1 (.slice a k c') k (intsQ k q) ∧ Below w.heap.size w wr) (fun _ i _ => n - (intOf i).toNat)
 case atStart => exact ⟨0, none, 0, Nat.zero_le _, rfl, rfl, ⟨rfl, .inl ⟨rfl, rfl⟩⟩, Below.refl _ _⟩
 case round =>
  obtain ⟨k, a, c', hk, rfl, rfl, hown, hB⟩ := hrel
  by_cases hlt : k < n
  ·
   have hlt' : (k : Int) < n := by omega
   obtain ⟨gt, ot, rfl, c0⟩ := (HT.out.up hB) k hlt
   dsimp only at c0
   obtain ⟨j, hj, ej, eq⟩ := HQ.out k hlt
   obtain ⟨g, o, rfl, _⟩ := HR.out j hj
   go_wp2_with fail
   clear c0
   refine (packetOf_yes g o m cK K (z k) _ (by omega) (HR.out.up hB) HK.out.up j hj ej).mono ?_
   rintro e w2 ⟨rfl, hb⟩
   have hB2 := hB.trans (hb.mono hB.size)
   have hcl := (HR.out.up hB2).cell hj
   have c3 : w2.cell? ⟨g, o + j * 8 + 3, none⟩ = some (.int .i64 (K j).k) := hcl 3 (by omega)
   have c4 : w2.cell? ⟨g, o + j * 8 + 3 + 1, none⟩ = some (.int .i64 (K j).d) := hcl 4 (by omega)
   have c5 : w2.cell? ⟨g, o + j * 8 + 3 + 2, none⟩ = some (.int .i64 (K j).s) := hcl 5 (by omega)
   have c6 : w2.cell? ⟨g, o + j * 8 + 3 + 3, none⟩ = some (.int .i64 (K j).p) := hcl 6 (by omega)
   have c7 : w2.cell? ⟨g, o + j * 8 + 3 + 4, none⟩ = some (.string (K j).b) := hcl 7 (by omega)
   have hown2 := own_below hown hb (Nat.le_refl _)
   clear hown hb hB hcl
   have hf := (HK.out.one j hj).2.2
   have hle := hf.le
   go_wp2_with fail
   refine (iCellsOf_any _ _ _ _ _ _ (by unfold maxLen; omega)).mono ?_
   rintro e w3 ⟨rfl, hb⟩
   rw [cells_ok hf, ← eq]
   have hB3 := hB2.trans (hb.mono hB2.size)
   have hown3 := own_below hown2 hb (Nat.le_refl _)
   obtain ⟨a2, c2, W4, hrun, hown4, hB4⟩ := appQ hown3 (by omega) hB3.size
   have HB5 : Hid (Below w.heap.size w W4) := hB3.trans hB4
   have HW : Hid (W4.ownsRow w.heap.size 2 1 (.slice a2 (k + 1) c2) (k + 1) (intsQ (k + 1) q)) := hown4
   clear hown2 hown3 hb hB2 c3 c4 c5 c6 c7 hf hle eq hown4 hB3 hB4
   go_wp2_with (at_builtin; refine Lib.wpList_append_run _ rfl _ _ _ _ rfl _ _ rfl rfl _ _ hrun ?_)
   go_roundw
   case rel => exact ⟨k + 1, a2, c2, by omega, by go_num, rfl, HW.out, HB5.out⟩
   case measure => simp [intOf]; omega
  ·
   obtain rfl : k = n := by omega
   have hge : ¬ ((k : Nat) : Int) < ((k : Nat) : Int) := by omega
   go_wp2_with fail
   go_ret
   first | exact ⟨a, ⟨c', rfl⟩, own_rdQ hown, hB⟩ | exact ⟨a, c', rfl, own_rdQ hown, hB⟩
end Go.Proofs.YtlipielghpoaoaaGreat
namespace Go.Proofs.YtlipielghpoaoaaGreat
open Go.RowKit
set_option linter.unusedVariables false
set_option linter.unusedSimpArgs false

set_option maxHeartbeats 1000000 in
theorem classOk_any (q d : Int) (a : Option Addr) (n cap : Nat) (z : Nat → Int) (b : Bool) (w : World) (hn : n ≤ maxLen) (h : RdRow w a n fun j => .int .i64 (z j)) (ok : Bool) (hok : ok = true ↔ clsP q d n z b) :
  Calls Tryz.prog 132 #[.agg #[.int .i64 q, .int .i64 d, .slice a n cap], .bool b] w fun e w' => e = .returned (.bool ok) ∧ Below w.heap.size w w' := by
 have HO : Hid (ok = true ↔ clsP q d n z b) := hok
 have HR : Hid (RdRow w a n fun j => .int .i64 (z j)) := h
 have HA : Hid (∀ ob, Below w.heap.size w (w.alloc ob)) := fun ob => (Below.refl _ _).alloc (Nat.le_refl _) _
 have HF : Hid (¬ clsP q d n z b → ok = false) := fun hh => by
  rw [Bool.eq_false_iff]
  intro e
  exact hh (HO.out.1 e)
 clear h hok
 by_cases h1 : 1 ≤ q
 ·
  by_cases h2 : q ≤ 10
  ·
   obtain ⟨ok1, hok1⟩ := ok_decR (sizesP n z)
   obtain ⟨ok2, hok2⟩ := ok_decR (defP q d n b)
   have H1 : Hid (ok1 = true ↔ sizesP n z) := hok1
   have H2 : Hid (ok2 = true ↔ defP q d n b) := hok2
   clear hok1 hok2
   have kX := blk_new w (.cells #[.int .i64 q, .int .i64 d, .slice a n cap] 164)
   go_enter Tryz.func132, Tryz.ntmps132
   go_wp2_with fail
   refine (sizesOk_any a n cap z _ hn (HR.out.up (HA.out _)) ok1 H1.out).mono ?_
   rintro e w1 ⟨rfl, hS⟩
   have B1 := (HA.out _).trans (hS.below _)
   have cX := fun o => (hS.cell ⟨w.heap.size, o, none⟩).trans (blk_cell kX o)
   clear hS kX
   cases ok1
   ·
    have HE : Hid (ok = false) := HF.out (fun hh => by have := H1.out.2 hh.2.1; simp at this)
    go_wp2_with fail
    go_ret
    exact ⟨ret_bool HE.out.symm, B1⟩
   ·
    have HS1 : Hid (sizesP n z) := H1.out.1 rfl
    go_wp2_with fail
    refine (deficitOk_any q d a n cap b _ hn h1 h2 ok2 H2.out).mono ?_
    rintro e w2 ⟨rfl, hb2⟩
    have B2 := B1.trans (hb2.mono B1.size)
    have HE : Hid (ok2 = ok) := by
     rw [Hid, Bool.eq_iff_iff, HO.out, H2.out]
     exact ⟨fun hh => ⟨⟨h1, h2⟩, HS1.out, hh⟩, fun hh => hh.2.2⟩
    clear hb2 B1 cX
    go_wp2_with fail
    go_ret
    exact ⟨ret_bool HE.out, B2⟩
  ·
   have HE : Hid (ok = false) := HF.out (fun hh => h2 hh.1.2)
   go_enter Tryz.func132, Tryz.ntmps132
   go_wp2_with fail
   go_ret
   exact ⟨ret_bool HE.out.symm, HA.out _⟩
 ·
  have HE : Hid (ok = false) := HF.out (fun hh => h1 hh.1.1)
  go_enter Tryz.func132, Tryz.ntmps132
  go_wp2_with fail
  go_ret
  exact ⟨ret_bool HE.out.symm, HA.out _⟩

theorem isClass_any (R : Rnd) (c : Int) (w : World) (hf : R.Fit) :
  Calls Tryz.prog 130 #[.agg R.cells, .int .i64 c] w fun e w' => e = .returned (.bool (decide (0 ≤ c ∧ c < R.nQ))) ∧ Below w.heap.size w w' := by
 have hm : (R.nQ : Int) ≤ 9223372036854775807 := by have := hf.q; unfold maxLen at this; omega
 have HA : Hid (∀ ob, Below w.heap.size w (w.alloc ob)) := fun ob => (Below.refl _ _).alloc (Nat.le_refl _) _
 have hw : IntKind.i64.wrap (R.nQ : Int) = (R.nQ : Int) := wrapR _ (by omega) (by omega)
 unfold Rnd.cells
 by_cases h1 : 0 ≤ c
 ·
  go_enter Tryz.func130, Tryz.ntmps130
  go_wp2_with fail
  go_ret
  exact ⟨ret_bool (by simp [h1]), HA.out _⟩
 ·
  go_enter Tryz.func130, Tryz.ntmps130
  go_wp2_with fail
  go_ret
  exact ⟨ret_bool (by simp; omega), HA.out _⟩
theorem classes_any (R : Rnd) (w : World) :
  Calls Tryz.prog 131 #[.agg R.cells] w fun e w' => e = .returned (.func (.func 138) #[] #[.pointer (some ⟨w.heap.size, 0, none⟩)]) ∧ w' = w.alloc (.cells R.cells 65) := by
 unfold Rnd.cells
 go_enter Tryz.func131, Tryz.ntmps131
 go_wp2_with fail
 go_ret
 exact ⟨rfl, rfl⟩
end Go.Proofs.YtlipielghpoaoaaGreat
namespace Go.Proofs.YtlipielghpoaoaaGreat
open Go.RowKit Go.Shelf
attribute [local go_sem] Oper.semAt_some
set_option linter.unusedVariables false
set_option linter.unusedSimpArgs false

section
variable {P : Program} {ops : Array Oper} {Q : Exit → Act → World → Prop} {md : Region.Mode} {F : Fence} {n : Nat}
theorem takeInD {i : Nat} (d : Option Tmp) {oi : Oper} {v : Value} {fuel : Nat} {listed : Array Bool} {a : Act} {w : World} (hro : F.round = none) (hi : ops[i]? = some oi) (hd : oi.dst = d)
  (hs : Region.noSelect ops = true) (hf : Region.free md ops listed i = true) (hr : (Region.ready md ops listed).contains i = true)
  (hQ : ∀ c a w, Q (.panic c) (a.put d v) w → Q (.panic c) a w) (hw : Region.wanted oi (yielded ops a.tmps) = true) (hy : ∀ w, (execOp a.eval oi).run P w = .ok (.value v) w) (hab : ∀ w, oi.about P w a.eval = none)
  (h : wpAnyIn F n P md ops Q fuel (listed.setIfInBounds i true) (a.put d v) w) : wpAnyIn F n P md ops Q (fuel + 1) listed a w := by
 subst hd
 exact wpAnyIn_take hro hi hs hf hr hQ ⟨Or.inl ⟨hw, hy⟩, hab⟩ h
end
/-- what is told of class i -/
def clsV (R : Rnd) (x : { i : Nat // i < R.nQ }) : Array Value := #[.int .i64 ((x.1 : Nat) : Int), .agg #[.int .i64 (R.q x.1), .int .i64 (R.d x.1), .slice (R.A x.1) (R.L x.1) (R.C x.1)]]
/-- the first k classes -/
def upTo (n : Nat) : (k : Nat) → k ≤ n → List { i : Nat // i < n }
 | 0, _ => []
 | k + 1, h => upTo n k (Nat.le_of_succ_le h) ++ [⟨k, h⟩]
theorem upTo_len (n : Nat) : ∀ (k : Nat) (h : k ≤ n), (upTo n k h).length = k
 | 0, _ => rfl
 | k + 1, h => by simp [upTo, upTo_len n k]
theorem upTo_mem (n : Nat) : ∀ (k : Nat) (h : k ≤ n) (i : Nat) (hi : i < k), (⟨i, Nat.lt_of_lt_of_le hi h⟩ : { i : Nat // i < n }) ∈ upTo n k h
 | k + 1, h, i, hi => by
  unfold upTo
  by_cases e : i = k
  ·
   subst e; simp
  ·
   exact List.mem_append_left _ (upTo_mem n k (Nat.le_of_succ_le h) i (by omega))
/-- the cells that the function reads between two rounds -/
structure Tells (w : World) (b : Nat) (R : Rnd) : Prop where
 box : ∀ o, w.cell? ⟨b, o, none⟩ = R.cells[o]?
 rd : RdRnd w R
set_option maxHeartbeats 2000000 in
set_option maxRecDepth 100000 in
theorem classes_stops (F : Fence) (n : Nat) (h45 : F.fn 138) (hro : F.round = none) (hn : 1 ≤ n) (R : Rnd) (hf : R.Fit) (hD : R.nQ ≤ R.nD) (hS : R.nQ ≤ R.nS) (b : Nat) (w : World) (hT : Tells w b R) (hlt : ∀ W, Below w.heap.size w W → Tells W b R) :
  SeqStopsK F n Tryz.prog 138 #[.pointer (some ⟨b, 0, none⟩)] (clsV R) (Below w.heap.size) (fun xs => xs = upTo R.nQ R.nQ (Nat.le_refl _)) (fun pre => ∃ k, ∃ h : k ≤ R.nQ, pre = upTo R.nQ k h) R.nQ w := fun l J Jx W hW hJ hJx hY h0 => by
 obtain ⟨aQ, nQ, cQ, q, aD, nD, cD, d, turn, fresh, aS, nS, cS, A, L, C, z⟩ := R
 have hfq : nQ ≤ maxLen := hf.q
 dsimp only at hD hS hY ⊢
 clear hf hT
 refine callsIn_of_wp Tryz.func138 rfl h45 ?_ hro
 simp only [Tryz.ntmps138, List.size_toArray, List.length_cons, List.length_nil, Nat.reduceAdd, Nat.reduceSub, Array.replicate_succ, Array.replicate_zero, List.push_toArray, List.append_toArray, List.nil_append, List.cons_append]
 have hm : (nQ : Int) ≤ 9223372036854775807 := by unfold maxLen at hfq; omega
 have hTW := hlt W hW
 have cb := hTW.box
 unfold Rnd.cells at cb
 gi_wp2
 gi_loopw [8] (fun i wr => ∃ (k : Nat) (h : k ≤ nQ), i = .int .i64 k ∧ Below w.heap.size w wr ∧ J (upTo nQ k h) wr) (fun i _ => nQ - (intOf i).toNat)
 case atStart => exact ⟨0, Nat.zero_le _, rfl, hW, h0⟩
 case round =>
  obtain ⟨k, hk, rfl, hB, hJk⟩ := hrel
  clear cb hTW
  by_cases hlt2 : k < nQ
  ·
   have hlt' : (k : Int) < nQ := by omega
   have hltD : (k : Int) < nD := by omega
   have hltS : (k : Int) < nS := by omega
   have hTr := hlt wr hB
   have cb := hTr.box
   unfold Rnd.cells at cb
   obtain ⟨gq, oq, rfl, cq⟩ := hTr.rd.q k hlt2
   obtain ⟨gd, od, rfl, cd⟩ := hTr.rd.d k (by show k < nD; omega)
   obtain ⟨gs, os, rfl, cs⟩ := hTr.rd.s k (by show k < nS; omega)
   dsimp only at cq cd cs cb
   obtain ⟨fn, tmps, assign, body, hy, hR⟩ := hY (upTo nQ k hk) ⟨k, hlt2⟩ wr.drew (hJ _ _ _ none hJk ⟨rfl, rfl, rfl, Nat.le_refl _, fun _ _ _ => rfl⟩ (fun r e => by cases e)) (by rw [upTo_len]; exact hlt2)
   dsimp only [clsV] at hy
   clear hlt hTr hY
   -- the region that tells
   gi_wp2
   refine wpIn_region_any (by kernel_rfl) ?_
   refine takeInD (i := 0) (some 13) (v := ?_) hro rfl rfl (by kernel_rfl) (by kernel_rfl) (by kernel_rfl) (fun _ _ _ h => h) (by kernel_rfl) ?_ (fun _ => rfl) ?_
   rotate_left
   ·
    intro wx
    go_simp
    try (with_reducible rfl)
   try simp only [Act.put, List.setIfInBounds_toArray, List.set_cons_zero, List.set_cons_succ]
   refine takeInD (i := 1) (some 14) (v := ?_) hro rfl rfl (by kernel_rfl) (by kernel_rfl) (by kernel_rfl) (fun _ _ _ h => h) (by kernel_rfl) ?_ (fun _ => rfl) ?_
   rotate_left
   ·
    intro wx
    go_simp
    try (with_reducible rfl)
   try simp only [Act.put, List.setIfInBounds_toArray, List.set_cons_zero, List.set_cons_succ]
   refine takeInD (i := 2) (some 15) (v := ?_) hro rfl rfl (by kernel_rfl) (by kernel_rfl) (by kernel_rfl) (fun _ _ _ h => h) (by kernel_rfl) ?_ (fun _ => rfl) ?_
   rotate_left
   ·
    intro wx
    go_simp
    try (with_reducible rfl)
   try simp only [Act.put, List.setIfInBounds_toArray, List.set_cons_zero, List.set_cons_succ]
   refine takeInD (i := 3) (some 16) (v := ?_) hro rfl rfl (by kernel_rfl) (by kernel_rfl) (by kernel_rfl) (fun _ _ _ h => h) (by kernel_rfl) ?_ (fun _ => rfl) ?_
   rotate_left
   ·
    intro wx
    go_simp
    try (with_reducible rfl)
   try simp only [Act.put, List.setIfInBounds_toArray, List.set_cons_zero, List.set_cons_succ]
   refine takeInD (i := 5) (some 18) (v := ?_) hro rfl rfl (by kernel_rfl) (by kernel_rfl) (by kernel_rfl) (fun _ _ _ h => h) (by kernel_rfl) ?_ (fun _ => rfl) ?_
   rotate_left
   ·
    intro wx
    go_simp
    try (with_reducible rfl)
   try simp only [Act.put, List.setIfInBounds_toArray, List.set_cons_zero, List.set_cons_succ]
   refine takeInD (i := 8) (some 21) (v := ?_) hro rfl rfl (by kernel_rfl) (by kernel_rfl) (by kernel_rfl) (fun _ _ _ h => h) (by kernel_rfl) ?_ (fun _ => rfl) ?_
   rotate_left
   ·
    intro wx
    go_simp
    try (with_reducible rfl)
   try simp only [Act.put, List.setIfInBounds_toArray, List.set_cons_zero, List.set_cons_succ]
   refine takeInD (i := 10) (some 23) (v := ?_) hro rfl rfl (by kernel_rfl) (by kernel_rfl) (by kernel_rfl) (fun _ _ _ h => h) (by kernel_rfl) ?_ (fun _ => rfl) ?_
   rotate_left
   ·
    intro wx
    go_simp
    try (with_reducible rfl)
   try simp only [Act.put, List.setIfInBounds_toArray, List.set_cons_zero, List.set_cons_succ]
   refine wpAnyIn_ready (rs := [4, 9]) (by kernel_rfl) (by simp) ?_
   refine AllReadyIn.cons rfl (fun K hK => ?_) (AllReadyIn.cons rfl (fun K hK => ?_) AllReadyIn.nil)
   ·
    go_simp
    refine hK _ _ ?_
    clear hK K
    try simp only [Act.put, List.setIfInBounds_toArray, List.set_cons_zero, List.set_cons_succ]
    refine takeInD (i := 6) (some 19) (v := ?_) hro rfl rfl (by kernel_rfl) (by kernel_rfl) (by kernel_rfl) (fun _ _ _ h => h) (by kernel_rfl) ?_ (fun _ => rfl) ?_
    rotate_left
    ·
     intro wx
     go_simp
     try (with_reducible rfl)
    try simp only [Act.put, List.setIfInBounds_toArray, List.set_cons_zero, List.set_cons_succ]
    refine wpAnyIn_ready (rs := [7, 9]) (by kernel_rfl) (by simp) ?_
    refine AllReadyIn.cons rfl (fun K hK => ?_) (AllReadyIn.cons rfl (fun K hK => ?_) AllReadyIn.nil)
    ·
     go_simp
     refine hK _ _ ?_
     clear hK K
     try simp only [Act.put, List.setIfInBounds_toArray, List.set_cons_zero, List.set_cons_succ]
     refine wpAnyIn_ready (rs := [9]) (by kernel_rfl) (by simp) ?_
     refine AllReadyIn.cons rfl (fun K hK => ?_) AllReadyIn.nil
     ·
      go_simp
      refine hK _ _ ?_
      clear hK K
      try simp only [Act.put, List.setIfInBounds_toArray, List.set_cons_zero, List.set_cons_succ]
      refine takeInD (i := 11) (some 24) (v := ?_) hro rfl rfl (by kernel_rfl) (by kernel_rfl) (by kernel_rfl) (fun _ _ _ h => h) (by kernel_rfl) ?_ (fun _ => rfl) ?_
      rotate_left
      ·
       intro wx
       go_simp
       try (with_reducible rfl)
      try simp only [Act.put, List.setIfInBounds_toArray, List.set_cons_zero, List.set_cons_succ]
      refine wpAnyIn_ready (rs := [12]) (by kernel_rfl) (by simp) ?_
      refine AllReadyIn.cons rfl (fun K hK => ?_) AllReadyIn.nil
      ·
       go_simp
       refine hK _ _ ?_
       clear hK K
       try simp only [Act.put, List.setIfInBounds_toArray, List.set_cons_zero, List.set_cons_succ]
       refine takeInD (i := 13) (some 26) (v := ?_) hro rfl rfl (by kernel_rfl) (by kernel_rfl) (by kernel_rfl) (fun _ _ _ h => h) (by kernel_rfl) ?_ (fun _ => rfl) ?_
       rotate_left
       ·
        intro wx
        go_simp
        try (with_reducible rfl)
       try simp only [Act.put, List.setIfInBounds_toArray, List.set_cons_zero, List.set_cons_succ]
       refine wpAnyIn_ready (rs := [14]) (by kernel_rfl) (by simp) ?_
       refine AllReadyIn.cons rfl (fun K hK => ?_) AllReadyIn.nil
       ·
        go_simp
        refine hR.mono ?_
        rintro e W3 (⟨rfl, hJ3, hk3⟩ | ⟨rfl, hJx3⟩)
        ·
         refine hK _ _ ?_
         clear hK K
         try simp only [Act.put, List.setIfInBounds_toArray, List.set_cons_zero, List.set_cons_succ]
         refine takeInD (i := 15) (some 28) (v := ?_) hro rfl rfl (by kernel_rfl) (by kernel_rfl) (by kernel_rfl) (fun _ _ _ h => h) (by kernel_rfl) ?_ (fun _ => rfl) ?_
         rotate_left
         ·
          intro wx
          go_simp
          try (with_reducible rfl)
         try simp only [Act.put, List.setIfInBounds_toArray, List.set_cons_zero, List.set_cons_succ]
         refine wpAnyIn_done (by kernel_rfl) ?_ _
         gi_wp2
         go_roundw
         case rel => exact ⟨k + 1, hlt2, by go_num, hB.drew.trans hk3, hJ3⟩
         case measure => simp [intOf]; omega
        ·
         refine hK _ _ ?_
         clear hK K
         try simp only [Act.put, List.setIfInBounds_toArray, List.set_cons_zero, List.set_cons_succ]
         refine takeInD (i := 15) (some 28) (v := ?_) hro rfl rfl (by kernel_rfl) (by kernel_rfl) (by kernel_rfl) (fun _ _ _ h => h) (by kernel_rfl) ?_ (fun _ => rfl) ?_
         rotate_left
         ·
          intro wx
          go_simp
          try (with_reducible rfl)
         try simp only [Act.put, List.setIfInBounds_toArray, List.set_cons_zero, List.set_cons_succ]
         refine wpAnyIn_done (by kernel_rfl) ?_ _
         gi_wp2
         refine bodyPost_ret (results_none rfl _ _ _) rfl ?_
         exact ⟨⟨_, rfl⟩, .inr ⟨_, ⟨k + 1, hlt2, rfl⟩, hJx3⟩⟩
    ·
     go_simp
     refine hK _ _ ?_
     clear hK K
     try simp only [Act.put, List.setIfInBounds_toArray, List.set_cons_zero, List.set_cons_succ]
     refine takeInD (i := 11) (some 24) (v := ?_) hro rfl rfl (by kernel_rfl) (by kernel_rfl) (by kernel_rfl) (fun _ _ _ h => h) (by kernel_rfl) ?_ (fun _ => rfl) ?_
     rotate_left
     ·
      intro wx
      go_simp
      try (with_reducible rfl)
     try simp only [Act.put, List.setIfInBounds_toArray, List.set_cons_zero, List.set_cons_succ]
     refine wpAnyIn_ready (rs := [7, 12]) (by kernel_rfl) (by simp) ?_
     refine AllReadyIn.cons rfl (fun K hK => ?_) (AllReadyIn.cons rfl (fun K hK => ?_) AllReadyIn.nil)
     ·
      go_simp
      refine hK _ _ ?_
      clear hK K
      try simp only [Act.put, List.setIfInBounds_toArray, List.set_cons_zero, List.set_cons_succ]
      refine wpAnyIn_ready (rs := [12]) (by kernel_rfl) (by simp) ?_
      refine AllReadyIn.cons rfl (fun K hK => ?_) AllReadyIn.nil
      ·
       go_simp
       refine hK _ _ ?_
       clear hK K
       try simp only [Act.put, List.setIfInBounds_toArray, List.set_cons_zero, List.set_cons_succ]
       refine takeInD (i := 13) (some 26) (v := ?_) hro rfl rfl (by kernel_rfl) (by kernel_rfl) (by kernel_rfl) (fun _ _ _ h => h) (by kernel_rfl) ?_ (fun _ => rfl) ?_
       rotate_left
       ·
        intro wx
        go_simp
        try (with_reducible rfl)
       try simp only [Act.put, List.setIfInBounds_toArray, List.set_cons_zero, List.set_cons_succ]
       refine wpAnyIn_ready (rs := [14]) (by kernel_rfl) (by simp) ?_
       refine AllReadyIn.cons rfl (fun K hK => ?_) AllReadyIn.nil
       ·
        go_simp
        refine hR.mono ?_
        rintro e W3 (⟨rfl, hJ3, hk3⟩ | ⟨rfl, hJx3⟩)
        ·
         refine hK _ _ ?_
         clear hK K
         try simp only [Act.put, List.setIfInBounds_toArray, List.set_cons_zero, List.set_cons_succ]
         refine takeInD (i := 15) (some 28) (v := ?_) hro rfl rfl (by kernel_rfl) (by kernel_rfl) (by kernel_rfl) (fun _ _ _ h => h) (by kernel_rfl) ?_ (fun _ => rfl) ?_
         rotate_left
         ·
          intro wx
          go_simp
          try (with_reducible rfl)
         try simp only [Act.put, List.setIfInBounds_toArray, List.set_cons_zero, List.set_cons_succ]
         refine wpAnyIn_done (by kernel_rfl) ?_ _
         gi_wp2
         go_roundw
         case rel => exact ⟨k + 1, hlt2, by go_num, hB.drew.trans hk3, hJ3⟩
         case measure => simp [intOf]; omega
        ·
         refine hK _ _ ?_
         clear hK K
         try simp only [Act.put, List.setIfInBounds_toArray, List.set_cons_zero, List.set_cons_succ]
         refine takeInD (i := 15) (some 28) (v := ?_) hro rfl rfl (by kernel_rfl) (by kernel_rfl) (by kernel_rfl) (fun _ _ _ h => h) (by kernel_rfl) ?_ (fun _ => rfl) ?_
         rotate_left
         ·
          intro wx
          go_simp
          try (with_reducible rfl)
         try simp only [Act.put, List.setIfInBounds_toArray, List.set_cons_zero, List.set_cons_succ]
         refine wpAnyIn_done (by kernel_rfl) ?_ _
         gi_wp2
         refine bodyPost_ret (results_none rfl _ _ _) rfl ?_
         exact ⟨⟨_, rfl⟩, .inr ⟨_, ⟨k + 1, hlt2, rfl⟩, hJx3⟩⟩
     ·
      go_simp
      refine hK _ _ ?_
      clear hK K
      try simp only [Act.put, List.setIfInBounds_toArray, List.set_cons_zero, List.set_cons_succ]
      refine wpAnyIn_ready (rs := [7]) (by kernel_rfl) (by simp) ?_
      refine AllReadyIn.cons rfl (fun K hK => ?_) AllReadyIn.nil
      ·
       go_simp
       refine hK _ _ ?_
       clear hK K
       try simp only [Act.put, List.setIfInBounds_toArray, List.set_cons_zero, List.set_cons_succ]
       refine takeInD (i := 13) (some 26) (v := ?_) hro rfl rfl (by kernel_rfl) (by kernel_rfl) (by kernel_rfl) (fun _ _ _ h => h) (by kernel_rfl) ?_ (fun _ => rfl) ?_
       rotate_left
       ·
        intro wx
        go_simp
        try (with_reducible rfl)
       try simp only [Act.put, List.setIfInBounds_toArray, List.set_cons_zero, List.set_cons_succ]
       refine wpAnyIn_ready (rs := [14]) (by kernel_rfl) (by simp) ?_
       refine AllReadyIn.cons rfl (fun K hK => ?_) AllReadyIn.nil
       ·
        go_simp
        refine hR.mono ?_
        rintro e W3 (⟨rfl, hJ3, hk3⟩ | ⟨rfl, hJx3⟩)
        ·
         refine hK _ _ ?_
         clear hK K
         try simp only [Act.put, List.setIfInBounds_toArray, List.set_cons_zero, List.set_cons_succ]
         refine takeInD (i := 15) (some 28) (v := ?_) hro rfl rfl (by kernel_rfl) (by kernel_rfl) (by kernel_rfl) (fun _ _ _ h => h) (by kernel_rfl) ?_ (fun _ => rfl) ?_
         rotate_left
         ·
          intro wx
          go_simp
          try (with_reducible rfl)
         try simp only [Act.put, List.setIfInBounds_toArray, List.set_cons_zero, List.set_cons_succ]
         refine wpAnyIn_done (by kernel_rfl) ?_ _
         gi_wp2
         go_roundw
         case rel => exact ⟨k + 1, hlt2, by go_num, hB.drew.trans hk3, hJ3⟩
         case measure => simp [intOf]; omega
        ·
         refine hK _ _ ?_
         clear hK K
         try simp only [Act.put, List.setIfInBounds_toArray, List.set_cons_zero, List.set_cons_succ]
         refine takeInD (i := 15) (some 28) (v := ?_) hro rfl rfl (by kernel_rfl) (by kernel_rfl) (by kernel_rfl) (fun _ _ _ h => h) (by kernel_rfl) ?_ (fun _ => rfl) ?_
         rotate_left
         ·
          intro wx
          go_simp
          try (with_reducible rfl)
         try simp only [Act.put, List.setIfInBounds_toArray, List.set_cons_zero, List.set_cons_succ]
         refine wpAnyIn_done (by kernel_rfl) ?_ _
         gi_wp2
         refine bodyPost_ret (results_none rfl _ _ _) rfl ?_
         exact ⟨⟨_, rfl⟩, .inr ⟨_, ⟨k + 1, hlt2, rfl⟩, hJx3⟩⟩
   ·
    go_simp
    refine hK _ _ ?_
    clear hK K
    try simp only [Act.put, List.setIfInBounds_toArray, List.set_cons_zero, List.set_cons_succ]
    refine takeInD (i := 11) (some 24) (v := ?_) hro rfl rfl (by kernel_rfl) (by kernel_rfl) (by kernel_rfl) (fun _ _ _ h => h) (by kernel_rfl) ?_ (fun _ => rfl) ?_
    rotate_left
    ·
     intro wx
     go_simp
     try (with_reducible rfl)
    try simp only [Act.put, List.setIfInBounds_toArray, List.set_cons_zero, List.set_cons_succ]
    refine wpAnyIn_ready (rs := [4, 12]) (by kernel_rfl) (by simp) ?_
    refine AllReadyIn.cons rfl (fun K hK => ?_) (AllReadyIn.cons rfl (fun K hK => ?_) AllReadyIn.nil)
    ·
     go_simp
     refine hK _ _ ?_
     clear hK K
     try simp only [Act.put, List.setIfInBounds_toArray, List.set_cons_zero, List.set_cons_succ]
     refine takeInD (i := 6) (some 19) (v := ?_) hro rfl rfl (by kernel_rfl) (by kernel_rfl) (by kernel_rfl) (fun _ _ _ h => h) (by kernel_rfl) ?_ (fun _ => rfl) ?_
     rotate_left
     ·
      intro wx
      go_simp
      try (with_reducible rfl)
     try simp only [Act.put, List.setIfInBounds_toArray, List.set_cons_zero, List.set_cons_succ]
     refine wpAnyIn_ready (rs := [7, 12]) (by kernel_rfl) (by simp) ?_
     refine AllReadyIn.cons rfl (fun K hK => ?_) (AllReadyIn.cons rfl (fun K hK => ?_) AllReadyIn.nil)
     ·
      go_simp
      refine hK _ _ ?_
      clear hK K
      try simp only [Act.put, List.setIfInBounds_toArray, List.set_cons_zero, List.set_cons_succ]
      refine wpAnyIn_ready (rs := [12]) (by kernel_rfl) (by simp) ?_
      refine AllReadyIn.cons rfl (fun K hK => ?_) AllReadyIn.nil
      ·
       go_simp
       refine hK _ _ ?_
       clear hK K
       try simp only [Act.put, List.setIfInBounds_toArray, List.set_cons_zero, List.set_cons_succ]
       refine takeInD (i := 13) (some 26) (v := ?_) hro rfl rfl (by kernel_rfl) (by kernel_rfl) (by kernel_rfl) (fun _ _ _ h => h) (by kernel_rfl) ?_ (fun _ => rfl) ?_
       rotate_left
       ·
        intro wx
        go_simp
        try (with_reducible rfl)
       try simp only [Act.put, List.setIfInBounds_toArray, List.set_cons_zero, List.set_cons_succ]
       refine wpAnyIn_ready (rs := [14]) (by kernel_rfl) (by simp) ?_
       refine AllReadyIn.cons rfl (fun K hK => ?_) AllReadyIn.nil
       ·
        go_simp
        refine hR.mono ?_
        rintro e W3 (⟨rfl, hJ3, hk3⟩ | ⟨rfl, hJx3⟩)
        ·
         refine hK _ _ ?_
         clear hK K
         try simp only [Act.put, List.setIfInBounds_toArray, List.set_cons_zero, List.set_cons_succ]
         refine takeInD (i := 15) (some 28) (v := ?_) hro rfl rfl (by kernel_rfl) (by kernel_rfl) (by kernel_rfl) (fun _ _ _ h => h) (by kernel_rfl) ?_ (fun _ => rfl) ?_
         rotate_left
         ·
          intro wx
          go_simp
          try (with_reducible rfl)
         try simp only [Act.put, List.setIfInBounds_toArray, List.set_cons_zero, List.set_cons_succ]
         refine wpAnyIn_done (by kernel_rfl) ?_ _
         gi_wp2
         go_roundw
         case rel => exact ⟨k + 1, hlt2, by go_num, hB.drew.trans hk3, hJ3⟩
         case measure => simp [intOf]; omega
        ·
         refine hK _ _ ?_
         clear hK K
         try simp only [Act.put, List.setIfInBounds_toArray, List.set_cons_zero, List.set_cons_succ]
         refine takeInD (i := 15) (some 28) (v := ?_) hro rfl rfl (by kernel_rfl) (by kernel_rfl) (by kernel_rfl) (fun _ _ _ h => h) (by kernel_rfl) ?_ (fun _ => rfl) ?_
         rotate_left
         ·
          intro wx
          go_simp
          try (with_reducible rfl)
         try simp only [Act.put, List.setIfInBounds_toArray, List.set_cons_zero, List.set_cons_succ]
         refine wpAnyIn_done (by kernel_rfl) ?_ _
         gi_wp2
         refine bodyPost_ret (results_none rfl _ _ _) rfl ?_
         exact ⟨⟨_, rfl⟩, .inr ⟨_, ⟨k + 1, hlt2, rfl⟩, hJx3⟩⟩
     ·
      go_simp
      refine hK _ _ ?_
      clear hK K
      try simp only [Act.put, List.setIfInBounds_toArray, List.set_cons_zero, List.set_cons_succ]
      refine wpAnyIn_ready (rs := [7]) (by kernel_rfl) (by simp) ?_
      refine AllReadyIn.cons rfl (fun K hK => ?_) AllReadyIn.nil
      ·
       go_simp
       refine hK _ _ ?_
       clear hK K
       try simp only [Act.put, List.setIfInBounds_toArray, List.set_cons_zero, List.set_cons_succ]
       refine takeInD (i := 13) (some 26) (v := ?_) hro rfl rfl (by kernel_rfl) (by kernel_rfl) (by kernel_rfl) (fun _ _ _ h => h) (by kernel_rfl) ?_ (fun _ => rfl) ?_
       rotate_left
       ·
        intro wx
        go_simp
        try (with_reducible rfl)
       try simp only [Act.put, List.setIfInBounds_toArray, List.set_cons_zero, List.set_cons_succ]
       refine wpAnyIn_ready (rs := [14]) (by kernel_rfl) (by simp) ?_
       refine AllReadyIn.cons rfl (fun K hK => ?_) AllReadyIn.nil
       ·
        go_simp
        refine hR.mono ?_
        rintro e W3 (⟨rfl, hJ3, hk3⟩ | ⟨rfl, hJx3⟩)
        ·
         refine hK _ _ ?_
         clear hK K
         try simp only [Act.put, List.setIfInBounds_toArray, List.set_cons_zero, List.set_cons_succ]
         refine takeInD (i := 15) (some 28) (v := ?_) hro rfl rfl (by kernel_rfl) (by kernel_rfl) (by kernel_rfl) (fun _ _ _ h => h) (by kernel_rfl) ?_ (fun _ => rfl) ?_
         rotate_left
         ·
          intro wx
          go_simp
          try (with_reducible rfl)
         try simp only [Act.put, List.setIfInBounds_toArray, List.set_cons_zero, List.set_cons_succ]
         refine wpAnyIn_done (by kernel_rfl) ?_ _
         gi_wp2
         go_roundw
         case rel => exact ⟨k + 1, hlt2, by go_num, hB.drew.trans hk3, hJ3⟩
         case measure => simp [intOf]; omega
        ·
         refine hK _ _ ?_
         clear hK K
         try simp only [Act.put, List.setIfInBounds_toArray, List.set_cons_zero, List.set_cons_succ]
         refine takeInD (i := 15) (some 28) (v := ?_) hro rfl rfl (by kernel_rfl) (by kernel_rfl) (by kernel_rfl) (fun _ _ _ h => h) (by kernel_rfl) ?_ (fun _ => rfl) ?_
         rotate_left
         ·
          intro wx
          go_simp
          try (with_reducible rfl)
         try simp only [Act.put, List.setIfInBounds_toArray, List.set_cons_zero, List.set_cons_succ]
         refine wpAnyIn_done (by kernel_rfl) ?_ _
         gi_wp2
         refine bodyPost_ret (results_none rfl _ _ _) rfl ?_
         exact ⟨⟨_, rfl⟩, .inr ⟨_, ⟨k + 1, hlt2, rfl⟩, hJx3⟩⟩
    ·
     go_simp
     refine hK _ _ ?_
     clear hK K
     try simp only [Act.put, List.setIfInBounds_toArray, List.set_cons_zero, List.set_cons_succ]
     refine wpAnyIn_ready (rs := [4]) (by kernel_rfl) (by simp) ?_
     refine AllReadyIn.cons rfl (fun K hK => ?_) AllReadyIn.nil
     ·
      go_simp
      refine hK _ _ ?_
      clear hK K
      try simp only [Act.put, List.setIfInBounds_toArray, List.set_cons_zero, List.set_cons_succ]
      refine takeInD (i := 6) (some 19) (v := ?_) hro rfl rfl (by kernel_rfl) (by kernel_rfl) (by kernel_rfl) (fun _ _ _ h => h) (by kernel_rfl) ?_ (fun _ => rfl) ?_
      rotate_left
      ·
       intro wx
       go_simp
       try (with_reducible rfl)
      try simp only [Act.put, List.setIfInBounds_toArray, List.set_cons_zero, List.set_cons_succ]
      refine wpAnyIn_ready (rs := [7]) (by kernel_rfl) (by simp) ?_
      refine AllReadyIn.cons rfl (fun K hK => ?_) AllReadyIn.nil
      ·
       go_simp
       refine hK _ _ ?_
       clear hK K
       try simp only [Act.put, List.setIfInBounds_toArray, List.set_cons_zero, List.set_cons_succ]
       refine takeInD (i := 13) (some 26) (v := ?_) hro rfl rfl (by kernel_rfl) (by kernel_rfl) (by kernel_rfl) (fun _ _ _ h => h) (by kernel_rfl) ?_ (fun _ => rfl) ?_
       rotate_left
       ·
        intro wx
        go_simp
        try (with_reducible rfl)
       try simp only [Act.put, List.setIfInBounds_toArray, List.set_cons_zero, List.set_cons_succ]
       refine wpAnyIn_ready (rs := [14]) (by kernel_rfl) (by simp) ?_
       refine AllReadyIn.cons rfl (fun K hK => ?_) AllReadyIn.nil
       ·
        go_simp
        refine hR.mono ?_
        rintro e W3 (⟨rfl, hJ3, hk3⟩ | ⟨rfl, hJx3⟩)
        ·
         refine hK _ _ ?_
         clear hK K
         try simp only [Act.put, List.setIfInBounds_toArray, List.set_cons_zero, List.set_cons_succ]
         refine takeInD (i := 15) (some 28) (v := ?_) hro rfl rfl (by kernel_rfl) (by kernel_rfl) (by kernel_rfl) (fun _ _ _ h => h) (by kernel_rfl) ?_ (fun _ => rfl) ?_
         rotate_left
         ·
          intro wx
          go_simp
          try (with_reducible rfl)
         try simp only [Act.put, List.setIfInBounds_toArray, List.set_cons_zero, List.set_cons_succ]
         refine wpAnyIn_done (by kernel_rfl) ?_ _
         gi_wp2
         go_roundw
         case rel => exact ⟨k + 1, hlt2, by go_num, hB.drew.trans hk3, hJ3⟩
         case measure => simp [intOf]; omega
        ·
         refine hK _ _ ?_
         clear hK K
         try simp only [Act.put, List.setIfInBounds_toArray, List.set_cons_zero, List.set_cons_succ]
         refine takeInD (i := 15) (some 28) (v := ?_) hro rfl rfl (by kernel_rfl) (by kernel_rfl) (by kernel_rfl) (fun _ _ _ h => h) (by kernel_rfl) ?_ (fun _ => rfl) ?_
         rotate_left
         ·
          intro wx
          go_simp
          try (with_reducible rfl)
         try simp only [Act.put, List.setIfInBounds_toArray, List.set_cons_zero, List.set_cons_succ]
         refine wpAnyIn_done (by kernel_rfl) ?_ _
         gi_wp2
         refine bodyPost_ret (results_none rfl _ _ _) rfl ?_
         exact ⟨⟨_, rfl⟩, .inr ⟨_, ⟨k + 1, hlt2, rfl⟩, hJx3⟩⟩
   -- its end
  ·
   obtain rfl : k = nQ := by omega
   gi_wp2
   go_end0
   exact ⟨⟨_, rfl⟩, .inl ⟨_, rfl, hJk⟩⟩
end Go.Proofs.YtlipielghpoaoaaGreat

namespace Go.Proofs.YtlipielghpoaoaaGreat
open Go.RowKit Go.Shelf
attribute [local go_sem] Oper.semAt_some
set_option linter.unusedVariables false
set_option linter.unusedSimpArgs false

theorem keeps_below {W W2 : World} (hb : Below W.heap.size W W2) (B : Nat) : KeepsFrom B W W2 :=
 ⟨hb.size, fun k o _ hk _ => (hb.block k (blk_lt hk)).trans hk⟩

set_option maxRecDepth 100000 in
set_option maxHeartbeats 4000000 in
theorem iRoundOk_any (R : Rnd) (w : World) (hf : R.Fit) (h : RdRnd w R) (ok : Bool) (hok : ok = true ↔ R.Ok) :
  Calls Tryz.prog 109 #[.agg R.cells] w fun e w' => e = .returned (.bool ok) ∧ Below w.heap.size w w' := by
 have HR : Hid (RdRnd w R) := h
 have HF : Hid (¬ R.Ok → ok = false) := fun hh => by
  rw [Bool.eq_false_iff]
  intro e
  exact hh (hok.1 e)
 have HO : Hid (ok = true ↔ R.Ok) := hok
 have HFit : Hid R.Fit := hf
 have hq := hf.q
 have hd := hf.d
 have hs := hf.s
 unfold maxLen at hq hd hs
 clear h hok hf
 refine (callsIn_wide (n := 8)).1 ?_
 refine callsIn_of_wp_marks Tryz.func109 rfl trivial ?_ rfl
 simp only [Tryz.ntmps109, List.size_toArray, List.length_cons, List.length_nil, Nat.reduceAdd, Nat.reduceSub, Array.replicate_succ, Array.replicate_zero, List.push_toArray, List.append_toArray, List.nil_append, List.cons_append]
 unfold Rnd.cells
 have B0 : Below w.heap.size w ((w.alloc (.cells R.cells 65)).alloc (.cells #[.bool false] 4)) := ((Below.refl _ _).alloc (Nat.le_refl _) _).alloc (by simp) _
 have f32 : Fence.wide.fn 130 := trivial
 have f33 : Fence.wide.fn 131 := trivial
 have f34 : Fence.wide.fn 132 := trivial
 by_cases h1 : R.nQ < 1
 ·
  have h1' : (R.nQ : Int) < 1 := by omega
  have HE : Hid (ok = false) := HF.out (fun hh => by have := hh.n; omega)
  gi_wp2
  exact ⟨.bool false, by simp [results, Tryz.results109, go_sem], ret_bool HE.out.symm, B0⟩
 have h1' : ¬ (R.nQ : Int) < 1 := by omega
 by_cases h2 : 4 < R.nQ
 ·
  have h2' : (4 : Int) < R.nQ := by omega
  have HE : Hid (ok = false) := HF.out (fun hh => by have := hh.n; omega)
  gi_wp2
  exact ⟨.bool false, by simp [results, Tryz.results109, go_sem], ret_bool HE.out.symm, B0⟩
 have h2' : ¬ (4 : Int) < R.nQ := by omega
 have H12 : Hid (1 ≤ R.nQ ∧ R.nQ ≤ 4) := by show _ ∧ _; omega
 clear h1 h2
 by_cases h3 : R.nD = R.nQ
 rotate_left
 ·
  have h3' : ((R.nD : Int) != (R.nQ : Int)) = true := by simp; omega
  have HE : Hid (ok = false) := HF.out (fun hh => h3 hh.d)
  clear h3
  gi_wp2
  exact ⟨.bool false, by simp [results, Tryz.results109, go_sem], ret_bool HE.out.symm, B0⟩
 have h3' : ((R.nD : Int) != (R.nQ : Int)) = false := by simp [h3]
 have H3 : Hid (R.nD = R.nQ) := h3
 clear h3
 by_cases h4 : R.nS = R.nQ
 rotate_left
 ·
  have h4' : ((R.nS : Int) != (R.nQ : Int)) = true := by simp; omega
  have HE : Hid (ok = false) := HF.out (fun hh => h4 hh.s)
  clear h4
  gi_wp2
  exact ⟨.bool false, by simp [results, Tryz.results109, go_sem], ret_bool HE.out.symm, B0⟩
 have h4' : ((R.nS : Int) != (R.nQ : Int)) = false := by simp [h4]
 have H4 : Hid (R.nS = R.nQ) := h4
 clear h4
 have kB := blk_old (.cells #[.bool false] 4) (show w.heap.size < (w.alloc (.cells R.cells 65)).heap.size by simp)
 rw [blk_new] at kB
 have kR := blk_new (w.alloc (.cells R.cells 65)) (.cells #[.bool false] 4)
 have eS : (w.alloc (.cells R.cells 65)).heap.size = w.heap.size + 1 := by simp
 rw [eS] at kR
 have e2 : ((w.alloc (.cells R.cells 65)).alloc (.cells #[.bool false] 4)).heap.size = w.heap.size + 1 + 1 := by simp
 have HK : Hid (((w.alloc (.cells R.cells 65)).alloc (.cells #[.bool false] 4)).heap[w.heap.size]? = some (.cells R.cells 65 (0, 0)) ∧ ((w.alloc (.cells R.cells 65)).alloc (.cells #[.bool false] 4)).heap[w.heap.size + 1]? = some (.cells #[.bool false] 4 (0, 0))) := ⟨kB, kR⟩
 clear kB kR
 by_cases h5 : 0 ≤ R.turn ∧ R.turn < R.nQ
 rotate_left
 ·
  have HE : Hid (ok = false) := HF.out (fun hh => h5 hh.t)
  gi_wp2_with (gi_at_call 130; refine (callsIn_wide.2 (isClass_any R R.turn _ HFit.out)).mono ?_; rintro e w1 ⟨rfl, hb1⟩; rw [decide_eq_false h5]; have B1 := B0.trans (hb1.mono B0.size); have kR1 := (hb1.block (w.heap.size + 1) (by rw [← Rnd.cells, e2]; omega)).trans HK.out.2; have cR := blk_cell kR1; have fR := blk_free kR1; clear h5 hb1 B0)
  have cS := blk_cell (blk_set (i := 0) kR1 (.bool false)) 0
  exact ⟨.bool false, by simp [results, Tryz.results109, go_sem, cS], ret_bool HE.out.symm, B1.setCell (by show _ ≤ _ + 1; omega) _⟩
 gi_wp2_with (first | (gi_at_call 130; refine (callsIn_wide.2 (isClass_any R R.turn _ HFit.out)).mono ?_; rintro e w1 ⟨rfl, hb1⟩; rw [decide_eq_true h5]; have B1 := B0.trans (hb1.mono B0.size); have kR1 := (hb1.block (w.heap.size + 1) (by rw [← Rnd.cells, e2]; omega)).trans HK.out.2; have kB1 := (hb1.block w.heap.size (by rw [← Rnd.cells, e2]; omega)).trans HK.out.1; have cB := blk_cell kB1; unfold Rnd.cells at cB; have H5 : Hid (0 ≤ R.turn ∧ R.turn < R.nQ) := h5; clear h5 hb1 B0) | (gi_at_call 131; refine (callsIn_wide.2 (classes_any R _)).mono ?_; rintro e w2 ⟨rfl, rfl⟩))
 -- the classes
 have hBt : Tells (w1.alloc (.cells R.cells 65)) w1.heap.size R := ⟨fun o => blk_cell (blk_new w1 (.cells R.cells 65)) o, HR.out.up (B1.alloc B1.size _)⟩
 have hcBx : w1.heap.size < (w1.alloc (.cells R.cells 65)).heap.size := by simp
 have hTl : ∀ W, Below (w1.alloc (.cells R.cells 65)).heap.size (w1.alloc (.cells R.cells 65)) W → Tells W w1.heap.size R := fun W hW =>
  ⟨fun o => (hW.cell (p := ⟨w1.heap.size, o, none⟩) hcBx).trans (hBt.box o), hBt.rd.up hW⟩
 have hw1 := B1.size
 have hlR := blk_lt kR1
 have hsW : w.heap.size ≤ (w1.alloc (.cells R.cells 65)).heap.size := by simp; omega
 have hc2 : w1.cell? ⟨w.heap.size, 2, none⟩ = some (.int .i64 R.turn) := cB 2
 have hc3 : w1.cell? ⟨w.heap.size, 3, none⟩ = some (.bool R.fresh) := cB 3
 have hcr : w1.cell? ⟨w.heap.size + 1, 0, none⟩ = some (.bool false) := blk_cell kR1 0
 have hfr : w1.frozen? ⟨w.heap.size + 1, 0, none⟩ = false := blk_free kR1 0
 have ho : w.heap.size < w1.heap.size := by omega
 have hold : ∀ (j : Nat) o, j < w1.heap.size → (w1.alloc (.cells R.cells 65)).cell? ⟨j, o, none⟩ = w1.cell? ⟨j, o, none⟩ := fun j o hj => World.cell?_of_block (w := w1) (a := ⟨j, o, none⟩) (blk_old _ hj)
 have holdf : (w1.alloc (.cells R.cells 65)).frozen? ⟨w.heap.size + 1, 0, none⟩ = false := (World.frozen?_of_block (w := w1) (a := ⟨w.heap.size + 1, 0, none⟩) (blk_old _ hlR)).trans hfr
 have HD : Hid (R.nQ ≤ R.nD) := by rw [Hid, H3.out]; exact Nat.le_refl _
 have HS : Hid (R.nQ ≤ R.nS) := by rw [Hid, H4.out]; exact Nat.le_refl _
 refine wpIn_rangeFunc_ownH rfl (by omega) (gf := 138) (lb := #[.pointer (some ⟨w1.heap.size, 0, none⟩)]) rfl trivial (enters_of Tryz.func138 (by kernel_rfl) rfl)
  (classes_stops Fence.wide _ trivial rfl (by omega) R HFit.out HD.out HS.out w1.heap.size (w1.alloc (.cells R.cells 65)) hBt hTl) belowK_t (belowK_b (Nat.le_refl _)) (Below.refl _ _) (fun _ => rfl)
  (fun pre W => (∀ x ∈ pre, clsP (R.q x.1) (R.d x.1) (R.L x.1) (R.z x.1) (R.begun x.1)) ∧ W.cell? ⟨w.heap.size, 2, none⟩ = some (.int .i64 R.turn) ∧ W.cell? ⟨w.heap.size, 3, none⟩ = some (.bool R.fresh) ∧ W.cell? ⟨w.heap.size + 1, 0, none⟩ = some (.bool false) ∧ W.frozen? ⟨w.heap.size + 1, 0, none⟩ = false ∧ (w1.alloc (.cells R.cells 65)).heap.size ≤ W.heap.size ∧ Below w.heap.size w W)
  (fun c pre W => c = .ret ∧ (∃ x ∈ pre, ¬ clsP (R.q x.1) (R.d x.1) (R.L x.1) (R.z x.1) (R.begun x.1)) ∧ W.cell? ⟨w.heap.size + 1, 0, none⟩ = some (.bool false) ∧ Below w.heap.size w W)
  (fun s A B row hs hg hr => ⟨hs.1, cell_kept hs.2.1 hg (fun r e => (hr r e).2), cell_kept hs.2.2.1 hg (fun r e => (hr r e).2), cell_kept hs.2.2.2.1 hg (fun r e => (hr r e).2), (frozen_kept hs.2.2.2.1 hg (fun r e => (hr r e).2)).trans hs.2.2.2.2.1, Nat.le_trans hs.2.2.2.2.2.1 hg.size, hs.2.2.2.2.2.2.grown hg hs.2.2.2.2.2.2.size (fun k e => Nat.le_trans hsW (hr k e).1)⟩)
  (fun c s A B row hs hg hr => ⟨hs.1, hs.2.1, cell_kept hs.2.2.1 hg (fun r e => (hr r e).2), hs.2.2.2.grown hg hs.2.2.2.size (fun k e => Nat.le_trans hsW (hr k e).1)⟩)
  ⟨fun x hx => by simp at hx, (hold _ _ ho).trans hc2, (hold _ _ ho).trans hc3, (hold _ _ hlR).trans hcr, holdf, Nat.le_refl _, B1.alloc hw1 _⟩
  (fun x a' W => ∃ Bx, w.heap.size + 1 < Bx ∧ W.cell? ⟨Bx, 0, none⟩ = some (.int .i64 (R.q x.1)) ∧ W.cell? ⟨Bx, 1, none⟩ = some (.int .i64 (R.d x.1)) ∧ W.cell? ⟨Bx, 2, none⟩ = some (.slice (R.A x.1) (R.L x.1) (R.C x.1)) ∧ a' = { tmps := #[.agg #[.slice R.aQ R.nQ R.cQ, .slice R.aD R.nD R.cD, .int .i64 R.turn, .bool R.fresh, .slice R.aS R.nS R.cS], .pointer (some ⟨w.heap.size, 0, none⟩), .pointer (some ⟨w.heap.size + 1, 0, none⟩), .int .i64 (R.nQ : Int), .int .i64 ((x.1 : Nat) : Int), .pointer (some ⟨Bx, 0, none⟩), .pointer (some ⟨w.heap.size, 0, none⟩), .slice R.aQ R.nQ R.cQ, .int .i64 (R.nQ : Int), .int .i64 (R.nQ : Int), .bool false, .bool false, .int .i64 (R.nQ : Int), .bool false, .bool false, .bool false, .pointer (some ⟨w.heap.size, 1, none⟩), .slice R.aD R.nD R.cD, .int .i64 (R.nD : Int), .int .i64 (R.nQ : Int), .bool false, .bool false, .bool false, .pointer (some ⟨w.heap.size, 4, none⟩), .slice R.aS R.nS R.cS, .int .i64 (R.nS : Int), .int .i64 (R.nQ : Int), .bool false, .bool false, .bool false, .agg #[.slice R.aQ R.nQ R.cQ, .slice R.aD R.nD R.cD, .int .i64 R.turn, .bool R.fresh, .slice R.aS R.nS R.cS], .pointer (some ⟨w.heap.size, 2, none⟩), .int .i64 R.turn, .bool true, .bool false, .bool false, .agg #[.slice R.aQ R.nQ R.cQ, .slice R.aD R.nD R.cD, .int .i64 R.turn, .bool R.fresh, .slice R.aS R.nS R.cS], .func (.func 138) #[] #[.pointer (some ⟨w1.heap.size, 0, none⟩)], .int .i64 ((x.1 : Nat) : Int), .agg #[.int .i64 (R.q x.1), .int .i64 (R.d x.1), .slice (R.A x.1) (R.L x.1) (R.C x.1)], undef, undef, undef, undef, undef, undef, undef, undef, undef, undef, undef, undef], defers := [] })
  (fun x a' s A B row hs hg hr => by
   obtain ⟨Bx, b1, c1, c2, c3, e⟩ := hs
   exact ⟨Bx, b1, cell_kept c1 hg (fun r e => (hr r e).2), cell_kept c2 hg (fun r e => (hr r e).2), cell_kept c3 hg (fun r e => (hr r e).2), e⟩)
  ?assign ?body ?done ?stop
 case assign =>
  rintro l pre x W K ⟨i1, i2, i3, i4, i5, i6, i7⟩ hK
  have hcn := blk_cell (blk_new W (.cells #[.int .i64 (R.q x.1), .int .i64 (R.d x.1), .slice (R.A x.1) (R.L x.1) (R.C x.1)] 164))
  have hgr := World.grownBy_alloc W (.cells #[.int .i64 (R.q x.1), .int .i64 (R.d x.1), .slice (R.A x.1) (R.L x.1) (R.C x.1)] 164) none
  have HI : Hid (∀ ob, (W.alloc ob).cell? ⟨w.heap.size, 2, none⟩ = some (.int .i64 R.turn) ∧ (W.alloc ob).cell? ⟨w.heap.size, 3, none⟩ = some (.bool R.fresh) ∧ (W.alloc ob).cell? ⟨w.heap.size + 1, 0, none⟩ = some (.bool false) ∧ (W.alloc ob).frozen? ⟨w.heap.size + 1, 0, none⟩ = false ∧ Below w.heap.size w (W.alloc ob)) := fun ob =>
   ⟨cell_kept i2 (World.grownBy_alloc W ob none) (fun r e => by cases e), cell_kept i3 (World.grownBy_alloc W ob none) (fun r e => by cases e), cell_kept i4 (World.grownBy_alloc W ob none) (fun r e => by cases e), (frozen_kept i4 (World.grownBy_alloc W ob none) (fun r e => by cases e)).trans i5, i7.alloc i7.size _⟩
  have hlt : w.heap.size + 1 < W.heap.size := by simp at i6; omega
  unfold clsV
  gi_wp2
  exact hK _ _ ((KeepsOthers.alloc _ _).from _) ((Below.refl _ W).alloc i6 _) ⟨i1, (HI.out _).1, (HI.out _).2.1, (HI.out _).2.2.1, (HI.out _).2.2.2.1, by simp at i6 ⊢; omega, (HI.out _).2.2.2.2⟩ ⟨W.heap.size, hlt, hcn 0, hcn 1, hcn 2, rfl⟩
 case body =>
  rintro l pre x a' W hl ⟨r, hr⟩ ⟨i1, i2, i3, i4, i5, i6, i7⟩ ⟨Bx, hBx, x0, x1, x2, rfl⟩ hlt
  have hl2 : w.heap.size + 1 < W.heap.size := by simp at i6; omega
  have hl0 : w.heap.size < W.heap.size := by omega
  obtain ⟨okc, hokc⟩ := ok_decR (clsP (R.q x.1) (R.d x.1) (R.L x.1) (R.z x.1) (R.begun x.1))
  have HC : Hid (okc = true ↔ clsP (R.q x.1) (R.d x.1) (R.L x.1) (R.z x.1) (R.begun x.1)) := hokc
  have hxS : x.1 < R.nS := by rw [H4.out]; exact x.2
  have HRd : Hid (RdRow W (R.A x.1) (R.L x.1) fun j => .int .i64 (R.z x.1 j)) := (HR.out.up i7).z x.1 hxS
  have HLn : Hid (R.L x.1 ≤ maxLen) := HFit.out.l x.1 hxS
  clear hokc hxS hTl hBt hold holdf hc2 hc3 hcr hfr
  by_cases hx : ((x.1 : Nat) : Int) = R.turn
  ·
   have hxq : (((x.1 : Nat) : Int) == R.turn) = true := by simp [hx]
   cases hfs : R.fresh
   ·
    have hbg : R.begun x.1 = true := by simp [Rnd.begun, hx, hfs]
    rw [hfs] at i3
    clear hx hfs
    have HC2 : Hid (okc = true ↔ clsP (R.q x.1) (R.d x.1) (R.L x.1) (R.z x.1) true) := by have hh := HC.out; rw [hbg] at hh; exact hh
    clear hbg
    cases okc
    ·
     have HCf : Hid (¬ clsP (R.q x.1) (R.d x.1) (R.L x.1) (R.z x.1) (R.begun x.1)) := fun hh => by have := HC.out.2 hh; simp at this
     gi_wp2_with (gi_at_call 132; refine (CallsIn.inRound l (callsIn_wide.2 (classOk_any (R.q x.1) (R.d x.1) (R.A x.1) (R.L x.1) (R.C x.1) (R.z x.1) true W HLn.out HRd.out false HC2.out))).mono ?_; rintro e W2 ⟨rfl, hb2⟩; have cR2 := (hb2.cell (p := ⟨w.heap.size + 1, 0, none⟩) hl2).trans i4; have fR2 := (hb2.frozen (p := ⟨w.heap.size + 1, 0, none⟩) hl2).trans i5)
     exact ⟨(keeps_below hb2 _).trans ((KeepsOthers.setCell _ _ _).from _), rfl, ⟨x, by simp, HCf.out⟩, World.cell?_setCell_same' _ _ _ (by rw [cR2]; rfl), (i7.trans (hb2.mono i7.size)).setCell (by show _ ≤ _ + 1; omega) _⟩
    ·
     have HCt : Hid (clsP (R.q x.1) (R.d x.1) (R.L x.1) (R.z x.1) (R.begun x.1)) := HC.out.1 rfl
     gi_wp2_with (gi_at_call 132; refine (CallsIn.inRound l (callsIn_wide.2 (classOk_any (R.q x.1) (R.d x.1) (R.A x.1) (R.L x.1) (R.C x.1) (R.z x.1) true W HLn.out HRd.out true HC2.out))).mono ?_; rintro e W2 ⟨rfl, hb2⟩; have cR2 := (hb2.cell (p := ⟨w.heap.size + 1, 0, none⟩) hl2).trans i4; have fR2 := (hb2.frozen (p := ⟨w.heap.size + 1, 0, none⟩) hl2).trans i5)
     exact ⟨keeps_below hb2 _, hb2.mono i6, fun y hy => by
      rcases List.mem_append.1 hy with hy | hy
      ·
       exact i1 y hy
      ·
       simp at hy; rw [hy]; exact HCt.out, (hb2.cell (p := ⟨w.heap.size, 2, none⟩) hl0).trans i2, (hb2.cell (p := ⟨w.heap.size, 3, none⟩) hl0).trans i3, cR2, fR2, Nat.le_trans i6 hb2.size, i7.trans (hb2.mono i7.size)⟩
   ·
    have hbg : R.begun x.1 = false := by simp [Rnd.begun, hfs]
    rw [hfs] at i3
    clear hx hfs
    have HC2 : Hid (okc = true ↔ clsP (R.q x.1) (R.d x.1) (R.L x.1) (R.z x.1) false) := by have hh := HC.out; rw [hbg] at hh; exact hh
    clear hbg
    cases okc
    ·
     have HCf : Hid (¬ clsP (R.q x.1) (R.d x.1) (R.L x.1) (R.z x.1) (R.begun x.1)) := fun hh => by have := HC.out.2 hh; simp at this
     gi_wp2_with (gi_at_call 132; refine (CallsIn.inRound l (callsIn_wide.2 (classOk_any (R.q x.1) (R.d x.1) (R.A x.1) (R.L x.1) (R.C x.1) (R.z x.1) false W HLn.out HRd.out false HC2.out))).mono ?_; rintro e W2 ⟨rfl, hb2⟩; have cR2 := (hb2.cell (p := ⟨w.heap.size + 1, 0, none⟩) hl2).trans i4; have fR2 := (hb2.frozen (p := ⟨w.heap.size + 1, 0, none⟩) hl2).trans i5)
     exact ⟨(keeps_below hb2 _).trans ((KeepsOthers.setCell _ _ _).from _), rfl, ⟨x, by simp, HCf.out⟩, World.cell?_setCell_same' _ _ _ (by rw [cR2]; rfl), (i7.trans (hb2.mono i7.size)).setCell (by show _ ≤ _ + 1; omega) _⟩
    ·
     have HCt : Hid (clsP (R.q x.1) (R.d x.1) (R.L x.1) (R.z x.1) (R.begun x.1)) := HC.out.1 rfl
     gi_wp2_with (gi_at_call 132; refine (CallsIn.inRound l (callsIn_wide.2 (classOk_any (R.q x.1) (R.d x.1) (R.A x.1) (R.L x.1) (R.C x.1) (R.z x.1) false W HLn.out HRd.out true HC2.out))).mono ?_; rintro e W2 ⟨rfl, hb2⟩; have cR2 := (hb2.cell (p := ⟨w.heap.size + 1, 0, none⟩) hl2).trans i4; have fR2 := (hb2.frozen (p := ⟨w.heap.size + 1, 0, none⟩) hl2).trans i5)
     exact ⟨keeps_below hb2 _, hb2.mono i6, fun y hy => by
      rcases List.mem_append.1 hy with hy | hy
      ·
       exact i1 y hy
      ·
       simp at hy; rw [hy]; exact HCt.out, (hb2.cell (p := ⟨w.heap.size, 2, none⟩) hl0).trans i2, (hb2.cell (p := ⟨w.heap.size, 3, none⟩) hl0).trans i3, cR2, fR2, Nat.le_trans i6 hb2.size, i7.trans (hb2.mono i7.size)⟩
  ·
   have hxq : (((x.1 : Nat) : Int) == R.turn) = false := by simp [hx]
   have hbg : R.begun x.1 = false := by simp [Rnd.begun, hx]
   clear hx
   have HC2 : Hid (okc = true ↔ clsP (R.q x.1) (R.d x.1) (R.L x.1) (R.z x.1) false) := by have hh := HC.out; rw [hbg] at hh; exact hh
   clear hbg
   cases okc
   ·
    have HCf : Hid (¬ clsP (R.q x.1) (R.d x.1) (R.L x.1) (R.z x.1) (R.begun x.1)) := fun hh => by have := HC.out.2 hh; simp at this
    gi_wp2_with (gi_at_call 132; refine (CallsIn.inRound l (callsIn_wide.2 (classOk_any (R.q x.1) (R.d x.1) (R.A x.1) (R.L x.1) (R.C x.1) (R.z x.1) false W HLn.out HRd.out false HC2.out))).mono ?_; rintro e W2 ⟨rfl, hb2⟩; have cR2 := (hb2.cell (p := ⟨w.heap.size + 1, 0, none⟩) hl2).trans i4; have fR2 := (hb2.frozen (p := ⟨w.heap.size + 1, 0, none⟩) hl2).trans i5)
    exact ⟨(keeps_below hb2 _).trans ((KeepsOthers.setCell _ _ _).from _), rfl, ⟨x, by simp, HCf.out⟩, World.cell?_setCell_same' _ _ _ (by rw [cR2]; rfl), (i7.trans (hb2.mono i7.size)).setCell (by show _ ≤ _ + 1; omega) _⟩
   ·
    have HCt : Hid (clsP (R.q x.1) (R.d x.1) (R.L x.1) (R.z x.1) (R.begun x.1)) := HC.out.1 rfl
    gi_wp2_with (gi_at_call 132; refine (CallsIn.inRound l (callsIn_wide.2 (classOk_any (R.q x.1) (R.d x.1) (R.A x.1) (R.L x.1) (R.C x.1) (R.z x.1) false W HLn.out HRd.out true HC2.out))).mono ?_; rintro e W2 ⟨rfl, hb2⟩; have cR2 := (hb2.cell (p := ⟨w.heap.size + 1, 0, none⟩) hl2).trans i4; have fR2 := (hb2.frozen (p := ⟨w.heap.size + 1, 0, none⟩) hl2).trans i5)
    exact ⟨keeps_below hb2 _, hb2.mono i6, fun y hy => by
     rcases List.mem_append.1 hy with hy | hy
     ·
      exact i1 y hy
     ·
      simp at hy; rw [hy]; exact HCt.out, (hb2.cell (p := ⟨w.heap.size, 2, none⟩) hl0).trans i2, (hb2.cell (p := ⟨w.heap.size, 3, none⟩) hl0).trans i3, cR2, fR2, Nat.le_trans i6 hb2.size, i7.trans (hb2.mono i7.size)⟩
 case done =>
  rintro D xs W hD rfl ⟨i1, i2, i3, i4, i5, i6, i7⟩ hK
  have HT : Hid (ok = true) := HO.out.2 ⟨H12.out, H3.out, H4.out, H5.out, fun i hi => i1 ⟨i, hi⟩ (upTo_mem _ _ _ i hi)⟩
  have hK' := (KeepsOthers.setCell W ⟨w.heap.size + 1, 0, none⟩ (.bool true)).same D _ hK rfl
  have hc5 := cell_kept (World.cell?_setCell_same' W ⟨w.heap.size + 1, 0, none⟩ (.bool true) (by rw [i4]; rfl)) (grownBy_putObj' _ D (.deferred none)) (fun r e => by cases e; exact ⟨_, hK', rfl⟩)
  have hBe : Below w.heap.size w ((W.setCell ⟨w.heap.size + 1, 0, none⟩ (.bool true)).putObj D (.deferred none)) := (i7.setCell (p := ⟨w.heap.size + 1, 0, none⟩) (by show _ ≤ _ + 1; omega) _).trans (belowK_b (w := w) (Nat.le_refl _) _ D _ _ (Nat.le_trans hsW hD) hK' rfl rfl)
  clear hTl hBt hold holdf hc2 hc3 hcr hfr
  gi_wp2
  refine ⟨by simp, .inl ⟨_, _, rfl, run_takeDeferred hK', ?_⟩⟩
  exact ⟨.bool true, by simp [results, Tryz.results109, go_sem, hc5], ret_bool HT.out.symm, hBe⟩
 case stop =>
  rintro D c pre W hD hSp ⟨rfl, ⟨x, hx, hn⟩, i4, i7⟩ hK
  have HE : Hid (ok = false) := HF.out (fun hh => hn (hh.c x.1 x.2))
  have hc5 := cell_kept i4 (grownBy_putObj' _ D (.deferred none)) (fun r e => by cases e; exact ⟨_, hK, rfl⟩)
  have hBe : Below w.heap.size w (W.putObj D (.deferred none)) := i7.trans (belowK_b (w := w) (Nat.le_refl _) _ D _ _ (Nat.le_trans hsW hD) hK rfl rfl)
  clear hTl hBt hold holdf hc2 hc3 hcr hfr
  gi_wp2
  refine ⟨by simp, .inl ⟨_, _, rfl, run_takeDeferred hK, ?_⟩⟩
  exact ⟨.bool false, by simp [results, Tryz.results109, go_sem, hc5], ret_bool HE.out.symm, hBe⟩
end Go.Proofs.YtlipielghpoaoaaGreat
