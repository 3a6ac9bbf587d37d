/- Configurations: how one reads, when one is right; the list of limits. -/
import Derived.Test.YtaiodombphpcgaaBa
import Derived.Test.YtaiodombphpcgaaArRd
import Derived.Test.YtaiodombphpcgaaReg
import Derived.OwnWalk
import Derived.Maps.AppendAt
import Derived.Handy
namespace Go.Proofs.Ytaiodombphpcgaa
open Go.RowKit
set_option linter.unusedVariables false
set_option linter.unusedSimpArgs false

theorem wrapC (x : Int) (h0 : -9223372036854775808 ≤ x) (h1 : x ≤ 9223372036854775807) : IntKind.i64.wrap x = x := by
  rw [IntKind.wrap_i64]; omega
structure Cfg where
  p : Int
  c : Int
  xo : Int
  xn : Int
  hd : Int
  lo : Int
  dl : Int
def Cfg.cells (C : Cfg) : Array Value := #[.int .i64 C.p, .int .i64 C.c, .int .i64 C.xo, .int .i64 C.xn, .int .i64 C.hd, .int .i64 C.lo, .int .i64 C.dl]
structure Cfg.Num (C : Cfg) : Prop where
  p : 2 ≤ C.p ∧ C.p ≤ 4
  c : 1 ≤ C.c ∧ C.c ≤ 1000
  xo : 1 ≤ C.xo ∧ C.xo ≤ 1000
  xn : 0 ≤ C.xn ∧ C.xn ≤ C.xo - 1
  hd : 0 ≤ C.hd ∧ C.hd ≤ 1000
  lo : 0 ≤ C.lo ∧ C.lo ≤ 1000
  dl : 1 ≤ C.dl ∧ C.dl ≤ 3
structure Cfg.Ok (C : Cfg) : Prop where
  num : C.Num
  head : C.hd ≥ 5 * (2 * C.dl + 1)
  sum : C.p * (C.xo + C.hd) + C.lo ≤ C.c
open Classical in
theorem ok_decC (p : Prop) : ∃ ok : Bool, ok = true ↔ p := ⟨decide p, by simp⟩
theorem isWithin_any (n lo hi : Int) (w : World) :
    Calls Try.prog 39 #[.int .i64 n, .int .i64 lo, .int .i64 hi] w fun e w' => e = .returned (.bool (decide (lo ≤ n ∧ n ≤ hi))) ∧ w' = w := by
  by_cases h1 : lo ≤ n
  · by_cases h2 : n ≤ hi
    · go_enter Try.func39, Try.ntmps39
      go_wp2
      go_ret
      exact ⟨by simp [h1, h2], rfl⟩
    · go_enter Try.func39, Try.ntmps39
      go_wp2
      go_ret
      exact ⟨by simp; omega, rfl⟩
  · go_enter Try.func39, Try.ntmps39
    go_wp2
    go_ret
    exact ⟨by simp; omega, rfl⟩
set_option maxHeartbeats 1000000 in
theorem iNum_any (C : Cfg) (w : World) (ok : Bool) (hok : ok = true ↔ C.Num) :
    Calls Try.prog 20 #[.agg C.cells] w fun e w' => e = .returned (.bool ok) ∧ Below w.heap.size w w' := by
  have HO : Hid (ok = true ↔ C.Num) := hok
  have HA : Hid (∀ o, Below w.heap.size w (w.alloc o)) := fun o => (Below.refl _ _).alloc (Nat.le_refl _) _
  clear hok
  unfold Cfg.cells
  go_enter Try.func20, Try.ntmps20
  go_wp2_with fail
  refine (isWithin_any _ _ _ _).mono ?_
  rintro e w' ⟨rfl, hw⟩
  rw [hw]
  clear hw w'
  by_cases h_p : 2 ≤ C.p ∧ C.p ≤ 4
  rotate_left
  · have HF : Hid (ok = false) := by
      show ok = false
      rw [Bool.eq_false_iff]
      intro e
      exact h_p (HO.out.1 e).p
    rw [decide_eq_false h_p]
    clear h_p
    go_wp2_with fail
    go_ret
    exact ⟨ret_bool HF.out.symm, HA.out _⟩
  rw [decide_eq_true h_p]
  have H_p : Hid (2 ≤ C.p ∧ C.p ≤ 4) := h_p
  clear h_p
  go_wp2_with fail
  refine (isWithin_any _ _ _ _).mono ?_
  rintro e w' ⟨rfl, hw⟩
  rw [hw]
  clear hw w'
  by_cases h_c : 1 ≤ C.c ∧ C.c ≤ 1000
  rotate_left
  · have HF : Hid (ok = false) := by
      show ok = false
      rw [Bool.eq_false_iff]
      intro e
      exact h_c (HO.out.1 e).c
    rw [decide_eq_false h_c]
    clear h_c
    go_wp2_with fail
    go_ret
    exact ⟨ret_bool HF.out.symm, HA.out _⟩
  rw [decide_eq_true h_c]
  have H_c : Hid (1 ≤ C.c ∧ C.c ≤ 1000) := h_c
  clear h_c
  go_wp2_with fail
  refine (isWithin_any _ _ _ _).mono ?_
  rintro e w' ⟨rfl, hw⟩
  rw [hw]
  clear hw w'
  by_cases h_xo : 1 ≤ C.xo ∧ C.xo ≤ 1000
  rotate_left
  · have HF : Hid (ok = false) := by
      show ok = false
      rw [Bool.eq_false_iff]
      intro e
      exact h_xo (HO.out.1 e).xo
    rw [decide_eq_false h_xo]
    clear h_xo
    go_wp2_with fail
    go_ret
    exact ⟨ret_bool HF.out.symm, HA.out _⟩
  rw [decide_eq_true h_xo]
  have H_xo : Hid (1 ≤ C.xo ∧ C.xo ≤ 1000) := h_xo
  have h_xo1 := h_xo.1
  have h_xo2 := h_xo.2
  clear h_xo
  go_wp2_with fail
  refine (isWithin_any _ _ _ _).mono ?_
  rintro e w' ⟨rfl, hw⟩
  rw [hw]
  clear hw w'
  by_cases h_xn : 0 ≤ C.xn ∧ C.xn ≤ C.xo - 1
  rotate_left
  · have HF : Hid (ok = false) := by
      show ok = false
      rw [Bool.eq_false_iff]
      intro e
      exact h_xn (HO.out.1 e).xn
    rw [decide_eq_false h_xn]
    clear h_xn
    go_wp2_with fail
    go_ret
    exact ⟨ret_bool HF.out.symm, HA.out _⟩
  rw [decide_eq_true h_xn]
  have H_xn : Hid (0 ≤ C.xn ∧ C.xn ≤ C.xo - 1) := h_xn
  clear h_xn
  go_wp2_with fail
  refine (isWithin_any _ _ _ _).mono ?_
  rintro e w' ⟨rfl, hw⟩
  rw [hw]
  clear hw w'
  by_cases h_hd : 0 ≤ C.hd ∧ C.hd ≤ 1000
  rotate_left
  · have HF : Hid (ok = false) := by
      show ok = false
      rw [Bool.eq_false_iff]
      intro e
      exact h_hd (HO.out.1 e).hd
    rw [decide_eq_false h_hd]
    clear h_hd
    go_wp2_with fail
    go_ret
    exact ⟨ret_bool HF.out.symm, HA.out _⟩
  rw [decide_eq_true h_hd]
  have H_hd : Hid (0 ≤ C.hd ∧ C.hd ≤ 1000) := h_hd
  clear h_hd
  go_wp2_with fail
  refine (isWithin_any _ _ _ _).mono ?_
  rintro e w' ⟨rfl, hw⟩
  rw [hw]
  clear hw w'
  by_cases h_lo : 0 ≤ C.lo ∧ C.lo ≤ 1000
  rotate_left
  · have HF : Hid (ok = false) := by
      show ok = false
      rw [Bool.eq_false_iff]
      intro e
      exact h_lo (HO.out.1 e).lo
    rw [decide_eq_false h_lo]
    clear h_lo
    go_wp2_with fail
    go_ret
    exact ⟨ret_bool HF.out.symm, HA.out _⟩
  rw [decide_eq_true h_lo]
  have H_lo : Hid (0 ≤ C.lo ∧ C.lo ≤ 1000) := h_lo
  clear h_lo
  go_wp2_with fail
  refine (isWithin_any _ _ _ _).mono ?_
  rintro e w' ⟨rfl, hw⟩
  rw [hw]
  clear hw w'
  by_cases h_dl : 1 ≤ C.dl ∧ C.dl ≤ 3
  rotate_left
  · have HF : Hid (ok = false) := by
      show ok = false
      rw [Bool.eq_false_iff]
      intro e
      exact h_dl (HO.out.1 e).dl
    rw [decide_eq_false h_dl]
    clear h_dl
    go_wp2_with fail
    go_ret
    exact ⟨ret_bool HF.out.symm, HA.out _⟩
  rw [decide_eq_true h_dl]
  have H_dl : Hid (1 ≤ C.dl ∧ C.dl ≤ 3) := h_dl
  clear h_dl
  have HT : Hid (ok = true) := HO.out.2 ⟨H_p.out, H_c.out, H_xo.out, H_xn.out, H_hd.out, H_lo.out, H_dl.out⟩
  go_wp2_with fail
  go_ret
  exact ⟨ret_bool HT.out.symm, HA.out _⟩
theorem headNeeded_any (C : Cfg) (w : World) (h1 : 1 ≤ C.dl) (h2 : C.dl ≤ 3) :
    Calls Try.prog 21 #[.agg C.cells] w fun e w' => e = .returned (.int .i64 (5 * (2 * C.dl + 1))) ∧ Below w.heap.size w w' := by
  have HA : Hid (∀ o, Below w.heap.size w (w.alloc o)) := fun o => (Below.refl _ _).alloc (Nat.le_refl _) _
  have e1 : IntKind.i64.wrap (2 * C.dl) = 2 * C.dl := wrapC _ (by omega) (by omega)
  have e2 : IntKind.i64.wrap (2 * C.dl + 1) = 2 * C.dl + 1 := wrapC _ (by omega) (by omega)
  have e3 : IntKind.i64.wrap (5 * (2 * C.dl + 1)) = 5 * (2 * C.dl + 1) := wrapC _ (by omega) (by omega)
  unfold Cfg.cells
  go_enter Try.func21, Try.ntmps21
  go_wp2_with fail
  go_ret
  exact ⟨ret_int (by first | rfl | omega), HA.out _⟩

def lossyV : Value := .iface 95 (.agg #[])
def portV (i : Nat) : Value := .iface 97 (.agg #[.int .i64 i])
def lims (n : Nat) : List Value := lossyV :: (List.range n).map portV
theorem lims_succ (n : Nat) : lims (n + 1) = lims n ++ [portV n] := by simp [lims, List.range_succ]
theorem lims_len (n : Nat) : (lims n).length = n + 1 := by simp [lims]
theorem lims_zero (n : Nat) : (lims n)[0]? = some lossyV := rfl
theorem lims_at (n i : Nat) (h : i < n) : (lims n)[i + 1]? = some (portV i) := by simp [lims, h]
theorem infoL : (Try.prog.info? 78).map (fun i => (i.zero, i.size, i.bytes)) = some (some .nilIface, 1, 16) := by kernel_rfl
theorem one_lim (i : Nat) : ∀ u ∈ ([portV i] : List Value), u.oneCell' = true := by simp [portV, Value.oneCell']
theorem own_formsC {w : World} {base size n : Nat} {e : TypeId} {v : Value} {xs : List Value} (h : w.ownsRow base e size v n xs) : (v = .slice none 0 0 ∧ n = 0) ∨ ∃ g cap, v = .slice (some ⟨g, 0, none⟩) n cap := by
  rcases h.2 with h0 | ⟨g, cap, _, hv, _⟩
  · exact Or.inl h0
  · exact Or.inr ⟨g, cap, hv⟩
theorem own_nextC {B : Nat} {e : TypeId} {w wr w' : World} {k : Nat} {xs ys : List Value} {v v' : Value} {o : Obj} (hz : B ≤ wr.heap.size) (hB : Below B w wr) (hown : wr.ownsRow B e 1 v k xs) (hown' : w'.ownsRow B e 1 v' (k + 1) ys) (hg : (wr.alloc o).grownBy w' v.ownBlock) :
    ∃ g2 cap2, v' = .slice (some ⟨g2, 0, none⟩) (k + 1) cap2 ∧ w'.ownsRow B e 1 v' (k + 1) ys ∧ Below B w w' := by
  rcases own_formsC hown' with ⟨_, h0⟩ | ⟨g2, cap2, rfl⟩
  · omega
  refine ⟨g2, cap2, rfl, hown', (hB.alloc hz o).grown hg (by simp; omega) (fun j hj => ?_)⟩
  rcases hown.2 with ⟨rfl, _⟩ | ⟨g, cap, cur, rfl, hge, _⟩
  · cases hj
  · simp only [Value.ownBlock, Option.some.injEq] at hj
    omega
def limV : Nat → Value
  | 0 => lossyV
  | i + 1 => portV i
theorem lims_read {w : World} {base g n cap : Nat} {e : TypeId} (h : w.ownsRow base e 1 (.slice (some ⟨g, 0, none⟩) (n + 1) cap) (n + 1) (lims n)) : RdRow w (some ⟨g, 0, none⟩) (n + 1) limV := by
  intro i hi
  refine ⟨g, 0, rfl, ?_⟩
  rw [Nat.zero_add, own_cell h i hi]
  cases i with
  | zero => exact lims_zero n
  | succ i => exact lims_at n i (by omega)
set_option maxHeartbeats 1000000 in
theorem limitsOf_any (C : Cfg) (n : Nat) (w : World) (hn : n ≤ 4) (hp : C.p = (n : Int)) :
    Calls Try.prog 40 #[.agg C.cells] w fun e w' => (∃ g cap, e = .returned (.slice (some ⟨g, 0, none⟩) (n + 1) cap) ∧ w'.ownsRow w.heap.size 78 1 (.slice (some ⟨g, 0, none⟩) (n + 1) cap) (n + 1) (lims n)) ∧ Below w.heap.size w w' := by
  obtain ⟨i0, hi, hz0, hz1, hz2⟩ := info_parts infoL
  obtain ⟨p, c, xo, xn, hd, lo, dl⟩ := C
  dsimp only at hp
  subst hp
  unfold Cfg.cells
  dsimp only
  go_enter Try.func40, Try.ntmps40
  go_wp2_with fail
  go_loopw [3, 10] (fun v i wr => ∃ (k g cap : Nat), k ≤ n ∧ i = .int .i64 k ∧ v = .slice (some ⟨g, 0, none⟩) (k + 1) cap ∧ wr.ownsRow w.heap.size 78 1 (.slice (some ⟨g, 0, none⟩) (k + 1) cap) (k + 1) (lims k) ∧ Below w.heap.size w wr) (fun _ i _ => n - (intOf i).toNat)
  case atStart => exact ⟨0, w.heap.size + 1, 1, Nat.zero_le _, rfl, by simp, ⟨rfl, .inr ⟨w.heap.size + 1, 1, #[lossyV], rfl, by omega, by have := blk_new (w.alloc (.cells #[.int .i64 n, .int .i64 c, .int .i64 xo, .int .i64 xn, .int .i64 hd, .int .i64 lo, .int .i64 dl] 25)) (.cells #[lossyV] 78); rw [show (w.alloc (.cells #[.int .i64 n, .int .i64 c, .int .i64 xo, .int .i64 xn, .int .i64 hd, .int .i64 lo, .int .i64 dl] 25)).heap.size = w.heap.size + 1 by simp] at this; exact this, by simp, by first | (unfold maxLen; omega) | simp, by first | simp | (unfold maxLen; omega), by simp [lims]⟩⟩, ((Below.refl _ _).alloc (Nat.le_refl _) _).alloc (by simp) _⟩
  case round =>
    obtain ⟨k, g, cap, hk, rfl, rfl, hown, hB⟩ := hrel
    have zB := hB.size
    by_cases hlt : k < n
    · have hlt' : (k : Int) < n := by omega
      go_wp2_with (at_builtin; refine wpList_append_own _ rfl (.tmp 13) (.tmp 17) 75 rfl w.heap.size 78 i0 .nilIface 1 16 Try.underlying75 hi hz0 hz1 hz2 rfl (by decide) _ (k + 1) _ rfl (hown.alloc _) ⟨wr.heap.size, 0, none⟩ 1 1 [portV k] rfl rfl (cell_one_new _ _ _) (one_lim _) (by unfold maxLen; omega) (by omega) (by simp; omega) ?_; intro v' w' hown' hgrow' hnil'; obtain ⟨g2, cap2, rfl, o2, B2⟩ := own_nextC zB hB hown hown' hgrow')
      go_roundw
      case rel => exact ⟨k + 1, g2, cap2, by omega, by go_num, rfl, by rw [lims_succ]; exact o2, B2⟩
      case measure => simp [intOf]; omega
    · obtain rfl : k = n := by omega
      go_wp2_with fail
      go_ret
      exact ⟨⟨g, cap, rfl, hown⟩, hB⟩
end Go.Proofs.Ytaiodombphpcgaa
