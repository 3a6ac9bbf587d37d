/- Rounds: how one reads, when one is right; the program's looks at a class. -/
import Derived.Test.YtaiodombphpcgaaBa
import Derived.Test.YtaiodombphpcgaaArRd
import Derived.Test.YtaiodombphpcgaaReg
namespace Go.Proofs.Ytaiodombphpcgaa
open Go.RowKit
set_option linter.unusedVariables false
set_option linter.unusedSimpArgs false

theorem wrapR (x : Int) (h0 : -9223372036854775808 ≤ x) (h1 : x ≤ 9223372036854775807) : IntKind.i64.wrap x = x := by
  rw [IntKind.wrap_i64]; omega
/-- a round as it lies: three slices, a number, a bool -/
structure Rnd where
  aQ : Option Addr
  nQ : Nat
  cQ : Nat
  q : Nat → Int
  aD : Option Addr
  nD : Nat
  cD : Nat
  d : Nat → Int
  turn : Int
  fresh : Bool
  aS : Option Addr
  nS : Nat
  cS : Nat
  A : Nat → Option Addr
  L : Nat → Nat
  C : Nat → Nat
  z : Nat → Nat → Int
def Rnd.cells (R : Rnd) : Array Value := #[.slice R.aQ R.nQ R.cQ, .slice R.aD R.nD R.cD, .int .i64 R.turn, .bool R.fresh, .slice R.aS R.nS R.cS]
structure RdRnd (w : World) (R : Rnd) : Prop where
  q : RdRow w R.aQ R.nQ fun i => .int .i64 (R.q i)
  d : RdRow w R.aD R.nD fun i => .int .i64 (R.d i)
  s : RdRow w R.aS R.nS fun i => .slice (R.A i) (R.L i) (R.C i)
  z : ∀ i, i < R.nS → RdRow w (R.A i) (R.L i) fun j => .int .i64 (R.z i j)
theorem RdRnd.up {w w2 : World} {R : Rnd} (h : RdRnd w R) (hb : Below w.heap.size w w2) : RdRnd w2 R :=
  ⟨h.q.up hb, h.d.up hb, h.s.up hb, fun i hi => (h.z i hi).up hb⟩
/-- lengths that a machine may have -/
structure Rnd.Fit (R : Rnd) : Prop where
  q : R.nQ ≤ maxLen
  d : R.nD ≤ maxLen
  s : R.nS ≤ maxLen
  l : ∀ i, i < R.nS → R.L i ≤ maxLen
def sizesP (n : Nat) (z : Nat → Int) : Prop := n ≤ 1000 ∧ ∀ j, j < n → 1 ≤ z j ∧ z j ≤ 5
def defP (q d : Int) (n : Nat) (begun : Bool) : Prop := if n = 0 then d = 0 else 0 ≤ d ∧ d < 5 + (if begun then q else 0)
def clsP (q d : Int) (n : Nat) (z : Nat → Int) (begun : Bool) : Prop := (1 ≤ q ∧ q ≤ 10) ∧ sizesP n z ∧ defP q d n begun
def Rnd.begun (R : Rnd) (i : Nat) : Bool := decide ((i : Int) = R.turn) && !R.fresh
structure Rnd.Ok (R : Rnd) : Prop where
  n : 1 ≤ R.nQ ∧ R.nQ ≤ 4
  d : R.nD = R.nQ
  s : R.nS = R.nQ
  t : 0 ≤ R.turn ∧ R.turn < R.nQ
  c : ∀ i, i < R.nQ → clsP (R.q i) (R.d i) (R.L i) (R.z i) (R.begun i)
open Classical in
theorem ok_decR (p : Prop) : ∃ ok : Bool, ok = true ↔ p := ⟨decide p, by simp⟩

theorem isSize_any (n : Int) (w : World) :
    Calls Try.prog 76 #[.int .i64 n] w fun e w' => e = .returned (.bool (decide (1 ≤ n ∧ n ≤ 5))) ∧ w' = w := by
  by_cases h1 : 1 ≤ n
  · go_enter Try.func76, Try.ntmps76
    go_wp2
    go_ret
    exact ⟨by simp [h1], rfl⟩
  · go_enter Try.func76, Try.ntmps76
    go_wp2
    go_ret
    exact ⟨by simp; omega, rfl⟩
theorem sizesOk_any (a : Option Addr) (n cap : Nat) (z : Nat → Int) (w : World) (hn : n ≤ maxLen) (h : RdRow w a n fun j => .int .i64 (z j)) (ok : Bool) (hok : ok = true ↔ sizesP n z) :
    Calls Try.prog 71 #[.slice a n cap] w fun e w' => e = .returned (.bool ok) ∧ Same w w' := by
  have HO : Hid (ok = true ↔ sizesP n z) := hok
  have HR : Hid (RdRow w a n fun j => .int .i64 (z j)) := h
  have hm : (n : Int) ≤ 9223372036854775807 := by unfold maxLen at hn; omega
  clear h hok
  by_cases h8 : 1000 < n
  · have h8' : (1000 : Int) < n := by omega
    have HF : Hid (ok = false) := by
      show ok = false
      rw [Bool.eq_false_iff]
      intro e
      have := (HO.out.1 e).1
      omega
    go_enter Try.func71, Try.ntmps71
    go_wp2_with fail
    go_ret
    exact ⟨ret_bool HF.out.symm, Same.refl _⟩
  · have h8' : ¬ (1000 : Int) < n := by omega
    go_enter Try.func71, Try.ntmps71
    go_wp2_with fail
    go_loopw [10] (fun i wr => ∃ k : Nat, k ≤ n ∧ i = .int .i64 k ∧ (∀ j, j < k → 1 ≤ z j ∧ z j ≤ 5) ∧ Same w wr) (fun i _ => n - (intOf i).toNat)
    case atStart => exact ⟨0, Nat.zero_le _, rfl, fun i hi => by omega, Same.refl _⟩
    case round =>
      obtain ⟨k, hk, rfl, hall, hS⟩ := hrel
      have HA : Hid (∀ j, j < k → 1 ≤ z j ∧ z j ≤ 5) := hall
      clear hall
      by_cases hlt : k < n
      · have hlt' : (k : Int) < n := by omega
        obtain ⟨g, o, rfl, c0⟩ := HR.out k hlt
        have c1 := (hS.cell ⟨g, o + k, none⟩).trans c0
        dsimp only at c1
        clear c0
        go_wp2_with fail
        refine (isSize_any _ _).mono ?_
        rintro e w' ⟨rfl, rfl⟩
        by_cases hz : 1 ≤ z k ∧ z k ≤ 5
        · have HZ : Hid (1 ≤ z k ∧ z k ≤ 5) := hz
          rw [decide_eq_true hz]
          clear hz
          go_wp2_with fail
          go_roundw
          case rel => exact ⟨k + 1, by omega, by go_num, fun j hj => by
            by_cases e : j = k
            · subst e; exact HZ.out
            · exact HA.out j (by omega), hS⟩
          case measure => simp [intOf]; omega
        · have HF : Hid (ok = false) := by
            show ok = false
            rw [Bool.eq_false_iff]
            intro e
            exact hz ((HO.out.1 e).2 k hlt)
          rw [decide_eq_false hz]
          clear hz
          go_wp2_with fail
          go_ret
          exact ⟨ret_bool HF.out.symm, hS⟩
      · obtain rfl : k = n := by omega
        have HT : Hid (ok = true) := HO.out.2 ⟨by omega, HA.out⟩
        go_wp2_with fail
        go_ret
        exact ⟨ret_bool HT.out.symm, hS⟩

theorem deficitOk_any (q d : Int) (a : Option Addr) (n cap : Nat) (b : Bool) (w : World) (hn : n ≤ maxLen) (h1 : 1 ≤ q) (h2 : q ≤ 10) (ok : Bool) (hok : ok = true ↔ defP q d n b) :
    Calls Try.prog 72 #[.agg #[.int .i64 q, .int .i64 d, .slice a n cap], .bool b] w fun e w' => e = .returned (.bool ok) ∧ Below w.heap.size w w' := by
  have hm : (n : Int) ≤ 9223372036854775807 := by unfold maxLen at hn; omega
  have HA : Hid (∀ ob, Below w.heap.size w (w.alloc ob)) := fun ob => (Below.refl _ _).alloc (Nat.le_refl _) _
  have hw : IntKind.i64.wrap (5 + q) = 5 + q := wrapR _ (by omega) (by omega)
  by_cases h0 : n = 0
  · subst h0
    have HE : Hid (decide (d = 0) = ok) := by
      rw [Hid, Bool.eq_iff_iff, hok]; simp [defP]
    clear hok
    go_enter Try.func72, Try.ntmps72
    go_wp2_with fail
    go_ret
    exact ⟨ret_bool (by rw [← HE.out]; rfl), HA.out _⟩
  · have h0' : ((n : Int) == 0) = false := by simp; omega
    cases b
    · by_cases hd : 0 ≤ d
      · have HE : Hid (decide (d < 5) = ok) := by
          rw [Hid, Bool.eq_iff_iff, hok]; simp [defP, h0, hd]
        clear hok h0
        go_enter Try.func72, Try.ntmps72
        go_wp2_with fail
        go_ret
        exact ⟨ret_bool HE.out, HA.out _⟩
      · have HE : Hid (false = ok) := by
          rw [Hid, Bool.eq_iff_iff, hok]; simp [defP, h0, hd]
        clear hok h0
        go_enter Try.func72, Try.ntmps72
        go_wp2_with fail
        go_ret
        exact ⟨ret_bool HE.out, HA.out _⟩
    · by_cases hd : 0 ≤ d
      · have HE : Hid (decide (d < 5 + q) = ok) := by
          rw [Hid, Bool.eq_iff_iff, hok]; simp [defP, h0, hd]
        clear hok h0
        go_enter Try.func72, Try.ntmps72
        go_wp2_with fail
        go_ret
        exact ⟨ret_bool HE.out, HA.out _⟩
      · have HE : Hid (false = ok) := by
          rw [Hid, Bool.eq_iff_iff, hok]; simp [defP, h0, hd]
        clear hok h0
        go_enter Try.func72, Try.ntmps72
        go_wp2_with fail
        go_ret
        exact ⟨ret_bool HE.out, HA.out _⟩
end Go.Proofs.Ytaiodombphpcgaa
