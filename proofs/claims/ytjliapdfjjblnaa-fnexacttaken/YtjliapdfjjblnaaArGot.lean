/- Answers that own their rows: read, marked, held against their marks. -/
import Derived.Test.YtjliapdfjjblnaaArSOk
import Derived.Test.YtjliapdfjjblnaaArTo
import Derived.Test.YtjliapdfjjblnaaBox
namespace Go.Proofs.Ytjliapdfjjblnaa
open Go.RowKit
set_option linter.unusedVariables false

/-- the block of a slice, if it has one -/
def bl : Value → List Nat
  | .slice (some a) _ _ => [a.block]
  | _ => []
/-- a slice that lies whole in a block of its own, from base on, or nil -/
def VRow (t : TypeId) (w : World) (base : Nat) (v : Value) (n : Nat) (f : Nat → Value) : Prop :=
  ∃ a cap, v = .slice a n cap ∧ (a = none ∧ n = 0 ∨ ∃ g, a = some ⟨g, 0, none⟩ ∧ base ≤ g ∧ RowTo g t n f n w)
theorem VRow.read {t : TypeId} {w : World} {base n : Nat} {v : Value} {f : Nat → Value} (h : VRow t w base v n f) : ∃ a cap, v = .slice a n cap ∧ RdRow w a n f := by
  obtain ⟨a, cap, rfl, ⟨rfl, rfl⟩ | ⟨g, rfl, hg, hR⟩⟩ := h
  · exact ⟨_, _, rfl, RdRow.nil _ _ _⟩
  · exact ⟨_, _, rfl, hR.read⟩
theorem VRow.keep {t : TypeId} {w w' : World} {base n : Nat} {v : Value} {f : Nat → Value} (h : VRow t w base v n f) (hk : ∀ g ∈ bl v, w'.heap[g]? = w.heap[g]?) : VRow t w' base v n f := by
  obtain ⟨a, cap, rfl, ⟨rfl, rfl⟩ | ⟨g, rfl, hg, hR⟩⟩ := h
  · exact ⟨_, _, rfl, .inl ⟨rfl, rfl⟩⟩
  · exact ⟨_, _, rfl, .inr ⟨g, rfl, hg, hR.keep (hk g (by simp [bl]))⟩⟩
theorem VRow.lt {t : TypeId} {w : World} {base n : Nat} {v : Value} {f : Nat → Value} (h : VRow t w base v n f) : ∀ g ∈ bl v, g < w.heap.size ∧ base ≤ g := by
  obtain ⟨a, cap, rfl, ⟨rfl, rfl⟩ | ⟨g, rfl, hg, hR⟩⟩ := h
  · simp [bl]
  · simp only [bl, List.mem_singleton]
    rintro x rfl
    exact ⟨hR.lt, hg⟩
theorem VRow.up {t : TypeId} {w w' : World} {base n : Nat} {v : Value} {f : Nat → Value} (h : VRow t w base v n f) (hb : Below w.heap.size w w') : VRow t w' base v n f :=
  h.keep (fun g hg => hb.block g (h.lt g hg).1)
theorem VRow.touch {t : TypeId} {w w' : World} {S : List Nat} {base n : Nat} {v : Value} {f : Nat → Value} (h : VRow t w base v n f) (hb : Touch S w w') (hS : ∀ g ∈ bl v, g ∉ S) : VRow t w' base v n f :=
  h.keep (fun g hg => hb.block g (h.lt g hg).1 (hS g hg))
theorem VRow.low {t : TypeId} {w : World} {base base' n : Nat} {v : Value} {f : Nat → Value} (h : VRow t w base v n f) (hb : base' ≤ base) : VRow t w base' v n f := by
  obtain ⟨a, cap, rfl, h | ⟨g, rfl, hg, hR⟩⟩ := h
  · exact ⟨_, _, rfl, .inl h⟩
  · exact ⟨_, _, rfl, .inr ⟨g, rfl, by omega, hR⟩⟩
theorem VRow.nil (t : TypeId) (w : World) (base : Nat) (f : Nat → Value) : VRow t w base (.slice none 0 0) 0 f := ⟨_, _, rfl, .inl ⟨rfl, rfl⟩⟩
theorem VRow.of {t : TypeId} {w : World} {base g n cap : Nat} {f : Nat → Value} (h : RowTo g t n f n w) (hg : base ≤ g) : VRow t w base (.slice (some ⟨g, 0, none⟩) n cap) n f := ⟨_, _, rfl, .inr ⟨g, rfl, hg, h⟩⟩
theorem VRow.apart {t t' : TypeId} {w : World} {base base' n n' : Nat} {v v' : Value} {f f' : Nat → Value} (h : VRow t w base v n f) (h' : VRow t' w base' v' n' f') (hn : t ≠ t') : ∀ g ∈ bl v, g ∉ bl v' := by
  obtain ⟨a, cap, rfl, ⟨rfl, rfl⟩ | ⟨g, rfl, hg, arr, hR, _⟩⟩ := h
  · simp [bl]
  · obtain ⟨a', cap', rfl, ⟨rfl, rfl⟩ | ⟨g', rfl, hg', arr', hR', _⟩⟩ := h'
    · simp [bl]
    · simp only [bl, List.mem_singleton]
      rintro x rfl rfl
      rw [hR] at hR'
      cases hR'
      exact hn rfl
/-- a list's numbers, at their places -/
def intsOf (L : List Int) (i : Nat) : Value := .int .i64 (L.getD i 0)
theorem own_vrow {w : World} {base n : Nat} {v : Value} {L : List Int} (h : w.ownsRow base 2 1 v n (L.map (.int .i64))) : n = L.length ∧ VRow 2 w base v L.length (intsOf L) := by
  obtain ⟨hl, h | ⟨g', cap', cur, hv, hg, hblk, hn, hc, hs, ht⟩⟩ := h
  · obtain ⟨rfl, rfl⟩ := h
    have : L.length = 0 := by simpa using hl
    rw [this]
    exact ⟨rfl, VRow.nil _ _ _ _⟩
  · have hlen : L.length = n := by simpa using hl
    subst hv
    refine ⟨hlen.symm, ?_⟩
    subst hlen
    refine VRow.of ⟨cur, hblk, by omega, fun i hi => ?_⟩ hg
    have e : (cur.toList.take (L.length * 1))[i]? = (L.map (Value.int .i64))[i]? := by rw [ht]
    rw [Nat.mul_one, List.getElem?_take_of_lt hi, List.getElem?_map, List.getElem?_eq_getElem hi, Array.getElem?_toList] at e
    rw [e]
    simp [intsOf, List.getD_eq_getElem?_getD, List.getElem?_eq_getElem hi]

theorem markInts0 (a : Option Addr) (cap m : Nat) (w : World) (hm : m ≤ 100000000) :
    Calls Try.prog 15 #[.slice a 0 cap, .int .i64 m] w fun e w' => e = .returned (.int .i64 m) ∧ w = w' := by
  go_enter Try.func15, Try.ntmps15
  go_wp2_with fail
  go_loop [1, 5] (fun x i => x = .int .i64 m ∧ i = .int .i64 0) (fun _ i => 0)
  case atStart => exact ⟨rfl, rfl⟩
  case round =>
    obtain ⟨rfl, rfl⟩ := hrel
    go_wp2_with fail
    go_ret
    exact ⟨rfl, rfl⟩
theorem markStrs0 (a : Option Addr) (cap m : Nat) (w : World) (hm : m ≤ 100000000) :
    Calls Try.prog 36 #[.slice a 0 cap, .int .i64 m] w fun e w' => e = .returned (.int .i64 m) ∧ w = w' := by
  go_enter Try.func36, Try.ntmps36
  go_wp2_with fail
  go_loop [1, 5] (fun x i => x = .int .i64 m ∧ i = .int .i64 0) (fun _ i => 0)
  case atStart => exact ⟨rfl, rfl⟩
  case round =>
    obtain ⟨rfl, rfl⟩ := hrel
    go_wp2_with fail
    go_ret
    exact ⟨rfl, rfl⟩
theorem heldInts0 (a : Option Addr) (cap m : Nat) (w : World) (hm : m ≤ 100000000) :
    Calls Try.prog 16 #[.slice a 0 cap, .int .i64 m] w fun e w' => e = .returned (.int .i64 m) ∧ w = w' := by
  go_enter Try.func16, Try.ntmps16
  go_wp2_with fail
  go_loop [1, 5] (fun x i => x = .int .i64 m ∧ i = .int .i64 0) (fun _ i => 0)
  case atStart => exact ⟨rfl, rfl⟩
  case round =>
    obtain ⟨rfl, rfl⟩ := hrel
    go_wp2_with fail
    go_ret
    exact ⟨rfl, rfl⟩
theorem heldStrs0 (a : Option Addr) (cap m : Nat) (w : World) (hm : m ≤ 100000000) :
    Calls Try.prog 42 #[.slice a 0 cap, .int .i64 m] w fun e w' => e = .returned (.int .i64 m) ∧ w = w' := by
  go_enter Try.func42, Try.ntmps42
  go_wp2_with fail
  go_loop [1, 5] (fun x i => x = .int .i64 m ∧ i = .int .i64 0) (fun _ i => 0)
  case atStart => exact ⟨rfl, rfl⟩
  case round =>
    obtain ⟨rfl, rfl⟩ := hrel
    go_wp2_with fail
    go_ret
    exact ⟨rfl, rfl⟩
/-- the marks from m on -/
def mInts (m i : Nat) : Value := .int .i64 (m + i : Nat)
def mStrs (m i : Nat) : Value := .string (mt (m + i))
theorem markI_any (v : Value) (base n m : Nat) (f : Nat → Value) (w : World) (h : VRow 2 w base v n f) (hn : n ≤ 1048576) (hm : m ≤ 100000000) :
    Calls Try.prog 15 #[v, .int .i64 m] w fun e w' => e = .returned (.int .i64 (m + n : Nat)) ∧ VRow 2 w' base v n (mInts m) ∧ Touch (bl v) w w' := by
  obtain ⟨a, cap, rfl, ⟨rfl, rfl⟩ | ⟨g, rfl, hg, hR⟩⟩ := h
  · refine (markInts0 none cap m w hm).mono ?_
    rintro e w' ⟨rfl, rfl⟩
    exact ⟨rfl, ⟨_, _, rfl, .inl ⟨rfl, rfl⟩⟩, Touch.refl _ _⟩
  · refine (markInts_any g n cap m f w hR hn hm).mono ?_
    rintro e w' ⟨rfl, h1, h2⟩
    exact ⟨rfl, VRow.of h1 hg, h2⟩
theorem heldI_any (v : Value) (base n m : Nat) (w : World) (h : VRow 2 w base v n (mInts m)) (hn : n ≤ 1048576) (hm : m ≤ 100000000) :
    Calls Try.prog 16 #[v, .int .i64 m] w fun e w' => e = .returned (.int .i64 (m + n : Nat)) ∧ w = w' := by
  obtain ⟨a, cap, rfl, ⟨rfl, rfl⟩ | ⟨g, rfl, hg, hR⟩⟩ := h
  · refine (heldInts0 none cap m w hm).mono ?_
    rintro e w' ⟨rfl, rfl⟩
    exact ⟨rfl, rfl⟩
  · exact heldInts_any g n cap m w hR hn hm
theorem markS_any (v : Value) (base n m : Nat) (f : Nat → Value) (w : World) (h : VRow 9 w base v n f) (hn : n ≤ 1048576) (hm : m ≤ 100000000) :
    Calls Try.prog 36 #[v, .int .i64 m] w fun e w' => e = .returned (.int .i64 (m + n : Nat)) ∧ VRow 9 w' base v n (mStrs m) ∧ Touch (bl v) w w' := by
  obtain ⟨a, cap, rfl, ⟨rfl, rfl⟩ | ⟨g, rfl, hg, hR⟩⟩ := h
  · refine (markStrs0 none cap m w hm).mono ?_
    rintro e w' ⟨rfl, rfl⟩
    exact ⟨rfl, ⟨_, _, rfl, .inl ⟨rfl, rfl⟩⟩, Touch.refl _ _⟩
  · refine (markStrs_any g n cap m f w hR hn hm).mono ?_
    rintro e w' ⟨rfl, h1, h2⟩
    exact ⟨rfl, VRow.of h1 hg, h2⟩
theorem heldS_any (v : Value) (base n m : Nat) (w : World) (h : VRow 9 w base v n (mStrs m)) (hn : n ≤ 1048576) (hm : m ≤ 100000000) :
    Calls Try.prog 42 #[v, .int .i64 m] w fun e w' => e = .returned (.int .i64 (m + n : Nat)) ∧ Below w.heap.size w w' := by
  obtain ⟨a, cap, rfl, ⟨rfl, rfl⟩ | ⟨g, rfl, hg, hR⟩⟩ := h
  · refine (heldStrs0 none cap m w hm).mono ?_
    rintro e w' ⟨rfl, rfl⟩
    exact ⟨rfl, Below.refl _ _⟩
  · exact heldStrs_any g n cap m w hR hn hm
/-- two rows read the same: told to be the same -/
theorem eqI_any (v v' : Value) (base base' n : Nat) (L : List Int) (w : World) (hn : n ≤ 1048576) (h : VRow 2 w base v n (intsOf L)) (h' : VRow 2 w base' v' n (intsOf L)) :
    Calls Try.prog 12 #[v, v'] w fun e w' => e = .returned (.bool true) ∧ Same w w' := by
  obtain ⟨a, cap, rfl, hr⟩ := h.read
  obtain ⟨a', cap', rfl, hr'⟩ := h'.read
  exact eqInts_any a a' n cap cap' (fun i => L.getD i 0) w hn hr hr'

theorem markA_any (v1 v2 : Value) (base1 base2 n n2 m : Nat) (fr : Int) (f u : Nat → Value) (w : World) (hn : n ≤ 1048576) (hn2 : n2 ≤ 1048576) (hm : m ≤ 10000000) (h1 : VRow 2 w base1 v1 n f) (h2 : VRow 9 w base2 v2 n2 u) :
    Calls Try.prog 14 #[.agg #[v1, v2, .int .i64 fr], .int .i64 m] w fun e w' => e = .returned (.int .i64 (m + n + n2 : Nat)) ∧ VRow 2 w' base1 v1 n (mInts m) ∧ VRow 9 w' base2 v2 n2 (mStrs (m + n)) ∧ Touch (bl v1 ++ bl v2) w w' := by
  have l1 := h1.lt
  have l2 := h2.lt
  have hap := h2.apart h1 (by decide)
  have HU : Hid (∀ o, Below w.heap.size w (w.alloc o)) := fun o => (Below.refl _ _).alloc (Nat.le_refl _) _
  have HL1 : Hid (∀ g ∈ bl v1, g < w.heap.size ∧ base1 ≤ g) := l1
  have HL2 : Hid (∀ g ∈ bl v2, g < w.heap.size ∧ base2 ≤ g) := l2
  have HAP : Hid (∀ g ∈ bl v2, g ∉ bl v1) := hap
  clear l1 l2 hap
  obtain ⟨q1, q2, hv1⟩ : ∃ a c, v1 = .slice a n c := by obtain ⟨a, c, h, _⟩ := h1; exact ⟨a, c, h⟩
  obtain ⟨q3, q4, hv2⟩ : ∃ a c, v2 = .slice a n2 c := by obtain ⟨a, c, h, _⟩ := h2; exact ⟨a, c, h⟩
  subst hv1 hv2
  go_enter Try.func14, Try.ntmps14
  go_wp2_with fail
  refine (markI_any _ base1 n m f _ (h1.up (HU.out _)) hn (by omega)).mono ?_
  rintro e w1 ⟨rfl, hN1, hT1⟩
  have e1 : ∀ o, (w.alloc o).heap.size = w.heap.size + 1 := by intro o; simp
  have b1 := (hT1.block w.heap.size (by rw [e1]; omega) (fun hm => by have := (HL1.out _ hm).1; omega)).trans (blk_new w _)
  have d1 := (h2.up (HU.out _)).touch hT1 HAP.out
  have T1 := (Touch.ofBelow (HU.out _)).trans hT1
  have z1 := T1.size
  clear hT1 h1 h2
  have cb := blk_cell b1
  go_wp2_with fail
  refine (markS_any _ base2 n2 (m + n) u _ d1 hn2 (by omega)).mono ?_
  rintro e w2 ⟨rfl, hD2, hT2⟩
  have n2' := hN1.touch hT2 (fun g hg hg' => HAP.out g hg' hg)
  have T2 := (T1.mono (S' := bl (.slice q1 n q2) ++ bl (.slice q3 n2 q4)) (by intro x hx; simp [hx])).trans (hT2.mono (by intro x hx; simp [hx]))
  clear hT2 T1
  go_wp2_with fail
  go_ret
  exact ⟨rfl, n2', hD2, T2⟩

theorem heldA_any (v1 v2 : Value) (base1 base2 n n2 m : Nat) (fr : Int) (w : World) (hn : n ≤ 1048576) (hn2 : n2 ≤ 1048576) (hm : m ≤ 10000000) (h1 : VRow 2 w base1 v1 n (mInts m)) (h2 : VRow 9 w base2 v2 n2 (mStrs (m + n))) :
    Calls Try.prog 21 #[.agg #[v1, v2, .int .i64 fr], .int .i64 m] w fun e w' => e = .returned (.int .i64 (m + n + n2 : Nat)) ∧ Below w.heap.size w w' := by
  have HU : Hid (∀ o, Below w.heap.size w (w.alloc o)) := fun o => (Below.refl _ _).alloc (Nat.le_refl _) _
  obtain ⟨q1, q2, hv1⟩ : ∃ a c, v1 = .slice a n c := by obtain ⟨a, c, h, _⟩ := h1; exact ⟨a, c, h⟩
  obtain ⟨q3, q4, hv2⟩ : ∃ a c, v2 = .slice a n2 c := by obtain ⟨a, c, h, _⟩ := h2; exact ⟨a, c, h⟩
  subst hv1 hv2
  go_enter Try.func21, Try.ntmps21
  go_wp2_with fail
  refine (heldI_any _ base1 n m _ (h1.up (HU.out _)) hn (by omega)).mono ?_
  rintro e w1 ⟨rfl, rfl⟩
  have hnn : ¬ (((m + n : Nat) : Int) < 0) := by omega
  have hnn' : (0 : Int) ≤ (m : Int) + n := by omega
  go_wp2_with fail
  refine (heldS_any _ base2 n2 (m + n) _ (h2.up (HU.out _)) hn2 (by omega)).mono ?_
  rintro e w2 ⟨rfl, hb2⟩
  have B2 : Below w.heap.size w w2 := ((Below.refl _ _).alloc (Nat.le_refl _) _).trans (hb2.mono (by simp))
  have hn3 : (0 : Int) ≤ (m : Int) + n + n2 := by omega
  go_wp2_with fail
  go_ret
  exact ⟨rfl, B2⟩
end Go.Proofs.Ytjliapdfjjblnaa
