/- The marks by which the laws look whether an answer owns its memory: written, and held against. -/
import Derived.Test.YtjliapdfjjblnaaBa
import Derived.Test.YtjliapdfjjblnaaBox
import Derived.Laws.BitsAllLaws
import Derived.Laws.BytesArg
import Derived.Laws.MakeOwn
import Derived.Deep.RegionHeld3
import Derived.Deep.QuietTactic
import Derived.BigQuiet
namespace Go.Proofs.Ytjliapdfjjblnaa
open Go.RowKit
set_option linter.unusedVariables false
set_option linter.unusedSimpArgs false

theorem convOne (w : World) (a : Int) : (convert 60 9 (.slice (some ⟨w.heap.size, 0, none⟩) 1 1)).run Try.prog (w.alloc (.cells #[.int .u8 a] 5)) = .ok (.string (strOfNums [a])) (w.alloc (.cells #[.int .u8 a] 5)) := by
  refine run_convert_bytes_arg _ 60 5 Try.underlying60 Try.underlying5 w.heap.size 0 1 1 [a] rfl ?_ 9 Try.underlying9
  intro i hi
  have := World.cell?_alloc_mark w #[.int .u8 a] 5 (0, 0) (0 + i)
  rw [this]
  obtain rfl : i = 0 := by omega
  rfl

def mtGo : Nat → Nat → ByteArray → ByteArray
  | 0, _, out => out
  | f + 1, k, out => if k = 0 then out else mtGo f (k / 10) (strOfNums [48 + (k : Int) % 10] ++ out)
/-- the mark of k -/
def mt (k : Nat) : ByteArray := if k = 0 then ⟨#[109, 48]⟩ else ⟨#[109]⟩ ++ mtGo k k ⟨#[]⟩
theorem mtGo_zero (f : Nat) (out : ByteArray) : mtGo f 0 out = out := by cases f <;> simp [mtGo]
theorem mtGo_step (f k : Nat) (out : ByteArray) (h : 0 < k) : mtGo (f + 1) k out = mtGo f (k / 10) (strOfNums [48 + (k : Int) % 10] ++ out) := by
  rw [mtGo, if_neg (by omega)]

theorem markText_any (k : Nat) (w : World) (hk : k < 1000000000000) :
    Calls Try.prog 50 #[.int .i64 k] w fun e w' => e = .returned (.string (mt k)) ∧ Below w.heap.size w w' := by
  by_cases h0 : k = 0
  · subst h0
    go_enter Try.func50, Try.ntmps50
    go_wp2_with fail
    go_ret
    exact ⟨rfl, Below.refl _ _⟩
  · have hpos : (0 : Int) < k := by omega
    have HM : Hid (mt k = ⟨#[109]⟩ ++ mtGo k k ⟨#[]⟩) := by show _ = _; unfold mt; rw [if_neg h0]
    go_enter Try.func50, Try.ntmps50
    go_wp2_with fail
    go_loopw [0, 3] (fun x o wr => ∃ (kk f r : Nat) (out : ByteArray), kk ≤ f ∧ kk < 10 ^ r ∧ out.size + r ≤ 12 ∧ x = .int .i64 kk ∧ o = .string out ∧ mtGo f kk out = mtGo k k ⟨#[]⟩ ∧ Below w.heap.size w wr) (fun x _ _ => (intOf x).toNat)
    case atStart => exact ⟨k, k, 12, ⟨#[]⟩, Nat.le_refl _, by omega, Nat.le_refl _, rfl, rfl, rfl, Below.refl _ _⟩
    case round =>
      obtain ⟨kk, f, r, out, hf, hr, hs, rfl, rfl, hm, hB⟩ := hrel
      have HG : Hid (mtGo f kk out = mtGo k k ⟨#[]⟩) := hm
      clear hm
      by_cases hz : 0 < kk
      · have hz' : (0 : Int) < kk := by omega
        have hk12 : (kk : Int) ≤ 1000000000000 := by
          have : kk < 10 ^ 12 := Nat.lt_of_lt_of_le hr (Nat.pow_le_pow_right (by omega) (by omega))
          omega
        have hcv := convOne wr
        have hd1 : ∀ a, ¬ (9223372036854775807 < (strOfNums [a]).size + out.size) := by intro a; rw [strOfNums_size]; simp; omega
        go_wp2_with fail
        obtain ⟨f', rfl⟩ : ∃ f', f = f' + 1 := ⟨f - 1, by omega⟩
        obtain ⟨r', rfl⟩ : ∃ r', r = r' + 1 := by
          cases r with
          | zero => simp at hr; omega
          | succ r => exact ⟨r, rfl⟩
        go_roundw
        case rel =>
          refine ⟨kk / 10, f', r', strOfNums [48 + (kk : Int) % 10] ++ out, by omega, ?_, ?_, by go_num, rfl, ?_, hB.alloc hB.size _⟩
          · rw [Nat.pow_succ] at hr; omega
          · rw [ByteArray.size_append, strOfNums_size]; simp; omega
          · rw [← HG.out, mtGo_step f' kk out hz]
        case measure => simp [intOf]; omega
      · obtain rfl : kk = 0 := by omega
        have hd1 : ¬ (9223372036854775807 < (⟨#[109]⟩ : ByteArray).size + out.size) := by show ¬ (_ < 1 + out.size); omega
        have hout : Hid (mtGo k k ⟨#[]⟩ = out) := by have := HG.out; rw [mtGo_zero] at this; exact this.symm
        go_wp2_with fail
        go_ret
        exact ⟨ret_string (by rw [HM.out, hout.out]), hB⟩

/-- all blocks but those of S that were there are as they were -/
structure Touch (S : List Nat) (w w' : World) : Prop where
  os : w'.os = w.os
  tape : w'.tape = w.tape
  output : w'.output = w.output
  size : w.heap.size ≤ w'.heap.size
  block : ∀ k, k < w.heap.size → k ∉ S → w'.heap[k]? = w.heap[k]?
theorem Touch.refl (S : List Nat) (w : World) : Touch S w w := ⟨rfl, rfl, rfl, Nat.le_refl _, fun _ _ _ => rfl⟩
theorem Touch.trans {S : List Nat} {a b c : World} (h : Touch S a b) (k : Touch S b c) : Touch S a c :=
  ⟨k.os.trans h.os, k.tape.trans h.tape, k.output.trans h.output, Nat.le_trans h.size k.size, fun i hi hn => (k.block i (Nat.lt_of_lt_of_le hi h.size) hn).trans (h.block i hi hn)⟩
theorem Touch.mono {S S' : List Nat} {a b : World} (h : Touch S a b) (hs : ∀ x ∈ S, x ∈ S') : Touch S' a b := ⟨h.os, h.tape, h.output, h.size, fun k hk hn => h.block k hk (fun hm => hn (hs k hm))⟩
theorem Touch.ofBelow {S : List Nat} {a b : World} (h : Below a.heap.size a b) : Touch S a b := ⟨h.os, h.tape, h.output, h.size, fun i hi _ => h.block i hi⟩
theorem Touch.below {S : List Nat} {B : Nat} {a b : World} (h : Touch S a b) (hB : B ≤ a.heap.size) (hS : ∀ x ∈ S, B ≤ x) : Below B a b :=
  ⟨h.os, h.tape, h.output, h.size, fun k hk => h.block k (by omega) (fun hm => by have := hS k hm; omega)⟩
theorem Touch.set {S : List Nat} {g : Nat} {a b : World} (h : Touch S a b) (hg : g ∈ S) (i : Nat) (v : Value) : Touch S a (b.setCell ⟨g, i, none⟩ v) :=
  h.trans ⟨rfl, rfl, rfl, by simp [World.setCell], fun k _ hn => blk_set_ne (by intro e; subst e; exact hn hg) v⟩

/-- a row of n cells at the head of block g, written over cell by cell: behind k of them -/
def RowTo (g : Nat) (t : TypeId) (n : Nat) (f : Nat → Value) (k : Nat) (w : World) : Prop :=
  ∃ arr : Array Value, w.heap[g]? = some (.cells arr t (0, 0)) ∧ n ≤ arr.size ∧ ∀ i, i < k → arr[i]? = some (f i)
theorem RowTo.step {g n k : Nat} {t : TypeId} {f : Nat → Value} {w : World} (h : RowTo g t n f k w) (hk : k < n) : RowTo g t n f (k + 1) (w.setCell ⟨g, k, none⟩ (f k)) := by
  obtain ⟨arr, hb, hn, hc⟩ := h
  refine ⟨_, blk_set hb _, by simpa using hn, fun i hi => ?_⟩
  by_cases e : i = k
  · subst e
    rw [Array.getElem?_setIfInBounds_self_of_lt (by omega)]
  · rw [Array.getElem?_setIfInBounds_ne (by omega)]
    exact hc i (by omega)
theorem RowTo.there {g n k : Nat} {t : TypeId} {f : Nat → Value} {w : World} (h : RowTo g t n f k w) (i : Nat) (hi : i < n) : ∃ v, w.cell? ⟨g, i, none⟩ = some v := by
  obtain ⟨arr, hb, hn, hc⟩ := h
  exact ⟨arr[i], by rw [blk_cell hb]; simp⟩
theorem RowTo.free {g n k : Nat} {t : TypeId} {f : Nat → Value} {w : World} (h : RowTo g t n f k w) (i : Nat) : w.frozen? ⟨g, i, none⟩ = false := by
  obtain ⟨arr, hb, hn, hc⟩ := h
  exact blk_free hb i
theorem RowTo.at {g n : Nat} {t : TypeId} {f : Nat → Value} {w : World} (h : RowTo g t n f n w) (i : Nat) (hi : i < n) : w.cell? ⟨g, i, none⟩ = some (f i) := by
  obtain ⟨arr, hb, hn, hc⟩ := h
  rw [blk_cell hb]; exact hc i hi
theorem RowTo.keep {g n k : Nat} {t : TypeId} {f : Nat → Value} {w w' : World} (h : RowTo g t n f k w) (hb : w'.heap[g]? = w.heap[g]?) : RowTo g t n f k w' := by
  obtain ⟨arr, h1, h2, h3⟩ := h
  exact ⟨arr, hb.trans h1, h2, h3⟩
theorem RowTo.lt {g n k : Nat} {t : TypeId} {f : Nat → Value} {w : World} (h : RowTo g t n f k w) : g < w.heap.size := by
  obtain ⟨arr, h1, h2, h3⟩ := h
  exact blk_lt h1
theorem RowTo.anew {g n k : Nat} {t : TypeId} {f f' : Nat → Value} {w : World} (h : RowTo g t n f k w) : RowTo g t n f' 0 w := by
  obtain ⟨arr, h1, h2, h3⟩ := h
  exact ⟨arr, h1, h2, fun i hi => by omega⟩

theorem markInts_any (g n cap m : Nat) (f : Nat → Value) (w : World) (h : RowTo g 2 n f n w) (hn : n ≤ 1048576) (hm : m ≤ 100000000) :
    Calls Try.prog 15 #[.slice (some ⟨g, 0, none⟩) n cap, .int .i64 m] w fun e w' => e = .returned (.int .i64 (m + n : Nat)) ∧ RowTo g 2 n (fun i => .int .i64 (m + i : Nat)) n w' ∧ Touch [g] w w' := by
  go_enter Try.func15, Try.ntmps15
  go_wp2_with fail
  go_loopw [1, 5] (fun x i wr => ∃ k : Nat, k ≤ n ∧ i = .int .i64 k ∧ x = .int .i64 (m + k : Nat) ∧ RowTo g 2 n (fun i => .int .i64 (m + i : Nat)) k wr ∧ Touch [g] w wr) (fun _ i _ => n - (intOf i).toNat)
  case atStart => exact ⟨0, Nat.zero_le _, rfl, rfl, h.anew, Touch.refl _ _⟩
  case round =>
    obtain ⟨k, hk, rfl, rfl, hR, hT⟩ := hrel
    by_cases hlt : k < n
    · obtain ⟨v, hv⟩ := hR.there k hlt
      have hf := hR.free k
      have hlt' : (k : Int) < n := by omega
      go_wp2_with fail
      go_roundw
      case rel => exact ⟨k + 1, by omega, by go_num, by go_num, hR.step hlt, hT.set (by simp) k _⟩
      case measure => simp [intOf]; omega
    · obtain rfl : k = n := by omega
      go_wp2_with fail
      go_ret
      exact ⟨rfl, hR, hT⟩

theorem markStrs_any (g n cap m : Nat) (f : Nat → Value) (w : World) (h : RowTo g 9 n f n w) (hn : n ≤ 1048576) (hm : m ≤ 100000000) :
    Calls Try.prog 36 #[.slice (some ⟨g, 0, none⟩) n cap, .int .i64 m] w fun e w' => e = .returned (.int .i64 (m + n : Nat)) ∧ RowTo g 9 n (fun i => .string (mt (m + i))) n w' ∧ Touch [g] w w' := by
  go_enter Try.func36, Try.ntmps36
  go_wp2_with fail
  go_loopw [1, 5] (fun x i wr => ∃ k : Nat, k ≤ n ∧ i = .int .i64 k ∧ x = .int .i64 (m + k : Nat) ∧ RowTo g 9 n (fun i => .string (mt (m + i))) k wr ∧ Touch [g] w wr) (fun _ i _ => n - (intOf i).toNat)
  case atStart => exact ⟨0, Nat.zero_le _, rfl, rfl, h.anew, Touch.refl _ _⟩
  case round =>
    obtain ⟨k, hk, rfl, rfl, hR, hT⟩ := hrel
    by_cases hlt : k < n
    · have hlt' : (k : Int) < n := by omega
      go_wp2_with fail
      refine (markText_any (m + k) _ (by omega)).mono ?_
      rintro e w1 ⟨rfl, hb1⟩
      have hR1 := hR.keep (hb1.block g hR.lt)
      have hT1 := hT.trans (Touch.ofBelow hb1)
      obtain ⟨v, hv⟩ := hR1.there k hlt
      have hf := hR1.free k
      clear hb1 hR hT
      go_wp2_with fail
      go_roundw
      case rel => exact ⟨k + 1, by omega, by go_num, by go_num, hR1.step hlt, hT1.set (by simp) k _⟩
      case measure => simp [intOf]; omega
    · obtain rfl : k = n := by omega
      go_wp2_with fail
      go_ret
      exact ⟨rfl, hR, hT⟩

theorem heldInts_any (g n cap m : Nat) (w : World) (h : RowTo g 2 n (fun i => .int .i64 (m + i : Nat)) n w) (hn : n ≤ 1048576) (hm : m ≤ 100000000) :
    Calls Try.prog 16 #[.slice (some ⟨g, 0, none⟩) n cap, .int .i64 m] w fun e w' => e = .returned (.int .i64 (m + n : Nat)) ∧ w = w' := by
  go_enter Try.func16, Try.ntmps16
  go_wp2_with fail
  go_loop [1, 5] (fun x i => ∃ k : Nat, k ≤ n ∧ i = .int .i64 k ∧ x = .int .i64 (m + k : Nat)) (fun _ i => n - (intOf i).toNat)
  case atStart => exact ⟨0, Nat.zero_le _, rfl, rfl⟩
  case round =>
    obtain ⟨k, hk, rfl, rfl⟩ := hrel
    by_cases hlt : k < n
    · have hc := h.at k hlt
      have hlt' : (k : Int) < n := by omega
      go_wp2_with fail
      go_round
      case rel => exact ⟨k + 1, by omega, by go_num, by go_num⟩
      case measure => simp [intOf]; omega
    · obtain rfl : k = n := by omega
      go_wp2_with fail
      go_ret
      exact ⟨rfl, rfl⟩

/-- only draws lie between -/
structure Same (w w' : World) : Prop where
  os : w'.os = w.os
  tape : w'.tape = w.tape
  output : w'.output = w.output
  heap : w'.heap = w.heap
theorem Same.refl (w : World) : Same w w := ⟨rfl, rfl, rfl, rfl⟩
theorem Same.drewN {a b : World} (h : Same a b) (n : Nat) : Same a (b.drewN n) := ⟨h.os, h.tape, h.output, h.heap⟩
theorem Same.cell {a b : World} (h : Same a b) (p : Addr) : b.cell? p = a.cell? p := by unfold World.cell?; rw [h.heap]
theorem Same.below {a b : World} (h : Same a b) (B : Nat) : Below B a b := ⟨h.os, h.tape, h.output, by rw [h.heap]; exact Nat.le_refl _, fun k _ => by rw [h.heap]⟩

theorem eqInts_any (a1 a2 : Option Addr) (n c1 c2 : Nat) (f : Nat → Int) (w : World) (hn : n ≤ 1048576) (h1 : ∀ i, i < n → ∃ g o, a1 = some ⟨g, o, none⟩ ∧ w.cell? ⟨g, o + i, none⟩ = some (.int .i64 (f i))) (h2 : ∀ i, i < n → ∃ g o, a2 = some ⟨g, o, none⟩ ∧ w.cell? ⟨g, o + i, none⟩ = some (.int .i64 (f i))) :
    Calls Try.prog 12 #[.slice a1 n c1, .slice a2 n c2] w fun e w' => e = .returned (.bool true) ∧ Same w w' := by
  go_enter Try.func12, Try.ntmps12
  go_wp2_with fail
  go_loopw [5] (fun i wr => ∃ k : Nat, k ≤ n ∧ i = .int .i64 k ∧ Same w wr) (fun i _ => n - (intOf i).toNat)
  case atStart => exact ⟨0, Nat.zero_le _, rfl, Same.refl _⟩
  case round =>
    obtain ⟨k, hk, rfl, hS⟩ := hrel
    by_cases hlt : k < n
    · obtain ⟨g1, o1, rfl, e1⟩ := h1 k hlt
      obtain ⟨g2, o2, rfl, e2⟩ := h2 k hlt
      rw [← hS.cell] at e1 e2
      clear h1 h2
      have hlt' : (k : Int) < n := by omega
      go_wp2_with fail
      go_quiet (fail)
      go_wp2_with fail
      go_roundw
      case rel => exact ⟨k + 1, by omega, by go_num, hS.drewN _⟩
      case measure => simp [intOf]; omega
    · obtain rfl : k = n := by omega
      go_wp2_with fail
      go_ret
      exact ⟨rfl, hS⟩

theorem eqStrs_any (a1 a2 : Option Addr) (n c1 c2 : Nat) (f : Nat → ByteArray) (w : World) (hn : n ≤ 1048576) (h1 : ∀ i, i < n → ∃ g o, a1 = some ⟨g, o, none⟩ ∧ w.cell? ⟨g, o + i, none⟩ = some (.string (f i))) (h2 : ∀ i, i < n → ∃ g o, a2 = some ⟨g, o, none⟩ ∧ w.cell? ⟨g, o + i, none⟩ = some (.string (f i))) :
    Calls Try.prog 35 #[.slice a1 n c1, .slice a2 n c2] w fun e w' => e = .returned (.bool true) ∧ Same w w' := by
  go_enter Try.func35, Try.ntmps35
  go_wp2_with fail
  go_loopw [5] (fun i wr => ∃ k : Nat, k ≤ n ∧ i = .int .i64 k ∧ Same w wr) (fun i _ => n - (intOf i).toNat)
  case atStart => exact ⟨0, Nat.zero_le _, rfl, Same.refl _⟩
  case round =>
    obtain ⟨k, hk, rfl, hS⟩ := hrel
    by_cases hlt : k < n
    · obtain ⟨g1, o1, rfl, e1⟩ := h1 k hlt
      obtain ⟨g2, o2, rfl, e2⟩ := h2 k hlt
      rw [← hS.cell] at e1 e2
      clear h1 h2
      have hlt' : (k : Int) < n := by omega
      go_wp2_with fail
      go_quiet (fail)
      go_wp2_with fail
      go_roundw
      case rel => exact ⟨k + 1, by omega, by go_num, hS.drewN _⟩
      case measure => simp [intOf]; omega
    · obtain rfl : k = n := by omega
      go_wp2_with fail
      go_ret
      exact ⟨rfl, hS⟩

theorem heldStrs_any (g n cap m : Nat) (w : World) (h : RowTo g 9 n (fun i => .string (mt (m + i))) n w) (hn : n ≤ 1048576) (hm : m ≤ 100000000) :
    Calls Try.prog 42 #[.slice (some ⟨g, 0, none⟩) n cap, .int .i64 m] w fun e w' => e = .returned (.int .i64 (m + n : Nat)) ∧ Below w.heap.size w w' := by
  have hg := h.lt
  go_enter Try.func42, Try.ntmps42
  go_wp2_with fail
  go_loopw [1, 5] (fun x i wr => ∃ k : Nat, k ≤ n ∧ i = .int .i64 k ∧ x = .int .i64 (m + k : Nat) ∧ Below w.heap.size w wr) (fun _ i _ => n - (intOf i).toNat)
  case atStart => exact ⟨0, Nat.zero_le _, rfl, rfl, Below.refl _ _⟩
  case round =>
    obtain ⟨k, hk, rfl, rfl, hB⟩ := hrel
    by_cases hlt : k < n
    · have hc : wr.cell? ⟨g, k, none⟩ = some (.string (mt (m + k))) := (hB.cell (p := ⟨g, k, none⟩) hg).trans (h.at k hlt)
      have hgr : g < wr.heap.size := Nat.lt_of_lt_of_le hg hB.size
      have hlt' : (k : Int) < n := by omega
      go_wp2_with fail
      refine wp_region_held_drew (S := fun w' => w'.cell? ⟨g, k, none⟩ = some (.string (mt (m + k)))) (by kernel_rfl) hc (fun hHeld => ?_)
      refine wpAnyH_take (i := 0) (v := ?_) rfl (by kernel_rfl) (by kernel_rfl) (by kernel_rfl) (fun _ _ _ h => h) (Or.inl ⟨by rfl, ?_⟩) (by assumption) ?_
      rotate_left
      · intro wx hSw
        try dsimp only at hSw
        go_simp
        try (with_reducible rfl)
      try simp only [Act.put, List.setIfInBounds_toArray, List.set_cons_zero, List.set_cons_succ]
      refine wpAnyH_take (i := 1) (v := ?_) rfl (by kernel_rfl) (by kernel_rfl) (by kernel_rfl) (fun _ _ _ h => h) (Or.inl ⟨by rfl, ?_⟩) (by assumption) ?_
      rotate_left
      · intro wx hSw
        try dsimp only at hSw
        go_simp
        try (with_reducible rfl)
      try simp only [Act.put, List.setIfInBounds_toArray, List.set_cons_zero, List.set_cons_succ]
      refine wpAnyH_take (i := 2) (v := ?_) rfl (by kernel_rfl) (by kernel_rfl) (by kernel_rfl) (fun _ _ _ h => h) (Or.inl ⟨by rfl, ?_⟩) (by assumption) ?_
      rotate_left
      · intro wx hSw
        try dsimp only at hSw
        go_simp
        try (with_reducible rfl)
      try simp only [Act.put, List.setIfInBounds_toArray, List.set_cons_zero, List.set_cons_succ]
      refine wpAnyH_take (i := 3) (v := ?_) rfl (by kernel_rfl) (by kernel_rfl) (by kernel_rfl) (fun _ _ _ h => h) (Or.inl ⟨by rfl, ?_⟩) (by assumption) ?_
      rotate_left
      · intro wx hSw
        try dsimp only at hSw
        go_simp
        try (with_reducible rfl)
      try simp only [Act.put, List.setIfInBounds_toArray, List.set_cons_zero, List.set_cons_succ]
      refine wpAnyH_take (i := 4) (v := ?_) rfl (by kernel_rfl) (by kernel_rfl) (by kernel_rfl) (fun _ _ _ h => h) (Or.inl ⟨by rfl, ?_⟩) (by assumption) ?_
      rotate_left
      · intro wx hSw
        try dsimp only at hSw
        go_simp
        try (with_reducible rfl)
      try simp only [Act.put, List.setIfInBounds_toArray, List.set_cons_zero, List.set_cons_succ]
      refine wpAnyH_ready (rs := [5]) (by kernel_rfl) (by simp) ?_
      refine AllReadyH.cons rfl (fun K hK => ?_) AllReadyH.nil
      go_simp
      refine (markText_any (m + k) _ (by omega)).mono ?_
      rintro e w1 ⟨rfl, hb1⟩
      have hc1 : w1.cell? ⟨g, k, none⟩ = some (.string (mt (m + k))) := (hb1.cell (p := ⟨g, k, none⟩) hgr).trans hc
      have B1 : Below w.heap.size w w1 := hB.drew.trans (hb1.mono hB.size)
      clear hb1 hHeld
      go_wp2_with fail
      refine hK.out _ _ hc1 (fun hHeld => ?_)
      clear hK K
      try simp only [Act.put, List.setIfInBounds_toArray, List.set_cons_zero, List.set_cons_succ]
      refine wpAnyH_ready (rs := [6]) (by kernel_rfl) (by simp) ?_
      refine AllReadyH.cons rfl (fun K hK => ?_) AllReadyH.nil
      go_simp
      refine hK.out _ _ hc1 (fun hHeld => ?_)
      clear hK K
      try simp only [Act.put, List.setIfInBounds_toArray, List.set_cons_zero, List.set_cons_succ]
      refine wpAnyH_done (by kernel_rfl) ?_ _
      go_wp2_with fail
      go_roundw
      case rel => exact ⟨k + 1, by omega, by go_num, by go_num, B1⟩
      case measure => simp [intOf]; omega
    · obtain rfl : k = n := by omega
      go_wp2_with fail
      go_ret
      exact ⟨rfl, hB⟩
end Go.Proofs.Ytjliapdfjjblnaa
