/- Rounds that own their rows: marked with numbers of their own, and looked at again. -/
import Derived.Test.YtclibohnmjkliaaRnTo2
namespace Go.Proofs.Ytclibohnmjkliaa
open Go.RowKit
set_option linter.unusedVariables false
set_option linter.unusedSimpArgs false

/-- a slice of numbers that owns its row, or has none -/
def VI (w : World) (base : Nat) (a : Option Addr) (n : Nat) (f : Nat → Int) : Prop := n = 0 ∨ ∃ g, a = some ⟨g, 0, none⟩ ∧ base ≤ g ∧ RowTo g 2 n (fun i => .int .i64 (f i)) n w
def blkI (a : Option Addr) (n : Nat) : List Nat := if n = 0 then [] else (a.map (·.block)).toList
def apartI (a : Option Addr) (n : Nat) (a' : Option Addr) (n' : Nat) : Prop := ∀ x ∈ blkI a n, x ∉ blkI a' n'
theorem apartI.symm {a a' : Option Addr} {n n' : Nat} (h : apartI a n a' n') : apartI a' n' a n := fun x hx hy => h x hy hx
theorem VI.read {w : World} {base : Nat} {a : Option Addr} {n : Nat} {f : Nat → Int} (h : VI w base a n f) : RdRow w a n fun i => .int .i64 (f i) := by
  rcases h with rfl | ⟨g, rfl, _, hr⟩
  · exact RdRow.nil _ _ _
  · exact hr.read
theorem VI.up {w w' : World} {base : Nat} {a : Option Addr} {n : Nat} {f : Nat → Int} (h : VI w base a n f) (hb : Below w.heap.size w w') : VI w' base a n f :=
  h.imp id (by rintro ⟨g, ha, hg, hr⟩; exact ⟨g, ha, hg, hr.keep (hb.block _ hr.lt)⟩)
theorem VI.mono {w : World} {base base' : Nat} {a : Option Addr} {n : Nat} {f : Nat → Int} (h : VI w base a n f) (hb : base' ≤ base) : VI w base' a n f :=
  h.imp id (by rintro ⟨g, ha, hg, hr⟩; exact ⟨g, ha, by omega, hr⟩)
theorem blkI_mem {g n : Nat} (h : n ≠ 0) : g ∈ blkI (some ⟨g, 0, none⟩) n := by unfold blkI; rw [if_neg h]; simp
theorem VI.touchS {w w' : World} {base : Nat} {a : Option Addr} {n : Nat} {f : Nat → Int} {S : List Nat} (h : VI w base a n f) (ht : Touch S w w') (hp : ∀ x ∈ blkI a n, x ∉ S) : VI w' base a n f := by
  rcases h with h | ⟨g, rfl, hg, hr⟩
  · exact .inl h
  · by_cases h0 : n = 0
    · exact .inl h0
    exact .inr ⟨g, rfl, hg, hr.keep (ht.block g hr.lt (hp g (blkI_mem h0)))⟩
theorem VI.blk {w : World} {base : Nat} {a : Option Addr} {n : Nat} {f : Nat → Int} (h : VI w base a n f) : ∀ x ∈ blkI a n, base ≤ x ∧ x < w.heap.size := by
  intro x hx
  unfold blkI at hx
  split at hx
  · simp at hx
  · rcases h with h | ⟨g, rfl, hg, hr⟩
    · contradiction
    · simp at hx; subst hx; exact ⟨hg, hr.lt⟩
theorem markEmpty_any (a : Option Addr) (cap m : Nat) (w : World) : Calls Try.prog 37 #[.slice a 0 cap, .int .i64 m] w fun e w' => e = .returned (.int .i64 m) ∧ w = w' := by
  go_enter Try.func37, Try.ntmps37
  go_wp2_with fail
  go_loop [1, 5] (fun x i => x = .int .i64 m ∧ i = .int .i64 0) (fun _ _ => 0)
  case atStart => exact ⟨rfl, rfl⟩
  case round =>
    obtain ⟨rfl, rfl⟩ := hrel
    go_wp2_with fail
    go_ret
    exact ⟨rfl, rfl⟩
theorem heldEmpty_any (a : Option Addr) (cap m : Nat) (w : World) : Calls Try.prog 41 #[.slice a 0 cap, .int .i64 m] w fun e w' => e = .returned (.int .i64 m) ∧ w = w' := by
  go_enter Try.func41, Try.ntmps41
  go_wp2_with fail
  go_loop [1, 5] (fun x i => x = .int .i64 m ∧ i = .int .i64 0) (fun _ _ => 0)
  case atStart => exact ⟨rfl, rfl⟩
  case round =>
    obtain ⟨rfl, rfl⟩ := hrel
    go_wp2_with fail
    go_ret
    exact ⟨rfl, rfl⟩
theorem markVI_any (a : Option Addr) (n cap m base : Nat) (f : Nat → Int) (w : World) (h : VI w base a n f) (hn : n ≤ 1048576) (hm : m ≤ 100000000) :
    Calls Try.prog 37 #[.slice a n cap, .int .i64 m] w fun e w' => e = .returned (.int .i64 ((m + n : Nat) : Int)) ∧ VI w' base a n (fun i => ((m + i : Nat) : Int)) ∧ Touch (blkI a n) w w' := by
  by_cases h0 : n = 0
  · subst h0
    refine (markEmpty_any a cap m w).mono ?_
    rintro e w' ⟨rfl, rfl⟩
    exact ⟨by simp, .inl rfl, Touch.refl _ _⟩
  rcases h with h | ⟨g, rfl, hg, hr⟩
  · exact absurd h h0
  · refine (markInts_any g n cap m _ w hr hn hm).mono ?_
    rintro e w' ⟨rfl, h1, h2⟩
    refine ⟨rfl, .inr ⟨g, rfl, hg, h1⟩, ?_⟩
    unfold blkI
    rw [if_neg h0]
    exact h2
theorem heldVI_any (a : Option Addr) (n cap m base : Nat) (w : World) (h : VI w base a n (fun i => ((m + i : Nat) : Int))) (hn : n ≤ 1048576) (hm : m ≤ 100000000) :
    Calls Try.prog 41 #[.slice a n cap, .int .i64 m] w fun e w' => e = .returned (.int .i64 ((m + n : Nat) : Int)) ∧ w = w' := by
  by_cases h0 : n = 0
  · subst h0
    refine (heldEmpty_any a cap m w).mono ?_
    rintro e w' ⟨rfl, rfl⟩
    exact ⟨by simp, rfl⟩
  rcases h with h | ⟨g, rfl, hg, hr⟩
  · exact absurd h h0
  · exact heldInts_any g n cap m w hr hn hm

/-- how many lie ahead of row i -/
def sumL (L : Nat → Nat) : Nat → Nat
  | 0 => 0
  | k + 1 => sumL L k + L k
theorem sumL_le (L : Nat → Nat) {i k : Nat} (h : i ≤ k) : sumL L i ≤ sumL L k := by
  induction k with
  | zero => obtain rfl : i = 0 := by omega
            exact Nat.le_refl _
  | succ k ih =>
    by_cases e : i = k + 1
    · rw [e]; exact Nat.le_refl _
    · have := ih (by omega)
      show sumL L i ≤ sumL L k + L k
      omega
theorem markIntss_any (a : Option Addr) (n cap m base : Nat) (A : Nat → Option Addr) (L C : Nat → Nat) (z : Nat → Nat → Int) (T : List Nat) (w : World) (hn : n ≤ 1048576) (hs : sumL L n ≤ 10000000) (hm : m ≤ 10000000) (hl : ∀ i, i < n → L i ≤ 1048576)
    (ha : ∀ w', Touch T w w' → RdRow w' a n fun i => .slice (A i) (L i) (C i)) (hz : ∀ i, i < n → VI w base (A i) (L i) (z i)) (hp : ∀ i j, i < n → j < n → i ≠ j → apartI (A i) (L i) (A j) (L j)) (hT : ∀ i, i < n → ∀ x ∈ blkI (A i) (L i), x ∈ T) :
    Calls Try.prog 40 #[.slice a n cap, .int .i64 m] w fun e w' => e = .returned (.int .i64 ((m + sumL L n : Nat) : Int)) ∧ (∀ i, i < n → VI w' base (A i) (L i) (fun j => ((m + sumL L i + j : Nat) : Int))) ∧ Touch T w w' := by
  have HA : Hid (∀ w', Touch T w w' → RdRow w' a n fun i => .slice (A i) (L i) (C i)) := ha
  have HZ : Hid (∀ i, i < n → VI w base (A i) (L i) (z i)) := hz
  have HP : Hid (∀ i j, i < n → j < n → i ≠ j → apartI (A i) (L i) (A j) (L j)) := hp
  have HT : Hid (∀ i, i < n → ∀ x ∈ blkI (A i) (L i), x ∈ T) := hT
  have HL : Hid (∀ i, i < n → L i ≤ 1048576) := hl
  clear ha hz hp hT hl
  go_enter Try.func40, Try.ntmps40
  go_wp2_with fail
  go_loopw [1, 5] (fun x i wr => ∃ (k q : Nat), k ≤ n ∧ i = .int .i64 k ∧ x = .int .i64 q ∧ q = m + sumL L k ∧ (∀ i, i < k → VI wr base (A i) (L i) (fun j => ((m + sumL L i + j : Nat) : Int))) ∧ (∀ i, k ≤ i → i < n → VI wr base (A i) (L i) (z i)) ∧ Touch T w wr) (fun _ i _ => n - (intOf i).toNat)
  case atStart => exact ⟨0, m, Nat.zero_le _, rfl, rfl, rfl, fun i hi => by omega, fun i _ hi => HZ.out i hi, Touch.refl _ _⟩
  case round =>
    obtain ⟨k, q, hk, rfl, rfl, hq, h1, h2, hTo⟩ := hrel
    have HQ : Hid (q = m + sumL L k) := hq
    have H1 : Hid (∀ i, i < k → VI wr base (A i) (L i) (fun j => ((m + sumL L i + j : Nat) : Int))) := h1
    have H2 : Hid (∀ i, k ≤ i → i < n → VI wr base (A i) (L i) (z i)) := h2
    have hle := sumL_le L hk
    clear h1 h2
    by_cases hlt : k < n
    · have hlt' : (k : Int) < n := by omega
      obtain ⟨g, o, rfl, hc⟩ := HA.out wr hTo k hlt
      dsimp only at hc
      clear hq
      go_wp2_with fail
      refine (markVI_any (A k) (L k) (C k) q base (z k) _ (H2.out k (Nat.le_refl _) hlt) (HL.out k hlt) (by have := HQ.out; omega)).mono ?_
      rintro e w1 ⟨rfl, hv, ht⟩
      have HV : Hid (VI w1 base (A k) (L k) (fun j => ((m + sumL L k + j : Nat) : Int))) := by rw [Hid, ← HQ.out]; exact hv
      have HTo : Hid (Touch T w w1) := hTo.trans (ht.mono (HT.out k hlt))
      have HTk : Hid (Touch (blkI (A k) (L k)) wr w1) := ht
      clear hv ht hTo hc
      go_wp2_with fail
      go_roundw
      case rel => exact ⟨k + 1, q + L k, by omega, by go_num, rfl, by show _ = m + (sumL L k + L k); have := HQ.out; omega, fun i hi => by
        by_cases e : i = k
        · subst e; exact HV.out
        · exact (H1.out i (by omega)).touchS HTk.out (HP.out i k (by omega) hlt e), fun i hi hi2 => (H2.out i (by omega) hi2).touchS HTk.out (HP.out i k hi2 hlt (by omega)), HTo.out⟩
      case measure => simp [intOf]; omega
    · obtain rfl : k = n := by omega
      go_wp2_with fail
      go_ret
      exact ⟨ret_int (by rw [HQ.out]), H1.out, hTo⟩
theorem heldIntss_any (a : Option Addr) (n cap m base : Nat) (A : Nat → Option Addr) (L C : Nat → Nat) (w : World) (hn : n ≤ 1048576) (hs : sumL L n ≤ 10000000) (hm : m ≤ 10000000) (hl : ∀ i, i < n → L i ≤ 1048576)
    (ha : RdRow w a n fun i => .slice (A i) (L i) (C i)) (hz : ∀ i, i < n → VI w base (A i) (L i) (fun j => ((m + sumL L i + j : Nat) : Int))) :
    Calls Try.prog 43 #[.slice a n cap, .int .i64 m] w fun e w' => e = .returned (.int .i64 ((m + sumL L n : Nat) : Int)) ∧ w = w' := by
  have HA : Hid (RdRow w a n fun i => .slice (A i) (L i) (C i)) := ha
  have HZ : Hid (∀ i, i < n → VI w base (A i) (L i) (fun j => ((m + sumL L i + j : Nat) : Int))) := hz
  have HL : Hid (∀ i, i < n → L i ≤ 1048576) := hl
  clear ha hz hl
  go_enter Try.func43, Try.ntmps43
  go_wp2_with fail
  go_loop [1, 5] (fun x i => ∃ (k q : Nat), k ≤ n ∧ i = .int .i64 k ∧ x = .int .i64 q ∧ q = m + sumL L k) (fun _ i => n - (intOf i).toNat)
  case atStart => exact ⟨0, m, Nat.zero_le _, rfl, rfl, rfl⟩
  case round =>
    obtain ⟨k, q, hk, rfl, rfl, hq⟩ := hrel
    have HQ : Hid (q = m + sumL L k) := hq
    have hle := sumL_le L hk
    by_cases hlt : k < n
    · have hlt' : (k : Int) < n := by omega
      obtain ⟨g, o, rfl, hc⟩ := HA.out k hlt
      dsimp only at hc
      clear hq
      go_wp2_with fail
      refine (heldVI_any (A k) (L k) (C k) q base _ (by rw [HQ.out]; exact HZ.out k hlt) (HL.out k hlt) (by have := HQ.out; omega)).mono ?_
      rintro e w1 ⟨rfl, rfl⟩
      have hq0 : ¬ ((q + L k : Nat) : Int) < 0 := by omega
      go_wp2_with fail
      go_round
      case rel => exact ⟨k + 1, q + L k, by omega, by go_num, rfl, by show _ = m + (sumL L k + L k); have := HQ.out; omega⟩
      case measure => simp [intOf]; omega
    · obtain rfl : k = n := by omega
      go_wp2_with fail
      go_ret
      exact ⟨ret_int (by first | rfl | rw [HQ.out] | simp), rfl⟩
end Go.Proofs.Ytclibohnmjkliaa
