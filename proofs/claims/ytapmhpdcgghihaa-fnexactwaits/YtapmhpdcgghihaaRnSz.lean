/- Rounds measured, the sum of their sizes told; a round that laws have copied owns its rows. -/
import Derived.Test.YtapmhpdcgghihaaRnMkR
namespace Go.Proofs.Ytapmhpdcgghihaa
open Go.RowKit
set_option linter.unusedVariables false
set_option linter.unusedSimpArgs false

theorem szIntsS_any (a : Option Addr) (n cap : Nat) (left : Int) (w : World) (hn : n ≤ maxLen) (h0 : 0 ≤ left) (h1 : left ≤ 1048576) :
    Calls Try.prog 27 #[.slice a n cap, .int .i64 left] w fun e w' => (∃ r : Int, e = .returned (.int .i64 r) ∧ (r = -1 ∨ 0 ≤ r ∧ r ≤ left ∧ n ≤ 1048576 ∧ r + n ≤ left)) ∧ w = w' := by
  have hm : (n : Int) ≤ 9223372036854775807 := by unfold maxLen at hn; omega
  by_cases h : left - n < 0
  · go_enter Try.func27, Try.ntmps27
    go_wp2_with fail
    go_ret
    exact ⟨⟨_, rfl, .inl rfl⟩, rfl⟩
  · go_enter Try.func27, Try.ntmps27
    go_wp2_with fail
    go_ret
    exact ⟨⟨_, rfl, .inr (by omega)⟩, rfl⟩

theorem szIntssS_any (a : Option Addr) (n cap : Nat) (A : Nat → Option Addr) (L C : Nat → Nat) (left : Int) (w : World) (hn : n ≤ maxLen) (h0 : 0 ≤ left) (h1 : left ≤ 1048576) (h : RdRow w a n fun i => .slice (A i) (L i) (C i)) (hl : ∀ i, i < n → L i ≤ maxLen) :
    Calls Try.prog 28 #[.slice a n cap, .int .i64 left] w fun e w' => (∃ r : Int, e = .returned (.int .i64 r) ∧ (r = -1 ∨ 0 ≤ r ∧ r ≤ left ∧ n ≤ 1048576 ∧ (∀ i, i < n → L i ≤ 1048576) ∧ r + (sumL L n : Nat) ≤ left)) ∧ w = w' := by
  have hm : (n : Int) ≤ 9223372036854775807 := by unfold maxLen at hn; omega
  have HR : Hid (RdRow w a n fun i => .slice (A i) (L i) (C i)) := h
  have HL : Hid (∀ i, i < n → L i ≤ maxLen) := hl
  clear h hl
  by_cases h2 : left - n < 0
  · go_enter Try.func28, Try.ntmps28
    go_wp2_with fail
    go_ret
    exact ⟨⟨_, rfl, .inl rfl⟩, rfl⟩
  · go_enter Try.func28, Try.ntmps28
    go_wp2_with fail
    go_loop [1, 5] (fun x i => ∃ (k : Nat) (r : Int), k ≤ n ∧ i = .int .i64 k ∧ x = .int .i64 r ∧ 0 ≤ r ∧ r ≤ left ∧ (∀ j, j < k → L j ≤ 1048576) ∧ Hid (r + (sumL L k : Nat) ≤ left)) (fun _ i => n - (intOf i).toNat)
    case atStart => exact ⟨0, left - n, Nat.zero_le _, rfl, rfl, by omega, by omega, fun j hj => by omega, by show left - n + ((0 : Nat) : Int) ≤ left; omega⟩
    case round =>
      obtain ⟨k, r, hk, rfl, rfl, r0, r1, hall, hsum⟩ := hrel
      have HA : Hid (∀ j, j < k → L j ≤ 1048576) := hall
      clear hall
      by_cases hlt : k < n
      · have hlt' : (k : Int) < n := by omega
        obtain ⟨g, o, rfl, hc⟩ := HR.out k hlt
        dsimp only at hc
        go_wp2_with fail
        refine (szIntsS_any (A k) (L k) (C k) r _ (HL.out k hlt) r0 (by omega)).mono ?_
        rintro e w1 ⟨⟨r', rfl, hr⟩, rfl⟩
        rcases hr with rfl | ⟨r0', r1', hn', hr9⟩
        · go_wp2_with fail
          go_ret
          exact ⟨⟨_, rfl, .inl rfl⟩, rfl⟩
        · have HN : Hid (L k ≤ 1048576) := hn'
          have HS9 : Hid (r' + (sumL L (k + 1) : Nat) ≤ left) := by
            show r' + ((sumL L k + L k : Nat) : Int) ≤ left
            have := hsum.out
            omega
          clear hr9 hsum
          have hr0 : ¬ r' < 0 := by omega
          clear hn'
          go_wp2_with fail
          go_round
          case rel => exact ⟨k + 1, r', by omega, by go_num, rfl, r0', by omega, fun j hj => by
            by_cases e : j = k
            · subst e; exact HN.out
            · exact HA.out j (by omega), HS9.out⟩
          case measure => simp [intOf]; omega
      · obtain rfl : k = n := by omega
        go_wp2_with fail
        go_ret
        exact ⟨⟨_, rfl, .inr ⟨r0, r1, by omega, HA.out, hsum.out⟩⟩, rfl⟩

theorem szRoundS_any (R : Rnd) (w : World) (hf : R.Fit) (h : RdRnd w R) :
    Calls Try.prog 8 #[.agg R.cells, .int .i64 1048576] w fun e w' => (∃ r : Int, e = .returned (.int .i64 r) ∧ (r = -1 ∨ 0 ≤ r ∧ R.Small ∧ sumL R.L R.nS ≤ 1048576)) ∧ Below w.heap.size w w' := by
  have HA : Hid (∀ o, Below w.heap.size w (w.alloc o)) := fun o => (Below.refl _ _).alloc (Nat.le_refl _) _
  have HR : Hid (RdRnd w R) := h
  have HF : Hid R.Fit := hf
  clear h hf
  unfold Rnd.cells
  go_enter Try.func8, Try.ntmps8
  go_wp2_with fail
  refine (szInts_any R.aQ R.nQ R.cQ 1048576 _ HF.out.q (by omega) (by omega)).mono ?_
  rintro e w1 ⟨⟨r, rfl, hr⟩, rfl⟩
  rcases hr with rfl | ⟨r0, r1, hn1⟩
  · go_wp2_with fail
    go_ret
    exact ⟨⟨_, rfl, .inl rfl⟩, HA.out _⟩
  have hr0 : ¬ r < 0 := by omega
  go_wp2_with fail
  refine (szInts_any R.aD R.nD R.cD r _ HF.out.d r0 r1).mono ?_
  rintro e w2 ⟨⟨r2, rfl, hr2⟩, rfl⟩
  rcases hr2 with rfl | ⟨r20, r21, hn2⟩
  · go_wp2_with fail
    go_ret
    exact ⟨⟨_, rfl, .inl rfl⟩, HA.out _⟩
  have hr20 : ¬ r2 < 0 := by omega
  go_wp2_with fail
  refine (szIntssS_any R.aS R.nS R.cS R.A R.L R.C r2 _ HF.out.s r20 (by omega) (HR.out.s.up (HA.out _)) HF.out.l).mono ?_
  rintro e w3 ⟨⟨r3, rfl, hr3⟩, rfl⟩
  rcases hr3 with rfl | ⟨r30, r31, hn3, hl3, hs3⟩
  · go_wp2_with fail
    go_ret
    exact ⟨⟨_, rfl, .inl rfl⟩, HA.out _⟩
  have hr30 : ¬ r3 < 0 := by omega
  have HS : Hid R.Small := ⟨hn1, hn2, hn3, hl3⟩
  have HSu : Hid (sumL R.L R.nS ≤ 1048576) := by show sumL R.L R.nS ≤ 1048576; omega
  clear hl3 hs3
  go_wp2_with fail
  go_ret
  exact ⟨⟨_, rfl, .inr ⟨r30, HS.out, HSu.out⟩⟩, HA.out _⟩

theorem vi_row {w : World} {base g n : Nat} {f : Nat → Int} (hb : base ≤ g) (h : RowTo g 2 n (fun i => .int .i64 (f i)) n w) : VI w base (some ⟨g, 0, none⟩) n f := .inr ⟨g, rfl, hb, h⟩
theorem apart_ne {g g' n n' : Nat} (h : g ≠ g') : apartI (some ⟨g, 0, none⟩) n (some ⟨g', 0, none⟩) n' := by
  intro x hx hy
  unfold blkI at hx hy
  split at hx
  · simp at hx
  · split at hy
    · simp at hy
    · simp at hx hy
      omega
theorem Copied.own {w : World} {R : Rnd} {gQ gD gS : Nat} {G : Nat → Nat} {base : Nat} (h : Copied w R gQ gD gS G) (hb : base ≤ gQ) : OwnRn w base (R.copy gQ gD gS G) := by
  have h1 := h.lt
  have hlo : ∀ i, i < R.nS → gS < G i := h.s.low
  refine ⟨vi_row hb h.q, vi_row (by omega) h.d, .inr ⟨gS, rfl, by omega, h.s.top⟩, fun i hi => vi_row (by have := hlo i hi; omega) (h.s.row i hi), apart_ne (by omega), fun i hi => apart_ne (by have := hlo i hi; omega), fun i hi => apart_ne (by have := hlo i hi; omega), fun i j hi hj hne => apart_ne ?_⟩
  rcases Nat.lt_or_gt_of_ne hne with h2 | h2
  · have := h.s.inc i j h2 hj
    omega
  · have := h.s.inc j i h2 hi
    omega
end Go.Proofs.Ytapmhpdcgghihaa
