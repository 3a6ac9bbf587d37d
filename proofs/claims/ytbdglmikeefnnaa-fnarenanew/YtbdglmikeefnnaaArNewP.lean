/- The law on new arenas: it returns true, and nothing that was there has turned. -/
import Derived.Test.YtbdglmikeefnnaaArPath
import Derived.Test.YtbdglmikeefnnaaArSame
import Derived.Test.YtbdglmikeefnnaaArNew
import Derived.Test.YtbdglmikeefnnaaRd2
namespace Go.Proofs.Ytbdglmikeefnnaa
open Go.RowKit
set_option linter.unusedVariables false
set_option linter.unusedSimpArgs false

def upL : Nat → Nat → List Int
  | _, 0 => []
  | i, k + 1 => (i : Int) :: upL (i + 1) k
theorem upL_len : ∀ (k i : Nat), (upL i k).length = k
  | 0, _ => rfl
  | k + 1, i => by simp [upL, upL_len k]
theorem upL_mem (j : Nat) : ∀ (k i : Nat), i ≤ j → j < i + k → (j : Int) ∈ upL i k
  | 0, i, h1, h2 => by omega
  | k + 1, i, h1, h2 => by
    by_cases e : j = i
    · subst e; simp [upL]
    · exact List.mem_cons_of_mem _ (upL_mem j k (i + 1) (by omega) (by omega))
theorem new_path {n : Nat} : ∀ (k i : Nat), i + k = n → 1 ≤ k → Path (newNext n) (i : Int) (upL i k)
  | k + 1, i, h, _ => by
    refine ⟨rfl, by omega, ?_⟩
    rw [Int.toNat_natCast]
    unfold newNext
    by_cases e : i + 1 = n
    · obtain rfl : k = 0 := by omega
      rw [if_pos e]
      exact rfl
    · rw [if_neg e]
      exact new_path k (i + 1) (by omega) (by omega)
theorem new_right {n : Nat} (h1 : 1 ≤ n) (h2 : n ≤ 60) : Right n (newNext n) (fun _ => ⟨#[]⟩) 0 (upL 0 n) := by
  refine ⟨h1, h2, ⟨fun i hi => ?_, by omega, by omega, fun i hi e => ?_, fun i j hi hj e hne => ?_⟩, fun i hi => ⟨_, new_path (n - i) i (by omega) (by omega)⟩, new_path n 0 (by omega) h1, fun i hi => ⟨⟨fun _ => rfl, fun _ => upL_mem i n 0 (by omega) (by omega)⟩, Nat.zero_le _⟩⟩
  · unfold newNext
    split <;> omega
  · unfold newNext at e
    split at e <;> omega
  · unfold newNext at e hne
    split at e <;> split at e <;> simp_all
    omega

theorem Code.up {cv : Value} {len : Nat} {w w' : World} (h : Code w.heap.size cv len w) (hb : Below w.heap.size w w') : Code w'.heap.size cv len w' := by
  have hz := hb.size
  rcases h with h | ⟨b, off, cap, hv, hbg, hl, hc⟩
  · exact .inl h
  · refine .inr ⟨b, off, cap, hv, by omega, hl, fun i hi => ?_⟩
    obtain ⟨z, hz, he⟩ := hc i hi
    exact ⟨z, hz, (hb.cell (p := ⟨b, off + i, none⟩) hbg).trans he⟩
theorem big_any (a : Option Addr) (len cap : Nat) (w : World) (h : len ≤ maxLen) :
    Calls Try.prog 7 #[.slice a len cap] w fun e w' => e = .returned (.bool (decide (1048576 < (len : Int)))) ∧ w = w' := by
  unfold maxLen at h
  go_enter Try.func7, Try.ntmps7
  go_wp2_with fail
  go_ret
  exact ⟨rfl, rfl⟩
theorem drawNew_any (cv : Value) (len : Nat) (w : World) (h : Code w.heap.size cv len w) (hs : ∃ a n c, cv = .slice a n c) :
    Calls Try.prog 24 #[cv] w fun e w' => ∃ x : Int, e = .returned (.int .i64 x) ∧ Below w.heap.size w w' := by
  obtain ⟨a, n, c, rfl⟩ := hs
  go_enter Try.func24, Try.ntmps24
  go_wp2_with fail
  refine (open_any _ _ _ h ⟨_, _, _, rfl⟩).mono ?_
  rintro e w1 ⟨rfl, hR, hb1⟩
  go_wp2_with fail
  refine (off_any _ _ _ _ _ hR (by omega) (by omega) (by omega)).mono ?_
  rintro e w2 ⟨x, rfl, hR2, hK⟩
  have B2 : Below w.heap.size w w2 := hb1.trans (hK.below hb1.size (Nat.le_refl _))
  clear hR hR2 hK hb1 h
  go_wp2_with fail
  go_ret
  exact ⟨x, rfl, B2⟩

set_option maxHeartbeats 1000000 in
theorem newLaw_any (a : Option Addr) (len cap : Nat) (w : World) (hl : len ≤ maxLen) (hC : len ≤ 1048576 → Code w.heap.size (.slice a len cap) len w) :
    Calls Try.prog 6 #[.slice a len cap] w fun e w' => e = .returned (.bool true) ∧ Below w.heap.size w w' := by
  by_cases hbig : len ≤ 1048576
  rotate_left
  · go_enter Try.func6, Try.ntmps6
    go_wp2_with fail
    refine (big_any _ _ _ _ hl).mono ?_
    rintro e w1 ⟨rfl, rfl⟩
    rw [decide_eq_true (by omega)]
    go_wp2_with fail
    go_ret
    exact ⟨rfl, Below.refl _ _⟩
  go_enter Try.func6, Try.ntmps6
  go_wp2_with fail
  refine (big_any _ _ _ _ hl).mono ?_
  rintro e w1 ⟨rfl, rfl⟩
  rw [decide_eq_false (by omega)]
  go_wp2_with fail
  refine (drawNew_any _ _ _ (hC hbig) ⟨_, _, _, rfl⟩).mono ?_
  rintro e w2 ⟨x, rfl, B⟩
  clear hC
  by_cases hx : 1 ≤ x ∧ x ≤ 60
  · obtain ⟨hx1, hx2⟩ := hx
    obtain ⟨n, rfl⟩ := Int.eq_ofNat_of_zero_le (show 0 ≤ x by omega)
    have n1 : 1 ≤ n := by omega
    have n2 : n ≤ 60 := by omega
    go_wp2_with fail
    refine (iNew_yes n _ n1 n2).mono ?_
    rintro e w3 ⟨gN, gD, rfl, hN, hD, rN, rD, hb⟩
    replace B := B.trans (hb.mono B.size)
    clear hb
    have vA1 := VRow.of (cap := n) rN hN
    have vA2 := VRow.of (cap := n) rD hD
    clear rN rD
    have hX : Below w3.heap.size w3 (w3.alloc (.cells #[.slice (some ⟨gN, 0, none⟩) n n, .slice (some ⟨gD, 0, none⟩) n n, .int .i64 0] 27)) := (Below.refl _ _).alloc (Nat.le_refl _) _
    have kA := blk_new w3 (.cells #[.slice (some ⟨gN, 0, none⟩) n n, .slice (some ⟨gD, 0, none⟩) n n, .int .i64 0] 27)
    replace vA1 := vA1.up hX
    replace vA2 := vA2.up hX
    replace B := B.trans (hX.mono B.size)
    have cA := blk_cell kA
    clear hX
    go_wp2_with fail
    generalize w3.alloc (.cells #[.slice (some ⟨gN, 0, none⟩) n n, .slice (some ⟨gD, 0, none⟩) n n, .int .i64 0] 27) = wA at *
    refine (sNew_yes n _ n1 n2).mono ?_
    rintro e w4 ⟨sN, sD, cN, rfl, hsN, hsD, rN, rD, hb⟩
    replace vA1 := vA1.up hb
    replace vA2 := vA2.up hb
    replace kA := (hb.block _ (blk_lt kA)).trans kA
    replace cA := blk_cell kA
    replace B := B.trans (hb.mono B.size)
    clear hb
    have vS1 := VRow.of (cap := cN) rN hsN
    have vS2 := VRow.of (cap := n) rD hsD
    clear rN rD
    have hX : Below w4.heap.size w4 (w4.alloc (.cells #[.slice (some ⟨sN, 0, none⟩) n cN, .slice (some ⟨sD, 0, none⟩) n n, .int .i64 0] 27)) := (Below.refl _ _).alloc (Nat.le_refl _) _
    have kS := blk_new w4 (.cells #[.slice (some ⟨sN, 0, none⟩) n cN, .slice (some ⟨sD, 0, none⟩) n n, .int .i64 0] 27)
    replace vA1 := vA1.up hX
    replace vA2 := vA2.up hX
    replace vS1 := vS1.up hX
    replace vS2 := vS2.up hX
    replace kA := (hX.block _ (blk_lt kA)).trans kA
    replace cA := blk_cell kA
    replace B := B.trans (hX.mono B.size)
    have cS := blk_cell kS
    clear hX
    go_wp2_with fail
    generalize w4.alloc (.cells #[.slice (some ⟨sN, 0, none⟩) n cN, .slice (some ⟨sD, 0, none⟩) n n, .int .i64 0] 27) = wS at *
    obtain ⟨a1, x1, e1, r1⟩ := vA1.read
    obtain ⟨a2, x2, e2, r2⟩ := vA2.read
    obtain ⟨a3, x3, e3, r3⟩ := vS1.read
    obtain ⟨a4, x4, e4, r4⟩ := vS2.read
    cases e1; cases e2; cases e3; cases e4
    refine (sameArena_any _ _ _ _ n n _ _ _ _ 0 (newNext n) (fun _ => ⟨#[]⟩) _ (by omega) (by omega) r1 r3 r2 r4).mono ?_
    rintro e w5 ⟨rfl, hb⟩
    clear r1 r2 r3 r4
    replace vA1 := vA1.up hb
    replace vA2 := vA2.up hb
    replace vS1 := vS1.up hb
    replace vS2 := vS2.up hb
    replace kA := (hb.block _ (blk_lt kA)).trans kA
    replace cA := blk_cell kA
    replace kS := (hb.block _ (blk_lt kS)).trans kS
    replace cS := blk_cell kS
    replace B := B.trans (hb.mono B.size)
    clear hb
    have HR : Hid (Right n (newNext n) (fun _ => ⟨#[]⟩) 0 (upL 0 n)) := new_right n1 n2
    have HO : Hid (okP n n (newNext n) (fun _ => ⟨#[]⟩) 0) := HR.out.ok
    have HD : Hid (∀ i, i < n → ((fun _ => ⟨#[]⟩ : Nat → ByteArray) i).size ≤ maxLen) := fun i hi => Nat.zero_le _
    obtain ⟨a1, x1, e1, r1⟩ := vA1.read
    obtain ⟨a2, x2, e2, r2⟩ := vA2.read
    cases e1; cases e2
    go_wp2_with fail
    refine (iOk_any _ _ n n _ _ 0 (newNext n) (fun _ => ⟨#[]⟩) _ (by omega) (by omega) HD.out r1 r2 true (by simp [HO.out])).mono ?_
    rintro e w6 ⟨rfl, hb⟩
    clear r1 r2
    replace vA1 := vA1.up hb
    replace vA2 := vA2.up hb
    replace vS1 := vS1.up hb
    replace vS2 := vS2.up hb
    replace kA := (hb.block _ (blk_lt kA)).trans kA
    replace cA := blk_cell kA
    replace kS := (hb.block _ (blk_lt kS)).trans kS
    replace cS := blk_cell kS
    replace B := B.trans (hb.mono B.size)
    clear hb
    obtain ⟨a1, x1, e1, r1⟩ := vA1.read
    obtain ⟨a2, x2, e2, r2⟩ := vA2.read
    cases e1; cases e2
    go_wp2_with fail
    refine (iFree_any _ _ n n _ _ 0 (newNext n) (fun _ => ⟨#[]⟩) _ (by omega) (by omega) HD.out r1 r2 true (by simp [HO.out])).mono ?_
    rintro e w7 ⟨⟨v, rfl, hV⟩, hb⟩
    have hlen : (freeL true n (newNext n) 0).length = n := by
      unfold freeL
      rw [if_pos rfl, HR.out.walk HR.out.inj.f1 HR.out.free, upL_len]
    rw [hlen] at hV
    obtain ⟨q, qc, rfl, _⟩ := hV
    replace B := B.trans (hb.mono B.size)
    clear hb r1 r2
    go_wp2_with fail
    go_ret
    exact ⟨rfl, B⟩
  · have hx' : x < 1 ∨ 60 < x := by omega
    go_wp2_with fail
    refine (iNew_no x _ hx').mono ?_
    rintro e w3 ⟨rfl, hb⟩
    replace B := B.trans (hb.mono B.size)
    clear hb
    have hX : Below w3.heap.size w3 (w3.alloc (.cells #[.slice none 0 0, .slice none 0 0, .int .i64 0] 27)) := (Below.refl _ _).alloc (Nat.le_refl _) _
    have kA := blk_new w3 (.cells #[.slice none 0 0, .slice none 0 0, .int .i64 0] 27)
    replace B := B.trans (hX.mono B.size)
    have cA := blk_cell kA
    clear hX
    go_wp2_with fail
    generalize w3.alloc (.cells #[.slice none 0 0, .slice none 0 0, .int .i64 0] 27) = wA at *
    refine (sNew_no x _ hx').mono ?_
    rintro e w4 ⟨rfl, hb⟩
    replace kA := (hb.block _ (blk_lt kA)).trans kA
    replace cA := blk_cell kA
    replace B := B.trans (hb.mono B.size)
    clear hb
    have hX : Below w4.heap.size w4 (w4.alloc (.cells #[.slice none 0 0, .slice none 0 0, .int .i64 0] 27)) := (Below.refl _ _).alloc (Nat.le_refl _) _
    have kS := blk_new w4 (.cells #[.slice none 0 0, .slice none 0 0, .int .i64 0] 27)
    replace kA := (hX.block _ (blk_lt kA)).trans kA
    replace cA := blk_cell kA
    replace B := B.trans (hX.mono B.size)
    have cS := blk_cell kS
    clear hX
    go_wp2_with fail
    generalize w4.alloc (.cells #[.slice none 0 0, .slice none 0 0, .int .i64 0] 27) = wS at *
    refine (sameArena_any none none none none 0 0 0 0 0 0 0 (fun _ => 0) (fun _ => ⟨#[]⟩) _ (by omega) (by omega) (RdRow.nil _ _ _) (RdRow.nil _ _ _) (RdRow.nil _ _ _) (RdRow.nil _ _ _)).mono ?_
    rintro e w5 ⟨rfl, hb⟩
    replace kA := (hb.block _ (blk_lt kA)).trans kA
    replace cA := blk_cell kA
    replace kS := (hb.block _ (blk_lt kS)).trans kS
    replace cS := blk_cell kS
    replace B := B.trans (hb.mono B.size)
    clear hb
    go_wp2_with fail
    go_ret
    exact ⟨rfl, B⟩
end Go.Proofs.Ytbdglmikeefnnaa
