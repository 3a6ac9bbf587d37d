/- The exact law on new arenas: it returns true, and nothing that was there has turned. -/
import Derived.Test.YtapabolgfcocfaaArNew
namespace Go.Proofs.Ytapabolgfcocfaa
open Go.RowKit
set_option linter.unusedVariables false

theorem markInts_nil (a : Option Addr) (cap m : Nat) (w : World) (hm : m ≤ 100000000) :
    Calls Try.prog 41 #[.slice a 0 cap, .int .i64 m] w fun e w' => e = .returned (.int .i64 m) ∧ w = w' := by
  go_enter Try.func41, Try.ntmps41
  go_wp2_with fail
  go_loop [1, 5] (fun x i => x = .int .i64 m ∧ i = .int .i64 0) (fun _ i => 0)
  case atStart => exact ⟨rfl, rfl⟩
  case round =>
    obtain ⟨rfl, rfl⟩ := hrel
    go_wp2_with fail
    go_ret
    exact ⟨rfl, rfl⟩
theorem markStrs_nil (a : Option Addr) (cap m : Nat) (w : World) (hm : m ≤ 100000000) :
    Calls Try.prog 42 #[.slice a 0 cap, .int .i64 m] w fun e w' => e = .returned (.int .i64 m) ∧ w = w' := by
  go_enter Try.func42, Try.ntmps42
  go_wp2_with fail
  go_loop [1, 5] (fun x i => x = .int .i64 m ∧ i = .int .i64 0) (fun _ i => 0)
  case atStart => exact ⟨rfl, rfl⟩
  case round =>
    obtain ⟨rfl, rfl⟩ := hrel
    go_wp2_with fail
    go_ret
    exact ⟨rfl, rfl⟩
theorem heldInts_nil (a : Option Addr) (cap m : Nat) (w : World) (hm : m ≤ 100000000) :
    Calls Try.prog 43 #[.slice a 0 cap, .int .i64 m] w fun e w' => e = .returned (.int .i64 m) ∧ w = w' := by
  go_enter Try.func43, Try.ntmps43
  go_wp2_with fail
  go_loop [1, 5] (fun x i => x = .int .i64 m ∧ i = .int .i64 0) (fun _ i => 0)
  case atStart => exact ⟨rfl, rfl⟩
  case round =>
    obtain ⟨rfl, rfl⟩ := hrel
    go_wp2_with fail
    go_ret
    exact ⟨rfl, rfl⟩
theorem heldStrs_nil (a : Option Addr) (cap m : Nat) (w : World) (hm : m ≤ 100000000) :
    Calls Try.prog 44 #[.slice a 0 cap, .int .i64 m] w fun e w' => e = .returned (.int .i64 m) ∧ w = w' := by
  go_enter Try.func44, Try.ntmps44
  go_wp2_with fail
  go_loop [1, 5] (fun x i => x = .int .i64 m ∧ i = .int .i64 0) (fun _ i => 0)
  case atStart => exact ⟨rfl, rfl⟩
  case round =>
    obtain ⟨rfl, rfl⟩ := hrel
    go_wp2_with fail
    go_ret
    exact ⟨rfl, rfl⟩
theorem markArena_nil (a b : Option Addr) (c d m : Nat) (fr : Int) (w : World) (hm : m ≤ 10000000) :
    Calls Try.prog 23 #[.agg #[.slice a 0 c, .slice b 0 d, .int .i64 fr], .int .i64 m] w fun e w' => e = .returned (.int .i64 m) ∧ Below w.heap.size w w' := by
  go_enter Try.func23, Try.ntmps23
  go_wp2_with fail
  refine (markInts_nil _ _ m _ (by omega)).mono ?_
  rintro e w1 ⟨rfl, rfl⟩
  go_wp2_with fail
  refine (markStrs_nil _ _ m _ (by omega)).mono ?_
  rintro e w2 ⟨rfl, rfl⟩
  go_wp2_with fail
  go_ret
  exact ⟨rfl, (Below.refl _ _).alloc (Nat.le_refl _) _⟩
theorem heldArena_nil (a b : Option Addr) (c d m : Nat) (fr : Int) (w : World) (hm : m ≤ 10000000) :
    Calls Try.prog 24 #[.agg #[.slice a 0 c, .slice b 0 d, .int .i64 fr], .int .i64 m] w fun e w' => e = .returned (.int .i64 m) ∧ Below w.heap.size w w' := by
  go_enter Try.func24, Try.ntmps24
  go_wp2_with fail
  refine (heldInts_nil _ _ m _ (by omega)).mono ?_
  rintro e w1 ⟨rfl, rfl⟩
  go_wp2_with fail
  refine (heldStrs_nil _ _ m _ (by omega)).mono ?_
  rintro e w2 ⟨rfl, rfl⟩
  go_wp2_with fail
  go_ret
  exact ⟨rfl, (Below.refl _ _).alloc (Nat.le_refl _) _⟩

theorem new_law_no (c : Int) (w : World) (h : c < 1 ∨ 60 < c) :
    Calls Try.prog 7 #[.int .i64 c] w fun e w' => e = .returned (.bool true) ∧ Below w.heap.size w w' := by
  go_enter Try.func7, Try.ntmps7
  go_wp2_with fail
  refine (sNew_no _ _ h).mono ?_
  rintro e w1 ⟨rfl, hb1⟩
  go_wp2_with fail
  refine (iNew_no _ _ h).mono ?_
  rintro e w2 ⟨rfl, hb2⟩
  have x0 := (hb2.block _ (by simp)).trans (blk_new w1 _)
  have B2 : Below w.heap.size w w2 := (hb1.alloc hb1.size _).trans (hb2.mono (by have := hb1.size; simp; omega))
  have x0a := (blk_old (.cells #[.slice none 0 0, .slice none 0 0, .int .i64 0] 38) (blk_lt x0)).trans x0
  have x1a := blk_new w2 (.cells #[.slice none 0 0, .slice none 0 0, .int .i64 0] 38)
  have B2a := B2.alloc B2.size (.cells #[.slice none 0 0, .slice none 0 0, .int .i64 0] 38)
  have c0 := blk_cell x0a
  clear hb1 hb2 x0
  go_wp2_with fail
  refine (eqArena_any _ _ _ _ 0 _ _ _ _ _ (fun _ => 0) (fun _ => ⟨#[]⟩) _ (by omega) (RdRow.nil _ _ _) (RdRow.nil _ _ _) (RdRow.nil _ _ _) (RdRow.nil _ _ _)).mono ?_
  rintro e w3 ⟨rfl, hb3⟩
  have y0 := (hb3.block _ (blk_lt x0a)).trans x0a
  have y1 := (hb3.block _ (blk_lt x1a)).trans x1a
  have B3 : Below w.heap.size w w3 := B2a.trans (hb3.mono B2a.size)
  clear hb3 x0a x1a B2a c0
  have c1 := blk_cell y1
  go_wp2_with fail
  refine (markArena_nil _ _ _ _ 1 _ _ (by omega)).mono ?_
  rintro e w4 ⟨rfl, hb4⟩
  have z0 := (hb4.block _ (blk_lt y0)).trans y0
  have z1 := (hb4.block _ (blk_lt y1)).trans y1
  have B4 : Below w.heap.size w w4 := B3.trans (hb4.mono B3.size)
  clear hb4 y0 y1 B3 c1
  have c1 := blk_cell z1
  go_wp2_with fail
  refine (heldArena_nil _ _ _ _ 1 _ _ (by omega)).mono ?_
  rintro e w5 ⟨rfl, hb5⟩
  have y0 := (hb5.block _ (blk_lt z0)).trans z0
  have y1 := (hb5.block _ (blk_lt z1)).trans z1
  have B5 : Below w.heap.size w w5 := B4.trans (hb5.mono B4.size)
  clear hb5 z0 z1 B4 c1
  go_wp2_with fail
  refine (iNew_no _ _ h).mono ?_
  rintro e w6 ⟨rfl, hb6⟩
  have z0 := (blk_old (.cells #[.slice none 0 0, .slice none 0 0, .int .i64 0] 38) (blk_lt ((hb6.block _ (blk_lt y0)).trans y0))).trans ((hb6.block _ (blk_lt y0)).trans y0)
  have z1 := (blk_old (.cells #[.slice none 0 0, .slice none 0 0, .int .i64 0] 38) (blk_lt ((hb6.block _ (blk_lt y1)).trans y1))).trans ((hb6.block _ (blk_lt y1)).trans y1)
  have B6 : Below w.heap.size w w6 := B5.trans (hb6.mono B5.size)
  have B6a := B6.alloc B6.size (.cells #[.slice none 0 0, .slice none 0 0, .int .i64 0] 38)
  clear hb6 y0 y1 B5
  have c0 := blk_cell z0
  go_wp2_with fail
  refine (eqArena_any _ _ _ _ 0 _ _ _ _ _ (fun _ => 0) (fun _ => ⟨#[]⟩) _ (by omega) (RdRow.nil _ _ _) (RdRow.nil _ _ _) (RdRow.nil _ _ _) (RdRow.nil _ _ _)).mono ?_
  rintro e w7 ⟨rfl, hb7⟩
  have y1 := (hb7.block _ (blk_lt z1)).trans z1
  have B7 : Below w.heap.size w w7 := B6a.trans (hb7.mono B6a.size)
  clear hb7 z0 z1 B6 B6a c0
  have c1 := blk_cell y1
  go_wp2_with fail
  refine (heldArena_nil _ _ _ _ 1 _ _ (by omega)).mono ?_
  rintro e w8 ⟨rfl, hb8⟩
  have B8 : Below w.heap.size w w8 := B7.trans (hb8.mono B7.size)
  go_wp2_with fail
  go_ret
  exact ⟨rfl, B8⟩

/-- what is carried through the law: the answers' rows, and the boxes in which the answers lie -/
structure Facts (w wi : World) (n sN sD sC gN gD b0 b1 : Nat) (fN fD : Nat → Value) : Prop where
  B : Below w.heap.size w wi
  s1 : RowTo sN 2 n (fun i => .int .i64 (newNext n i)) n wi
  s2 : RowTo sD 9 n (fun _ => .string ⟨#[]⟩) n wi
  g1 : RowTo gN 2 n fN n wi
  g2 : RowTo gD 9 n fD n wi
  x0 : wi.heap[b0]? = some (.cells #[.slice (some ⟨sN, 0, none⟩) n sC, .slice (some ⟨sD, 0, none⟩) n n, .int .i64 0] 38 (0, 0))
  x1 : wi.heap[b1]? = some (.cells #[.slice (some ⟨gN, 0, none⟩) n n, .slice (some ⟨gD, 0, none⟩) n n, .int .i64 0] 38 (0, 0))
theorem Facts.up {w wi wj : World} {n sN sD sC gN gD b0 b1 : Nat} {fN fD : Nat → Value} (h : Facts w wi n sN sD sC gN gD b0 b1 fN fD) (hb : Below wi.heap.size wi wj) : Facts w wj n sN sD sC gN gD b0 b1 fN fD :=
  ⟨h.B.trans (hb.mono h.B.size), h.s1.keep (hb.block _ h.s1.lt), h.s2.keep (hb.block _ h.s2.lt), h.g1.keep (hb.block _ h.g1.lt), h.g2.keep (hb.block _ h.g2.lt), (hb.block _ (blk_lt h.x0)).trans h.x0, (hb.block _ (blk_lt h.x1)).trans h.x1⟩
theorem Facts.alloc {w wi : World} {n sN sD sC gN gD b0 b1 : Nat} {fN fD : Nat → Value} (h : Facts w wi n sN sD sC gN gD b0 b1 fN fD) (o : Obj) : Facts w (wi.alloc o) n sN sD sC gN gD b0 b1 fN fD :=
  h.up ((Below.refl _ _).alloc (Nat.le_refl _) o)

set_option maxHeartbeats 1000000 in
theorem new_law_yes (n : Nat) (w : World) (h1 : 1 ≤ n) (h2 : n ≤ 60) :
    Calls Try.prog 7 #[.int .i64 n] w fun e w' => e = .returned (.bool true) ∧ Below w.heap.size w w' := by
  go_enter Try.func7, Try.ntmps7
  go_wp2_with fail
  refine (sNew_yes _ _ h1 h2).mono ?_
  rintro e w1 ⟨sN, sD, sC, rfl, lsN, lsD, s1, s2, hb1⟩
  go_wp2_with fail
  refine (iNew_yes _ _ h1 h2).mono ?_
  rintro e w2 ⟨gN, gD, rfl, lgN, lgD, r1, r2, hb2⟩
  have z1 := hb1.size
  have eN : ∀ o, (w1.alloc o).heap.size = w1.heap.size + 1 := by intro o; simp
  rw [eN] at lgN lgD
  have b1s := s1.lt
  have b2s := s2.lt
  have F2 : Facts w (w2.alloc (.cells #[.slice (some ⟨gN, 0, none⟩) n n, .slice (some ⟨gD, 0, none⟩) n n, .int .i64 0] 38)) n sN sD sC gN gD w1.heap.size w2.heap.size (fun i => .int .i64 (newNext n i)) (fun _ => .string ⟨#[]⟩) := by
    have hz2 := hb2.size
    rw [eN] at hz2
    refine ⟨((hb1.alloc z1 _).trans (hb2.mono (by rw [eN]; omega))).alloc (by omega) _, s1.keep ((blk_old _ (by omega)).trans ((hb2.block sN (by rw [eN]; omega)).trans (blk_old _ b1s))), s2.keep ((blk_old _ (by omega)).trans ((hb2.block sD (by rw [eN]; omega)).trans (blk_old _ b2s))),
      r1.keep (blk_old _ r1.lt), r2.keep (blk_old _ r2.lt), (blk_old _ (by omega)).trans ((hb2.block w1.heap.size (by rw [eN]; omega)).trans (blk_new w1 _)), blk_new w2 _⟩
  have nGD : gN ≠ gD := r1.ne2 r2 (by decide)
  have c0 := blk_cell F2.x0
  clear hb1 hb2 s1 s2 r1 r2
  go_wp2_with fail
  refine (eqArena_any _ _ _ _ n _ _ _ _ _ (newNext n) (fun _ => ⟨#[]⟩) _ (by omega) F2.g1.read F2.s1.read F2.g2.read F2.s2.read).mono ?_
  rintro e w3 ⟨rfl, hb3⟩
  have F3 := F2.up hb3
  clear hb3 F2 c0
  have c1 := blk_cell F3.x1
  go_wp2_with fail
  refine (markArena_any gN gD n n n 1 0 _ _ _ (by omega) (by omega) F3.g1 F3.g2 nGD).mono ?_
  rintro e w4 ⟨rfl, m1, m2, hT4⟩
  have n0 := F3.g1.ne F3.x0 (by decide)
  have n0' := F3.g2.ne F3.x0 (by decide)
  have n1 := F3.g1.ne F3.x1 (by decide)
  have n1' := F3.g2.ne F3.x1 (by decide)
  have F4 : Facts w w4 n sN sD sC gN gD w1.heap.size w2.heap.size (fun i => .int .i64 (1 + i : Nat)) (fun i => .string (mt (1 + n + i))) :=
    ⟨F3.B.trans (hT4.below F3.B.size (by simp; omega)), F3.s1.keep (hT4.block _ F3.s1.lt (by simp; omega)), F3.s2.keep (hT4.block _ F3.s2.lt (by simp; omega)), m1, m2,
      (hT4.block _ (blk_lt F3.x0) (by simp; omega)).trans F3.x0, (hT4.block _ (blk_lt F3.x1) (by simp; omega)).trans F3.x1⟩
  clear hT4 m1 m2 F3 c1 n0 n0' n1 n1'
  have c1 := blk_cell F4.x1
  go_wp2_with fail
  refine (heldArena_any gN gD n n n 1 0 _ (by omega) (by omega) F4.g1 F4.g2).mono ?_
  rintro e w5 ⟨rfl, hb5⟩
  have F5 := F4.up hb5
  clear hb5 F4 c1
  have hnn : (0 : Int) ≤ 1 + n + n := by omega
  go_wp2_with fail
  refine (iNew_yes _ _ h1 h2).mono ?_
  rintro e w6 ⟨hN, hD, rfl, lhN, lhD, q1, q2, hb6⟩
  have F6 := (F5.up hb6).alloc (.cells #[.slice (some ⟨hN, 0, none⟩) n n, .slice (some ⟨hD, 0, none⟩) n n, .int .i64 0] 38)
  have q1a := q1.keep (blk_old (.cells #[.slice (some ⟨hN, 0, none⟩) n n, .slice (some ⟨hD, 0, none⟩) n n, .int .i64 0] 38) q1.lt)
  have q2a := q2.keep (blk_old (.cells #[.slice (some ⟨hN, 0, none⟩) n n, .slice (some ⟨hD, 0, none⟩) n n, .int .i64 0] 38) q2.lt)
  clear hb6 F5 q1 q2
  have c0 := blk_cell F6.x0
  go_wp2_with fail
  refine (eqArena_any _ _ _ _ n _ _ _ _ _ (newNext n) (fun _ => ⟨#[]⟩) _ (by omega) q1a.read F6.s1.read q2a.read F6.s2.read).mono ?_
  rintro e w7 ⟨rfl, hb7⟩
  have F7 := F6.up hb7
  clear hb7 F6 c0 q1a q2a
  have c1 := blk_cell F7.x1
  go_wp2_with fail
  refine (heldArena_any gN gD n n n 1 0 _ (by omega) (by omega) F7.g1 F7.g2).mono ?_
  rintro e w8 ⟨rfl, hb8⟩
  have F8 := F7.up hb8
  clear hb8 F7 c1
  go_wp2_with fail
  go_ret
  exact ⟨rfl, F8.B⟩

theorem new_law (c : Int) (w : World) :
    Calls Try.prog 7 #[.int .i64 c] w fun e w' => e = .returned (.bool true) ∧ Below w.heap.size w w' := by
  by_cases h : c < 1 ∨ 60 < c
  · exact new_law_no c w h
  · obtain ⟨n, rfl⟩ := Int.eq_ofNat_of_zero_le (show 0 ≤ c by omega)
    exact new_law_yes n w (by omega) (by omega)
end Go.Proofs.Ytapabolgfcocfaa
