/- What the exact laws on arenas do first: measure an arena, copy it, hold two against each other. -/
import Derived.Test.YtjliapdfjjblnaaArOf
namespace Go.Proofs.Ytjliapdfjjblnaa
open Go.RowKit
set_option linter.unusedVariables false

theorem szInts_any (a : Option Addr) (n cap : Nat) (left : Int) (w : World) (hn : n ≤ maxLen) (h0 : 0 ≤ left) (h1 : left ≤ 1048576) :
    Calls Try.prog 26 #[.slice a n cap, .int .i64 left] w fun e w' => (∃ r : Int, e = .returned (.int .i64 r) ∧ (r = -1 ∨ 0 ≤ r ∧ r ≤ left ∧ n ≤ 1048576)) ∧ w = w' := by
  have hm : (n : Int) ≤ 9223372036854775807 := by unfold maxLen at hn; omega
  by_cases h : left - n < 0
  · go_enter Try.func26, Try.ntmps26
    go_wp2_with fail
    go_ret
    exact ⟨⟨_, rfl, .inl rfl⟩, rfl⟩
  · go_enter Try.func26, Try.ntmps26
    go_wp2_with fail
    go_ret
    exact ⟨⟨_, rfl, .inr (by omega)⟩, rfl⟩

theorem szStrs_any (a : Option Addr) (n cap : Nat) (dt : Nat → ByteArray) (left : Int) (w : World) (hn : n ≤ maxLen) (h0 : 0 ≤ left) (h1 : left ≤ 1048576) (h : RdRow w a n fun i => .string (dt i)) (hd : ∀ i, i < n → (dt i).size ≤ maxLen) :
    Calls Try.prog 27 #[.slice a n cap, .int .i64 left] w fun e w' => (∃ r : Int, e = .returned (.int .i64 r) ∧ (r = -1 ∨ 0 ≤ r ∧ r ≤ left ∧ n ≤ 1048576 ∧ ∀ i, i < n → (dt i).size ≤ 1048576)) ∧ w = w' := by
  have hm : (n : Int) ≤ 9223372036854775807 := by unfold maxLen at hn; omega
  by_cases h2 : left - n < 0
  · go_enter Try.func27, Try.ntmps27
    go_wp2_with fail
    go_ret
    exact ⟨⟨_, rfl, .inl rfl⟩, rfl⟩
  · go_enter Try.func27, Try.ntmps27
    go_wp2_with fail
    go_loop [1, 5] (fun x i => ∃ (k : Nat) (r : Int), k ≤ n ∧ i = .int .i64 k ∧ x = .int .i64 r ∧ 0 ≤ r ∧ r ≤ left ∧ ∀ j, j < k → (dt j).size ≤ 1048576) (fun _ i => n - (intOf i).toNat)
    case atStart => exact ⟨0, left - n, Nat.zero_le _, rfl, rfl, by omega, by omega, fun j hj => by omega⟩
    case round =>
      obtain ⟨k, r, hk, rfl, rfl, r0, r1, hall⟩ := hrel
      have HA : Hid (∀ j, j < k → (dt j).size ≤ 1048576) := hall
      clear hall
      by_cases hlt : k < n
      · have hlt' : (k : Int) < n := by omega
        obtain ⟨g, o, rfl, hc⟩ := h k hlt
        have hs := hd k hlt
        have hs' : ((dt k).size : Int) ≤ 9223372036854775807 := by unfold maxLen at hs; omega
        dsimp only at hc
        clear h hd
        by_cases hr : r - (dt k).size < 0
        · go_wp2_with fail
          go_ret
          exact ⟨⟨_, rfl, .inl rfl⟩, rfl⟩
        · go_wp2_with fail
          go_round
          case rel => exact ⟨k + 1, r - (dt k).size, by omega, by go_num, by go_num, by omega, by omega, fun j hj => by
            by_cases e : j = k
            · subst e; omega
            · exact HA.out j (by omega)⟩
          case measure => simp [intOf]; omega
      · obtain rfl : k = n := by omega
        clear h hd
        go_wp2_with fail
        go_ret
        exact ⟨⟨_, rfl, .inr ⟨r0, r1, by omega, HA.out⟩⟩, rfl⟩

theorem szArena_any (a b : Option Addr) (n m c d : Nat) (fr : Int) (dt : Nat → ByteArray) (w : World) (hn : n ≤ maxLen) (hm : m ≤ maxLen) (h : RdRow w b m fun i => .string (dt i)) (hd : ∀ i, i < m → (dt i).size ≤ maxLen) :
    Calls Try.prog 8 #[.agg #[.slice a n c, .slice b m d, .int .i64 fr], .int .i64 1048576] w fun e w' => (∃ r : Int, e = .returned (.int .i64 r) ∧ (r = -1 ∨ 0 ≤ r ∧ n ≤ 1048576 ∧ m ≤ 1048576 ∧ ∀ i, i < m → (dt i).size ≤ 1048576)) ∧ Below w.heap.size w w' := by
  have HA : Hid (∀ o, Below w.heap.size w (w.alloc o)) := fun o => (Below.refl _ _).alloc (Nat.le_refl _) _
  go_enter Try.func8, Try.ntmps8
  go_wp2_with fail
  refine (szInts_any a n c 1048576 _ hn (by omega) (by omega)).mono ?_
  rintro e w1 ⟨⟨r, rfl, hr⟩, rfl⟩
  rcases hr with rfl | ⟨r0, r1, hn'⟩
  · go_wp2_with fail
    go_ret
    exact ⟨⟨_, rfl, .inl rfl⟩, HA.out _⟩
  · go_wp2_with fail
    refine (szStrs_any b m d dt r _ hm r0 r1 (h.up (HA.out _)) hd).mono ?_
    rintro e w2 ⟨⟨r', rfl, hr'⟩, rfl⟩
    rcases hr' with rfl | ⟨r0', r1', hm', hd'⟩
    · go_wp2_with fail
      go_ret
      exact ⟨⟨_, rfl, .inl rfl⟩, HA.out _⟩
    · have HD : Hid (∀ i, i < m → (dt i).size ≤ 1048576) := hd'
      clear hd' hd h
      go_wp2_with fail
      go_ret
      exact ⟨⟨_, rfl, .inr ⟨r0', hn', hm', HD.out⟩⟩, HA.out _⟩

theorem toInts_any (a : Option Addr) (n cap : Nat) (f : Nat → Int) (w : World) (hn : n ≤ 1048576) (h : RdRow w a n fun i => .int .i64 (f i)) :
    Calls Try.prog 30 #[.slice a n cap] w fun e w' => e = .returned (.slice (some ⟨w.heap.size, 0, none⟩) n n) ∧ RowTo w.heap.size 2 n (fun i => .int .i64 (f i)) n w' ∧ Below w.heap.size w w' := by
  have mk := make_ints n hn
  go_enter Try.func30, Try.ntmps30
  go_wp2_with fail
  clear mk
  go_loopw [4] (fun i wr => ∃ k : Nat, k ≤ n ∧ i = .int .i64 k ∧ RowTo w.heap.size 2 n (fun i => .int .i64 (f i)) k wr ∧ Below w.heap.size w wr) (fun i _ => n - (intOf i).toNat)
  case atStart => exact ⟨0, Nat.zero_le _, rfl, (zInts_row (blk_new w _)).anew, (Below.refl _ _).alloc (Nat.le_refl _) _⟩
  case round =>
    obtain ⟨k, hk, rfl, hR, hB⟩ := hrel
    by_cases hlt : k < n
    · have hlt' : (k : Int) < n := by omega
      obtain ⟨g, o, rfl, hc⟩ := h k hlt
      have p1 := (hB.cell (p := ⟨g, o + k, none⟩) (cellLt hc)).trans hc
      dsimp only at p1
      obtain ⟨v0, hv0⟩ := hR.there k hlt
      have hf := hR.free k
      clear h hc
      go_wp2_with fail
      go_roundw
      case rel => exact ⟨k + 1, by omega, by go_num, hR.step hlt, hB.setCell (Nat.le_refl _) _⟩
      case measure => simp [intOf]; omega
    · obtain rfl : k = n := by omega
      clear h
      go_wp2_with fail
      go_ret
      exact ⟨rfl, hR, hB⟩
theorem toStrs_any (a : Option Addr) (n cap : Nat) (f : Nat → ByteArray) (w : World) (hn : n ≤ 1048576) (h : RdRow w a n fun i => .string (f i)) :
    Calls Try.prog 31 #[.slice a n cap] w fun e w' => e = .returned (.slice (some ⟨w.heap.size, 0, none⟩) n n) ∧ RowTo w.heap.size 9 n (fun i => .string (f i)) n w' ∧ Below w.heap.size w w' := by
  have mk := make_strs n hn
  go_enter Try.func31, Try.ntmps31
  go_wp2_with fail
  clear mk
  go_loopw [4] (fun i wr => ∃ k : Nat, k ≤ n ∧ i = .int .i64 k ∧ RowTo w.heap.size 9 n (fun i => .string (f i)) k wr ∧ Below w.heap.size w wr) (fun i _ => n - (intOf i).toNat)
  case atStart => exact ⟨0, Nat.zero_le _, rfl, (zStrs_row (blk_new w _)).anew, (Below.refl _ _).alloc (Nat.le_refl _) _⟩
  case round =>
    obtain ⟨k, hk, rfl, hR, hB⟩ := hrel
    by_cases hlt : k < n
    · have hlt' : (k : Int) < n := by omega
      obtain ⟨g, o, rfl, hc⟩ := h k hlt
      have p1 := (hB.cell (p := ⟨g, o + k, none⟩) (cellLt hc)).trans hc
      dsimp only at p1
      obtain ⟨v0, hv0⟩ := hR.there k hlt
      have hf := hR.free k
      clear h hc
      go_wp2_with fail
      go_roundw
      case rel => exact ⟨k + 1, by omega, by go_num, hR.step hlt, hB.setCell (Nat.le_refl _) _⟩
      case measure => simp [intOf]; omega
    · obtain rfl : k = n := by omega
      clear h
      go_wp2_with fail
      go_ret
      exact ⟨rfl, hR, hB⟩

theorem three_laid {w w1 : World} {A B C : Obj} (h : Below (((w.alloc A).alloc B).alloc C).heap.size (((w.alloc A).alloc B).alloc C) w1) :
    w1.heap[w.heap.size]? = some A ∧ w1.heap[w.heap.size + 1]? = some B ∧ w1.heap[w.heap.size + 1 + 1]? = some C ∧ Below w.heap.size w w1 ∧ w.heap.size + 3 ≤ w1.heap.size := by
  have e1 : (w.alloc A).heap.size = w.heap.size + 1 := by simp
  have e2 : ((w.alloc A).alloc B).heap.size = w.heap.size + 1 + 1 := by simp
  have e3 : (((w.alloc A).alloc B).alloc C).heap.size = w.heap.size + 1 + 1 + 1 := by simp
  rw [e3] at h
  have b1 := blk_new w A
  have b2 := blk_new (w.alloc A) B
  rw [e1] at b2
  have b3 := blk_new ((w.alloc A).alloc B) C
  rw [e2] at b3
  refine ⟨?_, ?_, ?_, ?_, ?_⟩
  · rw [h.block _ (by omega), blk_old _ (by rw [e2]; omega), blk_old _ (by rw [e1]; omega)]; exact b1
  · rw [h.block _ (by omega), blk_old _ (by rw [e2]; omega)]; exact b2
  · rw [h.block _ (by omega)]; exact b3
  · exact ((((Below.refl _ _).alloc (Nat.le_refl _) _).alloc (by rw [e1]; omega) _).alloc (by rw [e2]; omega) _).trans (h.mono (by omega))
  · have := h.size
    omega
theorem toArena_any (a b : Option Addr) (n m c d : Nat) (fr : Int) (nx : Nat → Int) (dt : Nat → ByteArray) (w : World) (hn : n ≤ 1048576) (hm : m ≤ 1048576) (h1 : RdRow w a n fun i => .int .i64 (nx i)) (h2 : RdRow w b m fun i => .string (dt i)) :
    Calls Try.prog 10 #[.agg #[.slice a n c, .slice b m d, .int .i64 fr]] w fun e w' => ∃ gN gD, e = .returned (.agg #[.slice (some ⟨gN, 0, none⟩) n n, .slice (some ⟨gD, 0, none⟩) m m, .int .i64 fr]) ∧ w.heap.size ≤ gN ∧ w.heap.size ≤ gD ∧ gN ≠ gD ∧ RowTo gN 2 n (fun i => .int .i64 (nx i)) n w' ∧ RowTo gD 9 m (fun i => .string (dt i)) m w' ∧ Below w.heap.size w w' := by
  go_enter Try.func10, Try.ntmps10
  go_wp2_with fail
  have HA : Hid (∀ A B C, Below w.heap.size w (((w.alloc A).alloc B).alloc C)) := fun A B C => (((Below.refl _ _).alloc (Nat.le_refl _) _).alloc (by simp) _).alloc (by simp; omega) _
  have e3 : ∀ A B C, (((w.alloc A).alloc B).alloc C).heap.size = w.heap.size + 1 + 1 + 1 := fun A B C => by simp
  refine (toInts_any a n c nx _ hn (h1.up (HA.out _ _ _))).mono ?_
  rintro e w1 ⟨rfl, hN, hb1⟩
  obtain ⟨kA, kB, kC, B1, z1⟩ := three_laid hb1
  rw [e3] at hN
  have cA := blk_cell kA
  have cC := blk_cell kC
  have fC := blk_free kC
  have lN := hN.lt
  clear hb1 h1
  go_wp2_with fail
  have h2' := h2.up (B1.setCell (p := ⟨w.heap.size + 1 + 1, 0, none⟩) (by show _ ≤ _ + 1 + 1; omega) (.slice (some ⟨w.heap.size + 1 + 1 + 1, 0, none⟩) n n))
  have hz2 : ∀ p v, (w1.setCell p v).heap.size = w1.heap.size := fun p v => by simp [World.setCell]
  have kA' := (blk_set_ne (w := w1) (g := w.heap.size + 1 + 1) (k := w.heap.size) (i := 0) (by omega) (.slice (some ⟨w.heap.size + 1 + 1 + 1, 0, none⟩) n n)).trans kA
  have kB' := (blk_set_ne (w := w1) (g := w.heap.size + 1 + 1) (k := w.heap.size + 1) (i := 0) (by omega) (.slice (some ⟨w.heap.size + 1 + 1 + 1, 0, none⟩) n n)).trans kB
  have kC' : (w1.setCell ⟨w.heap.size + 1 + 1, 0, none⟩ (.slice (some ⟨w.heap.size + 1 + 1 + 1, 0, none⟩) n n)).heap[w.heap.size + 1 + 1]? = some (.cells #[.slice (some ⟨w.heap.size + 1 + 1 + 1, 0, none⟩) n n, .slice none 0 0, .int .i64 0] 28 (0, 0)) := blk_set kC _
  have hN' := hN.keep (blk_set_ne (w := w1) (g := w.heap.size + 1 + 1) (k := w.heap.size + 1 + 1 + 1) (i := 0) (by omega) (.slice (some ⟨w.heap.size + 1 + 1 + 1, 0, none⟩) n n))
  have B1' := B1.setCell (p := ⟨w.heap.size + 1 + 1, 0, none⟩) (by show _ ≤ _ + 1 + 1; omega) (.slice (some ⟨w.heap.size + 1 + 1 + 1, 0, none⟩) n n)
  have hz3 := hz2 ⟨w.heap.size + 1 + 1, 0, none⟩ (.slice (some ⟨w.heap.size + 1 + 1 + 1, 0, none⟩) n n)
  generalize w1.setCell ⟨w.heap.size + 1 + 1, 0, none⟩ (.slice (some ⟨w.heap.size + 1 + 1 + 1, 0, none⟩) n n) = W at *
  clear kA kB kC cA cC fC hN hz2 B1 h2
  refine (toStrs_any b m d dt _ hm h2').mono ?_
  rintro e w2 ⟨rfl, hD, hb2⟩
  have kA2 := (hb2.block _ (by omega)).trans kA'
  have kB2 := (hb2.block _ (by omega)).trans kB'
  have kC2 := (hb2.block _ (by omega)).trans kC'
  have hN2 := hN'.keep (hb2.block _ (by omega))
  have B2 : Below w.heap.size w w2 := B1'.trans (hb2.mono (by omega))
  have cA := blk_cell kA2
  have cB := blk_cell kB2
  have cC := blk_cell kC2
  have fB := blk_free kB2
  have fC := blk_free kC2
  have hne : w.heap.size + 1 + 1 + 1 ≠ W.heap.size := by omega
  have hW : w.heap.size + 3 < W.heap.size := by omega
  clear hb2 kA' kB' kC' hN' B1' h2' kA2 kB2 kC2
  go_wp2_with fail
  refine bodyPost_ret (v := .agg #[.slice (some ⟨w.heap.size + 1 + 1 + 1, 0, none⟩) n n, .slice (some ⟨W.heap.size, 0, none⟩) m m, .int .i64 fr]) (by simp [results, Try.results10, go_sem, cB]) rfl ⟨_, _, rfl, by omega, by omega, hne, hN2.keep ?_, hD.keep ?_, ?_⟩
  · rw [blk_set_ne (by omega), blk_set_ne (by omega), blk_set_ne (by omega), blk_set_ne (by omega), blk_set_ne (by omega)]
  · rw [blk_set_ne (by omega), blk_set_ne (by omega), blk_set_ne (by omega), blk_set_ne (by omega), blk_set_ne (by omega)]
  · exact ((((B2.setCell (by show _ ≤ _ + 1 + 1; omega) _).setCell (by show _ ≤ _ + 1 + 1; omega) _).setCell (by show _ ≤ _ + 1; omega) _).setCell (by show _ ≤ _ + 1; omega) _).setCell (by show _ ≤ _ + 1; omega) _
theorem eqArena2_any (a1 a2 b1 b2 : Option Addr) (n m c1 c2 d1 d2 : Nat) (fr : Int) (f : Nat → Int) (u : Nat → ByteArray) (w : World) (hn : n ≤ 1048576) (hm : m ≤ 1048576)
    (h1 : RdRow w a1 n fun i => .int .i64 (f i)) (h2 : RdRow w a2 n fun i => .int .i64 (f i)) (k1 : RdRow w b1 m fun i => .string (u i)) (k2 : RdRow w b2 m fun i => .string (u i)) :
    Calls Try.prog 13 #[.agg #[.slice a1 n c1, .slice b1 m d1, .int .i64 fr], .agg #[.slice a2 n c2, .slice b2 m d2, .int .i64 fr]] w fun e w' => e = .returned (.bool true) ∧ Below w.heap.size w w' := by
  have hA : ∀ o1 o2, Below w.heap.size w ((w.alloc o1).alloc o2) := fun o1 o2 => (((Below.refl _ _).alloc (Nat.le_refl _) _).alloc (by simp) _)
  have HA : Hid (∀ o1 o2, Below w.heap.size w ((w.alloc o1).alloc o2)) := hA
  clear hA
  go_enter Try.func13, Try.ntmps13
  go_wp2_with fail
  refine (eqInts_any _ _ _ _ _ f _ hn (h1.up (HA.out _ _)) (h2.up (HA.out _ _))).mono ?_
  rintro e w1 ⟨rfl, hS1⟩
  have c1 := fun (b : Nat) (i : Nat) => hS1.cell ⟨b, i, none⟩
  go_wp2_with fail
  refine (eqStrs_any _ _ _ _ _ u _ hm ((k1.up (HA.out _ _)).up (hS1.below _)) ((k2.up (HA.out _ _)).up (hS1.below _))).mono ?_
  rintro e w2 ⟨rfl, hS2⟩
  have c2 := fun (b : Nat) (i : Nat) => hS2.cell ⟨b, i, none⟩
  have B2 : Below w.heap.size w w2 := ((HA.out _ _).trans (hS1.below _)).trans (hS2.below _)
  go_wp2_with fail
  go_ret
  exact ⟨rfl, B2⟩
end Go.Proofs.Ytjliapdfjjblnaa
