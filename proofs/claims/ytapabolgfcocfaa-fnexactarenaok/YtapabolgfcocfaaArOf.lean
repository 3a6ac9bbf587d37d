/- An arena made of cells: its contract. -/
import Derived.Test.YtapabolgfcocfaaArMark
import Derived.Test.YtapabolgfcocfaaClone
import Derived.OwnWalk
import Derived.Deep.DeepCutAuto
namespace Go.Proofs.Ytapabolgfcocfaa
open Go.RowKit
set_option linter.unusedVariables false
set_option linter.unusedSimpArgs false

theorem copy35 (s : ByteArray) (w : World) (hlim : s.size ≤ 1048576) :
    Calls Try.prog 35 #[.string s] w fun e w' => e = .returned (.string s) ∧ Below w.heap.size w w' := by
  go_enter Try.func35, Try.ntmps35
  go_wp2_with fail
  refine (clone57 _ _ (by omega)).mono ?_
  rintro e w1 ⟨rfl, hb1⟩
  go_wp2_with fail
  go_ret
  exact ⟨rfl, hb1⟩

theorem info2 : (Try.prog.info? 2).map (fun i => (i.zero, i.size, i.bytes)) = some (some (.int .i64 0), 1, 8) := by kernel_rfl
theorem info9 : (Try.prog.info? 9).map (fun i => (i.zero, i.size, i.bytes)) = some (some (.string ⟨#[]⟩), 1, 16) := by kernel_rfl
def zInts (n : Nat) : Array Value := madeCells #[.int .i64 0] n
def zStrs (n : Nat) : Array Value := madeCells #[.string ⟨#[]⟩] n
theorem made_at (v : Value) (n i : Nat) (h : i < n) : (madeCells #[v] n)[i]? = some v := by
  unfold madeCells
  simp [h]
  rw [Nat.mod_one]; rfl
theorem make_ints (n : Nat) (hn : n ≤ 1048576) (w : World) : (Instr.makeSlice 35 (.int .i64 (n : Int)) (.int .i64 (n : Int))).run Try.prog w = .ok (.slice (some ⟨w.heap.size, 0, none⟩) n n) (w.alloc (.cells (zInts n) 2)) := by
  obtain ⟨i0, hi, hz0, hz1, hz2⟩ := info_parts info2
  have := run_make (P := Try.prog) w 35 2 i0 (.int .i64 0) Try.underlying35 hi hz0 .i64 .i64 (n : Int) (n : Int) (by omega) (by omega) (by rw [hz2]; omega) (by omega)
  rw [this, hz1]
  simp [zInts, Value.cells]
theorem make_strs (n : Nat) (hn : n ≤ 1048576) (w : World) : (Instr.makeSlice 36 (.int .i64 (n : Int)) (.int .i64 (n : Int))).run Try.prog w = .ok (.slice (some ⟨w.heap.size, 0, none⟩) n n) (w.alloc (.cells (zStrs n) 9)) := by
  obtain ⟨i0, hi, hz0, hz1, hz2⟩ := info_parts info9
  have := run_make (P := Try.prog) w 36 9 i0 (.string ⟨#[]⟩) Try.underlying36 hi hz0 .i64 .i64 (n : Int) (n : Int) (by omega) (by omega) (by rw [hz2]; omega) (by omega)
  rw [this, hz1]
  simp [zStrs, Value.cells]
theorem zInts_row {w : World} {g n : Nat} (h : w.heap[g]? = some (.cells (zInts n) 2 (0, 0))) : RowTo g 2 n (fun _ => .int .i64 0) n w :=
  ⟨_, h, by simp [zInts, size_madeCells], fun i hi => made_at _ n i hi⟩
theorem zStrs_row {w : World} {g n : Nat} (h : w.heap[g]? = some (.cells (zStrs n) 9 (0, 0))) : RowTo g 9 n (fun _ => .string ⟨#[]⟩) n w :=
  ⟨_, h, by simp [zStrs, size_madeCells], fun i hi => made_at _ n i hi⟩

/-- the cells of a slice of cells, in block g from o on -/
def CellRow (w : World) (g o n : Nat) (nx : Nat → Int) (dt : Nat → ByteArray) : Prop :=
  ∀ i, i < n → w.cell? ⟨g, o + i * 2, none⟩ = some (.int .i64 (nx i)) ∧ w.cell? ⟨g, o + i * 2 + 1, none⟩ = some (.string (dt i))
theorem CellRow.up {w w2 : World} {g o n : Nat} {nx : Nat → Int} {dt : Nat → ByteArray} (h : CellRow w g o n nx dt) (hb : Below w.heap.size w w2) : CellRow w2 g o n nx dt := by
  intro i hi
  obtain ⟨h1, h2⟩ := h i hi
  exact ⟨(hb.cell (p := ⟨g, o + i * 2, none⟩) (cellLt h1)).trans h1, (hb.cell (p := ⟨g, o + i * 2 + 1, none⟩) (cellLt h2)).trans h2⟩

/-- behind the making of the two rows and of the arena, in whatever order -/
def Made (w wr : World) (n gN gD gA : Nat) (fr : Int) : Prop :=
  w.heap.size ≤ gN ∧ w.heap.size ≤ gD ∧ w.heap.size ≤ gA ∧ Below w.heap.size w wr ∧ RowTo gN 2 n (fun _ => .int .i64 0) n wr ∧ RowTo gD 9 n (fun _ => .string ⟨#[]⟩) n wr ∧
    wr.heap[gA]? = some (.cells #[.slice (some ⟨gN, 0, none⟩) n n, .slice (some ⟨gD, 0, none⟩) n n, .int .i64 fr] 38 (0, 0)) ∧
    wr.heap[w.heap.size]? = some (.cells #[.slice none 0 0, .slice none 0 0, .int .i64 0] 38 (0, 0))

/-- behind k rounds -/
def Filled (w wr : World) (n gN gD gA : Nat) (fr : Int) (nx : Nat → Int) (dt : Nat → ByteArray) (k : Nat) : Prop :=
  Below w.heap.size w wr ∧ RowTo gN 2 n (fun i => .int .i64 (nx i)) k wr ∧ RowTo gD 9 n (fun i => .string (dt i)) k wr ∧
    wr.heap[gA]? = some (.cells #[.slice (some ⟨gN, 0, none⟩) n n, .slice (some ⟨gD, 0, none⟩) n n, .int .i64 fr] 38 (0, 0)) ∧
    wr.heap[w.heap.size]? = some (.cells #[.slice none 0 0, .slice none 0 0, .int .i64 0] 38 (0, 0))
theorem RowTo.ne {g g' n k : Nat} {t t' : TypeId} {f : Nat → Value} {w : World} {cs : Array Value} {fr : Nat × Nat} (h : RowTo g t n f k w) (h' : w.heap[g']? = some (.cells cs t' fr)) (ht : t ≠ t') : g ≠ g' := by
  intro e
  subst e
  obtain ⟨arr, hb, _⟩ := h
  rw [hb] at h'
  cases h'
  exact ht rfl
theorem RowTo.ne2 {g g' n k n' k' : Nat} {t t' : TypeId} {f f' : Nat → Value} {w : World} (h : RowTo g t n f k w) (h' : RowTo g' t' n' f' k' w) (ht : t ≠ t') : g ≠ g' := by
  obtain ⟨arr, hb, _⟩ := h'
  exact h.ne hb ht
theorem mid_round {w wr : World} {g o n gN gD gA k : Nat} {fr : Int} {nx : Nat → Int} {dt : Nat → ByteArray} (hk : k < n) (hg : g < w.heap.size) (hN : w.heap.size ≤ gN) (hD : w.heap.size ≤ gD) (hA : w.heap.size ≤ gA)
    (h : Filled w wr n gN gD gA fr nx dt k) (hC : CellRow wr g o n nx dt) :
    let W2 := (wr.alloc (.cells #[.int .i64 (nx k), .string (dt k)] 59)).setCell ⟨gN, k, none⟩ (.int .i64 (nx k))
    (Below w.heap.size w W2 ∧ RowTo gN 2 n (fun i => .int .i64 (nx i)) (k + 1) W2 ∧ RowTo gD 9 n (fun i => .string (dt i)) k W2 ∧
      W2.heap[gA]? = some (.cells #[.slice (some ⟨gN, 0, none⟩) n n, .slice (some ⟨gD, 0, none⟩) n n, .int .i64 fr] 38 (0, 0)) ∧ W2.heap[w.heap.size]? = some (.cells #[.slice none 0 0, .slice none 0 0, .int .i64 0] 38 (0, 0)) ∧
      wr.heap.size < W2.heap.size ∧ gD < wr.heap.size) ∧
      CellRow W2 g o n nx dt ∧ W2.cell? ⟨gA, 1, none⟩ = some (.slice (some ⟨gD, 0, none⟩) n n) ∧ W2.cell? ⟨wr.heap.size, 1, none⟩ = some (.string (dt k)) := by
  intro W2
  obtain ⟨hB, rN, rD, kA, kR⟩ := h
  have nA := rN.ne kA (by decide)
  have nR := rN.ne kR (by decide)
  have nD := rN.ne2 rD (by decide)
  have lN := rN.lt
  have lD := rD.lt
  have hz := hB.size
  have bA : W2.heap[gA]? = _ := ((blk_set_ne (fun e => nA e.symm) _).trans (blk_old _ (blk_lt kA))).trans kA
  have bX : W2.heap[wr.heap.size]? = _ := (blk_set_ne (by omega) _).trans (blk_new wr _)
  refine ⟨⟨(hB.alloc hz _).setCell hN _, (rN.keep (blk_old _ lN)).step hk, rD.keep ((blk_set_ne (fun e => nD e.symm) _).trans (blk_old _ lD)), bA, ((blk_set_ne (fun e => nR e.symm) _).trans (blk_old _ (blk_lt kR))).trans kR, by simp [W2, World.setCell], lD⟩, ?_, ?_, ?_⟩
  · intro i hi
    obtain ⟨c1, c2⟩ := hC i hi
    have e : W2.heap[g]? = wr.heap[g]? := (blk_set_ne (by omega) _).trans (blk_old _ (by omega))
    exact ⟨(World.cell?_of_block (w := wr) (a := ⟨g, o + i * 2, none⟩) e).trans c1, (World.cell?_of_block (w := wr) (a := ⟨g, o + i * 2 + 1, none⟩) e).trans c2⟩
  · rw [blk_cell bA]; rfl
  · rw [blk_cell bX]; rfl
theorem end_round {w W2 w1 : World} {g o n gN gD gA k x : Nat} {fr : Int} {nx : Nat → Int} {dt : Nat → ByteArray} (hk : k < n) (hg : g < w.heap.size) (hD : w.heap.size ≤ gD)
    (h : Below w.heap.size w W2 ∧ RowTo gN 2 n (fun i => .int .i64 (nx i)) (k + 1) W2 ∧ RowTo gD 9 n (fun i => .string (dt i)) k W2 ∧
      W2.heap[gA]? = some (.cells #[.slice (some ⟨gN, 0, none⟩) n n, .slice (some ⟨gD, 0, none⟩) n n, .int .i64 fr] 38 (0, 0)) ∧ W2.heap[w.heap.size]? = some (.cells #[.slice none 0 0, .slice none 0 0, .int .i64 0] 38 (0, 0)) ∧
      x < W2.heap.size ∧ gD < x) (hC : CellRow W2 g o n nx dt) (hb : Below W2.heap.size W2 w1) :
    Filled w (w1.setCell ⟨gD, k, none⟩ (.string (dt k))) n gN gD gA fr nx dt (k + 1) ∧ CellRow (w1.setCell ⟨gD, k, none⟩ (.string (dt k))) g o n nx dt ∧ ∃ v, w1.cell? ⟨gD, k, none⟩ = some v ∧ w1.frozen? ⟨gD, k, none⟩ = false := by
  obtain ⟨hB, rN, rD, kA, kR, _, _⟩ := h
  have nA := rD.ne kA (by decide)
  have nR := rD.ne kR (by decide)
  have nN := rN.ne2 rD (by decide)
  have rD1 := rD.keep (hb.block gD rD.lt)
  obtain ⟨v, hv⟩ := rD1.there k hk
  refine ⟨⟨(hB.trans (hb.mono hB.size)).setCell hD _, rN.keep ((blk_set_ne nN _).trans (hb.block gN rN.lt)), rD1.step hk, ((blk_set_ne (fun e => nA e.symm) _).trans (hb.block gA (blk_lt kA))).trans kA, ((blk_set_ne (fun e => nR e.symm) _).trans (hb.block _ (blk_lt kR))).trans kR⟩, ?_, v, hv, rD1.free k⟩
  intro i hi
  obtain ⟨c1, c2⟩ := hC i hi
  have e : (w1.setCell ⟨gD, k, none⟩ (.string (dt k))).heap[g]? = W2.heap[g]? := (blk_set_ne (by omega) _).trans (hb.block g (by have := hB.size; omega))
  exact ⟨(World.cell?_of_block (w := W2) (a := ⟨g, o + i * 2, none⟩) e).trans c1, (World.cell?_of_block (w := W2) (a := ⟨g, o + i * 2 + 1, none⟩) e).trans c2⟩
theorem still_held {w W2 w1 : World} {g o n gN gD gA k x : Nat} {fr : Int} {nx : Nat → Int} {dt : Nat → ByteArray}
    (h : Below w.heap.size w W2 ∧ RowTo gN 2 n (fun i => .int .i64 (nx i)) (k + 1) W2 ∧ RowTo gD 9 n (fun i => .string (dt i)) k W2 ∧
      W2.heap[gA]? = some (.cells #[.slice (some ⟨gN, 0, none⟩) n n, .slice (some ⟨gD, 0, none⟩) n n, .int .i64 fr] 38 (0, 0)) ∧ W2.heap[w.heap.size]? = some (.cells #[.slice none 0 0, .slice none 0 0, .int .i64 0] 38 (0, 0)) ∧
      x < W2.heap.size ∧ gD < x) (hC : CellRow W2 g o n nx dt) (hb : Below W2.heap.size W2 w1) (t1 : w1.cell? ⟨gA, 1, none⟩ = some (.slice (some ⟨gD, 0, none⟩) n n)) (t2 : w1.cell? ⟨x, 1, none⟩ = some (.string (dt k))) :
    (w1.setCell ⟨gD, k, none⟩ (.string (dt k))).cell? ⟨gA, 1, none⟩ = some (.slice (some ⟨gD, 0, none⟩) n n) ∧ (w1.setCell ⟨gD, k, none⟩ (.string (dt k))).cell? ⟨x, 1, none⟩ = some (.string (dt k)) := by
  obtain ⟨hB, rN, rD, kA, kR, _, hx⟩ := h
  have nA := rD.ne kA (by decide)
  exact ⟨(World.cell?_of_block (w := w1) (a := ⟨gA, 1, none⟩) (blk_set_ne (fun e => nA e.symm) _)).trans t1, (World.cell?_of_block (w := w1) (a := ⟨x, 1, none⟩) (blk_set_ne (by show x ≠ gD; omega) _)).trans t2⟩
theorem three (w : World) (Z X1 X2 X3 : Obj) :
    ((((w.alloc Z).alloc X1).alloc X2).alloc X3).drew.heap[w.heap.size]? = some Z ∧ ((((w.alloc Z).alloc X1).alloc X2).alloc X3).drew.heap[w.heap.size + 1]? = some X1 ∧ ((((w.alloc Z).alloc X1).alloc X2).alloc X3).drew.heap[w.heap.size + 1 + 1]? = some X2 ∧
      ((((w.alloc Z).alloc X1).alloc X2).alloc X3).drew.heap[w.heap.size + 1 + 1 + 1]? = some X3 ∧ Below w.heap.size w ((((w.alloc Z).alloc X1).alloc X2).alloc X3).drew := by
  have e1 : (w.alloc Z).heap.size = w.heap.size + 1 := by simp
  have e2 : ((w.alloc Z).alloc X1).heap.size = w.heap.size + 1 + 1 := by simp
  have e3 : (((w.alloc Z).alloc X1).alloc X2).heap.size = w.heap.size + 1 + 1 + 1 := by simp
  refine ⟨?_, ?_, ?_, ?_, ?_⟩
  · show ((((w.alloc Z).alloc X1).alloc X2).alloc X3).heap[w.heap.size]? = _
    rw [blk_old _ (by omega), blk_old _ (by omega), blk_old _ (by omega), blk_new]
  · show ((((w.alloc Z).alloc X1).alloc X2).alloc X3).heap[w.heap.size + 1]? = _
    rw [blk_old _ (by omega), blk_old _ (by omega), ← e1, blk_new]
  · show ((((w.alloc Z).alloc X1).alloc X2).alloc X3).heap[w.heap.size + 1 + 1]? = _
    rw [blk_old _ (by omega), ← e2, blk_new]
  · show ((((w.alloc Z).alloc X1).alloc X2).alloc X3).heap[w.heap.size + 1 + 1 + 1]? = _
    rw [← e3, blk_new]
  · exact (((((Below.refl _ _).alloc (Nat.le_refl _) _).alloc (by omega) _).alloc (by omega) _).alloc (by omega) _).drew

set_option maxHeartbeats 1000000 in
theorem arenaOf_any (g o n cap : Nat) (fr : Int) (nx : Nat → Int) (dt : Nat → ByteArray) (w : World) (hn : n ≤ 1000) (hg : g < w.heap.size) (hd : ∀ i, i < n → (dt i).size ≤ 1048576) (hc : CellRow w g o n nx dt) :
    Calls Try.prog 38 #[.slice (some ⟨g, o, none⟩) n cap, .int .i64 fr] w fun e w' => ∃ gN gD, e = .returned (.agg #[.slice (some ⟨gN, 0, none⟩) n n, .slice (some ⟨gD, 0, none⟩) n n, .int .i64 fr]) ∧ w.heap.size ≤ gN ∧ w.heap.size ≤ gD ∧ RowTo gN 2 n (fun i => .int .i64 (nx i)) n w' ∧ RowTo gD 9 n (fun i => .string (dt i)) n w' ∧ Below w.heap.size w w' := by
  have m1 := make_ints n (by omega)
  have m2 := make_strs n (by omega)
  go_enter Try.func38, Try.ntmps38
  go_wp2_with fail
  go_cut [5] (fun s5 wc => ∃ gN gD gA, s5 = .pointer (some ⟨gA, 0, none⟩) ∧ Made w wc n gN gD gA fr)
  case first =>
    go_region
    · go_wp2_with fail
      go_meet
      case rel =>
        obtain ⟨t0, t1, t2, t3, tb⟩ := three w _ _ _ _
        exact ⟨_, _, _, rfl, by omega, by omega, by omega, tb, zInts_row t1, zStrs_row t2, t3, t0⟩
    · go_wp2_with fail
      go_meet
      case rel =>
        obtain ⟨t0, t1, t2, t3, tb⟩ := three w _ _ _ _
        exact ⟨_, _, _, rfl, by omega, by omega, by omega, tb, zInts_row t1, zStrs_row t3, t2, t0⟩
    · go_wp2_with fail
      go_meet
      case rel =>
        obtain ⟨t0, t1, t2, t3, tb⟩ := three w _ _ _ _
        exact ⟨_, _, _, rfl, by omega, by omega, by omega, tb, zInts_row t2, zStrs_row t1, t3, t0⟩
    · go_wp2_with fail
      go_meet
      case rel =>
        obtain ⟨t0, t1, t2, t3, tb⟩ := three w _ _ _ _
        exact ⟨_, _, _, rfl, by omega, by omega, by omega, tb, zInts_row t3, zStrs_row t1, t2, t0⟩
    · go_wp2_with fail
      go_meet
      case rel =>
        obtain ⟨t0, t1, t2, t3, tb⟩ := three w _ _ _ _
        exact ⟨_, _, _, rfl, by omega, by omega, by omega, tb, zInts_row t2, zStrs_row t3, t1, t0⟩
    · go_wp2_with fail
      go_meet
      case rel =>
        obtain ⟨t0, t1, t2, t3, tb⟩ := three w _ _ _ _
        exact ⟨_, _, _, rfl, by omega, by omega, by omega, tb, zInts_row t3, zStrs_row t2, t1, t0⟩
  case rest =>
    obtain ⟨gN, gD, gA, rfl, hN, hD, hA, hB, rN, rD, kA, kR⟩ := hcut
    clear m1 m2
    go_wp2_with fail
    go_loopw [18] (fun i wr => ∃ k : Nat, k ≤ n ∧ i = .int .i64 k ∧ Filled w wr n gN gD gA fr nx dt k ∧ CellRow wr g o n nx dt) (fun i _ => n - (intOf i).toNat)
    case atStart => exact ⟨0, Nat.zero_le _, rfl, ⟨hB, rN.anew, rD.anew, kA, kR⟩, hc.up hB⟩
    case round =>
      obtain ⟨k, hk, rfl, ⟨hB', rN', rD', kA', kR'⟩, hC'⟩ := hrel
      clear hB rN rD kA kR hc
      by_cases hlt : k < n
      · have hlt' : (k : Int) < n := by omega
        obtain ⟨q1, q2⟩ := hC' k hlt
        have zb := hB'.size
        have cA : ∀ o' i, (wr.alloc o').cell? ⟨gA, i, none⟩ = _ := fun o' i => (blk_cell ((blk_old o' (blk_lt kA')).trans kA') i)
        have cN : ∃ v, ∀ o', (wr.alloc o').cell? ⟨gN, k, none⟩ = some v := by
          obtain ⟨v, hv⟩ := rN'.there k hlt
          exact ⟨v, fun o' => (World.cell?_of_block (w := wr) (a := ⟨gN, k, none⟩) (blk_old o' rN'.lt)).trans hv⟩
        obtain ⟨vN, cN⟩ := cN
        have fN : ∀ o', (wr.alloc o').frozen? ⟨gN, k, none⟩ = false := fun o' => (World.frozen?_of_block (w := wr) (a := ⟨gN, k, none⟩) (blk_old o' rN'.lt)).trans (rN'.free k)
        go_wp2_with fail
        obtain ⟨F2, C2, s1, s2⟩ := mid_round hlt hg hN hD hA ⟨hB', rN', rD', kA', kR'⟩ hC'
        generalize (wr.alloc (Obj.cells #[Value.int IntKind.i64 (nx k), Value.string (dt k)] 59)).setCell ⟨gN, k, none⟩ (Value.int IntKind.i64 (nx k)) = W2 at *
        clear cA cN fN q1 q2 hB' rN' rD' kA' kR' hC'
        refine wp_region_held_drew (S := fun w' => w'.cell? ⟨gA, 1, none⟩ = some (.slice (some ⟨gD, 0, none⟩) n n) ∧ w'.cell? ⟨wr.heap.size, 1, none⟩ = some (.string (dt k))) (by kernel_rfl) ⟨s1, s2⟩ (fun hHeld => ?_)
        refine wpAnyH_take (i := 0) (v := ?_) rfl (by kernel_rfl) (by kernel_rfl) (by kernel_rfl) (fun _ _ _ h => h) (Or.inl ⟨by rfl, ?_⟩) (by assumption) ?_
        rotate_left
        · intro wx hSw
          try dsimp only at hSw
          obtain ⟨hS1, hS2⟩ := hSw
          go_simp
          try (with_reducible rfl)
        try simp only [Act.put, List.setIfInBounds_toArray, List.set_cons_zero, List.set_cons_succ]
        refine wpAnyH_take (i := 1) (v := ?_) rfl (by kernel_rfl) (by kernel_rfl) (by kernel_rfl) (fun _ _ _ h => h) (Or.inl ⟨by rfl, ?_⟩) (by assumption) ?_
        rotate_left
        · intro wx hSw
          try dsimp only at hSw
          obtain ⟨hS1, hS2⟩ := hSw
          go_simp
          try (with_reducible rfl)
        try simp only [Act.put, List.setIfInBounds_toArray, List.set_cons_zero, List.set_cons_succ]
        refine wpAnyH_take (i := 2) (v := ?_) rfl (by kernel_rfl) (by kernel_rfl) (by kernel_rfl) (fun _ _ _ h => h) (Or.inl ⟨by rfl, ?_⟩) (by assumption) ?_
        rotate_left
        · intro wx hSw
          try dsimp only at hSw
          obtain ⟨hS1, hS2⟩ := hSw
          go_simp
          try (with_reducible rfl)
        try simp only [Act.put, List.setIfInBounds_toArray, List.set_cons_zero, List.set_cons_succ]
        refine wpAnyH_take (i := 3) (v := ?_) rfl (by kernel_rfl) (by kernel_rfl) (by kernel_rfl) (fun _ _ _ h => h) (Or.inl ⟨by rfl, ?_⟩) (by assumption) ?_
        rotate_left
        · intro wx hSw
          try dsimp only at hSw
          obtain ⟨hS1, hS2⟩ := hSw
          go_simp
          try (with_reducible rfl)
        try simp only [Act.put, List.setIfInBounds_toArray, List.set_cons_zero, List.set_cons_succ]
        refine wpAnyH_take (i := 4) (v := ?_) rfl (by kernel_rfl) (by kernel_rfl) (by kernel_rfl) (fun _ _ _ h => h) (Or.inl ⟨by rfl, ?_⟩) (by assumption) ?_
        rotate_left
        · intro wx hSw
          try dsimp only at hSw
          obtain ⟨hS1, hS2⟩ := hSw
          go_simp
          try (with_reducible rfl)
        try simp only [Act.put, List.setIfInBounds_toArray, List.set_cons_zero, List.set_cons_succ]
        refine wpAnyH_ready (rs := [5]) (by kernel_rfl) (by simp) ?_
        refine AllReadyH.cons rfl (fun K hK => ?_) AllReadyH.nil
        go_simp
        refine (copy35 _ _ (hd k hlt)).mono ?_
        rintro e w1 ⟨rfl, hb1⟩
        have hb1' : Below W2.heap.size W2 w1 := (Below.refl _ _).drew.trans hb1
        have t1 := (hb1'.cell (p := ⟨gA, 1, none⟩) (cellLt s1)).trans s1
        have t2 := (hb1'.cell (p := ⟨wr.heap.size, 1, none⟩) (cellLt s2)).trans s2
        obtain ⟨F3, C3, vD, cD, fD⟩ := end_round hlt hg hD F2 C2 hb1'
        clear hb1 hHeld
        go_wp2_with fail
        refine hK.out _ _ ⟨t1, t2⟩ (fun hHeld => ?_)
        clear hK K
        try simp only [Act.put, List.setIfInBounds_toArray, List.set_cons_zero, List.set_cons_succ]
        refine wpAnyH_ready (rs := [6]) (by kernel_rfl) (by simp) ?_
        refine AllReadyH.cons rfl (fun K hK => ?_) AllReadyH.nil
        go_simp
        refine hK.out _ _ ⟨t1, t2⟩ (fun hHeld => ?_)
        clear hK K
        try simp only [Act.put, List.setIfInBounds_toArray, List.set_cons_zero, List.set_cons_succ]
        refine wpAnyH_ready (rs := [7]) (by kernel_rfl) (by simp) ?_
        refine AllReadyH.cons rfl (fun K hK => ?_) AllReadyH.nil
        go_simp
        refine hK.out _ _ ?_ (fun hHeld => ?_)
        · exact still_held F2 C2 hb1' t1 t2
        clear hK K
        try simp only [Act.put, List.setIfInBounds_toArray, List.set_cons_zero, List.set_cons_succ]
        refine wpAnyH_done (by kernel_rfl) ?_ _
        go_wp2_with fail
        go_roundw
        case rel => exact ⟨k + 1, by omega, by go_num, F3, C3⟩
        case measure => simp [intOf]; omega
      · obtain rfl : k = n := by omega
        have cA := blk_cell kA'
        have cR := blk_cell kR'
        have fR := blk_free kR'
        have nN : gN ≠ w.heap.size := rN'.ne kR' (by decide)
        have nD : gD ≠ w.heap.size := rD'.ne kR' (by decide)
        have nA : gA = w.heap.size ∨ gA ≠ w.heap.size := by omega
        go_wp2_with fail
        exact bodyPost_ret (v := .agg #[.slice (some ⟨gN, 0, none⟩) k k, .slice (some ⟨gD, 0, none⟩) k k, .int .i64 fr]) (by simp [results, Try.results38, go_sem, cR]) rfl ⟨gN, gD, rfl, hN, hD,
          rN'.keep (by rw [blk_set_ne nN, blk_set_ne nN, blk_set_ne nN]), rD'.keep (by rw [blk_set_ne nD, blk_set_ne nD, blk_set_ne nD]), ((hB'.setCell (Nat.le_refl _) _).setCell (Nat.le_refl _) _).setCell (Nat.le_refl _) _⟩
end Go.Proofs.Ytapabolgfcocfaa
