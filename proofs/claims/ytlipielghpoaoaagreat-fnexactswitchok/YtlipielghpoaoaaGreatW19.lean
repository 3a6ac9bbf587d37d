/- Packets and lanes copied by the laws. -/
import Derived.Test.YtlipielghpoaoaaGreatW02
import Derived.Test.YtlipielghpoaoaaGreatW04
import Derived.Test.YtlipielghpoaoaaGreatW07
import Derived.Test.YtlipielghpoaoaaGreatW14
import Derived.Deep.MidRow
import Derived.Lib.AppendZeros
import Derived.Maps.AppendAt
import Derived.Room.AppendFits
namespace Go.Proofs.YtlipielghpoaoaaGreat
open Go.RowKit
set_option linter.unusedVariables false

theorem szFrame_any (k d s p left : Int) (b : ByteArray) (w : World) (hb : b.size ≤ maxLen) (h0 : 0 ≤ left) (h1 : left ≤ 1048576) :
  Calls Tryz.prog 97 #[.agg #[.int .i64 k, .int .i64 d, .int .i64 s, .int .i64 p, .string b], .int .i64 left] w fun e w' => e = .returned (.int .i64 (if left < b.size then -1 else left - b.size)) ∧ Below w.heap.size w w' := by
 unfold maxLen at hb
 by_cases h : left < b.size
 ·
  go_enter Tryz.func97, Tryz.ntmps97
  go_wp2
  go_ret
  exact ⟨rfl, (Below.refl _ _).alloc (Nat.le_refl _) _⟩
 ·
  go_enter Tryz.func97, Tryz.ntmps97
  go_wp2
  go_ret
  exact ⟨rfl, (Below.refl _ _).alloc (Nat.le_refl _) _⟩


theorem toFrame_any (k d s p : Int) (b : ByteArray) (w : World) :
  Calls Tryz.prog 101 #[.agg #[.int .i64 k, .int .i64 d, .int .i64 s, .int .i64 p, .string b]] w fun e w' => e = .returned (.agg #[.int .i64 k, .int .i64 d, .int .i64 s, .int .i64 p, .string b]) ∧ Below w.heap.size w w' := by
 go_enter Tryz.func101, Tryz.ntmps101
 go_wp2
 exact bodyPost_ret (v := .agg #[.int .i64 k, .int .i64 d, .int .i64 s, .int .i64 p, .string b]) (by simp [results, Tryz.results101, go_sem]) rfl ⟨rfl, (((Below.refl _ _).alloc (Nat.le_refl _) _).alloc (by simp) _).alloc (by simp; omega) _⟩

end Go.Proofs.YtlipielghpoaoaaGreat
namespace Go.Proofs.YtlipielghpoaoaaGreat
open Go.RowKit
set_option linter.unusedVariables false
set_option linter.unusedSimpArgs false

theorem infoEnt : (Tryz.prog.info? 56).map (fun i => (i.zero, i.size, i.bytes)) = some (some (.agg #[.int .i64 0, .int .i64 0, .int .i64 0]), 3, 24) := by kernel_rfl
def zEnts (n : Nat) : Array Value := madeCells #[.int .i64 0, .int .i64 0, .int .i64 0] (n * 3)
theorem make_ents (n : Nat) (hn : n ≤ 1048576) (w : World) : (Instr.makeSlice 36 (.int .i64 (n : Int)) (.int .i64 (n : Int))).run Tryz.prog w = .ok (.slice (some ⟨w.heap.size, 0, none⟩) n n) (w.alloc (.cells (zEnts n) 56)) := by
 obtain ⟨i0, hi, hz0, hz1, hz2⟩ := info_parts infoEnt
 have := run_make (P := Tryz.prog) w 36 56 i0 (.agg #[.int .i64 0, .int .i64 0, .int .i64 0]) Tryz.underlying36 hi hz0 .i64 .i64 (n : Int) (n : Int) (by omega) (by omega) (by rw [hz2]; omega) (by omega)
 rw [this, hz1]
 simp [zEnts, Value.cells]
theorem zEnts_row {w : World} {g n : Nat} (h : w.heap[g]? = some (.cells (zEnts n) 56 (0, 0))) (f : Nat → Ent) : RowTo g 56 (n * 3) (flat f) (0 * 3) w :=
 ⟨_, h, by simp [zEnts, size_madeCells], fun i hi => by omega⟩

theorem three_new (w : World) (A B C : Obj) : (((w.alloc A).alloc B).alloc C).heap[w.heap.size]? = some A ∧ (((w.alloc A).alloc B).alloc C).heap[w.heap.size + 1]? = some B ∧ (((w.alloc A).alloc B).alloc C).heap[w.heap.size + 1 + 1]? = some C ∧ Below w.heap.size w (((w.alloc A).alloc B).alloc C) := by
 have e1 : (w.alloc A).heap.size = w.heap.size + 1 := by simp
 have e2 : ((w.alloc A).alloc B).heap.size = w.heap.size + 1 + 1 := by simp
 refine ⟨?_, ?_, ?_, ?_⟩
 ·
  rw [blk_old _ (by omega), blk_old _ (by omega), blk_new]
 ·
  rw [blk_old _ (by omega), ← e1, blk_new]
 ·
  rw [← e2, blk_new]
 ·
  exact (((Below.refl _ _).alloc (Nat.le_refl _) _).alloc (by omega) _).alloc (by omega) _
theorem toEntry_any (m p t : Int) (w : World) :
  Calls Tryz.prog 61 #[.agg #[.int .i64 m, .int .i64 p, .int .i64 t]] w fun e w' => e = .returned (.agg #[.int .i64 m, .int .i64 p, .int .i64 t]) ∧ Below w.heap.size w w' := by
 go_enter Tryz.func61, Tryz.ntmps61
 have HB : Hid (∀ A B C, Below w.heap.size w (((w.alloc A).alloc B).alloc C)) := fun A B C => (three_new w A B C).2.2.2
 go_wp2_with fail
 have cB := blk_cell (three_new w (.cells #[.int .i64 m, .int .i64 p, .int .i64 t] 102) (.cells #[.int .i64 m, .int .i64 p, .int .i64 t] 56) (.cells #[.int .i64 m, .int .i64 p, .int .i64 t] 56)).2.1
 exact bodyPost_ret (v := .agg #[.int .i64 m, .int .i64 p, .int .i64 t]) (by simp [results, Tryz.results61, go_sem, cB]) rfl ⟨rfl, HB.out _ _ _⟩

theorem toEnts_any (a : Option Addr) (n cap : Nat) (f : Nat → Ent) (w : World) (hn : n ≤ 1048576) (h : RdEnt w a n f) :
  Calls Tryz.prog 26 #[.slice a n cap] w fun e w' => e = .returned (.slice (some ⟨w.heap.size, 0, none⟩) n n) ∧ RowTo w.heap.size 56 (n * 3) (flat f) (n * 3) w' ∧ Below w.heap.size w w' := by
 have mk := make_ents n hn
 go_enter Tryz.func26, Tryz.ntmps26
 go_wp2_with fail
 clear mk
 have HR : Hid (RdEnt w a n f) := h
 clear h
 go_loopw [4] (fun i wr => ∃ k : Nat, k ≤ n ∧ i = .int .i64 k ∧ RowTo w.heap.size 56 (n * 3) (flat f) (k * 3) wr ∧ Below w.heap.size w wr) (fun i _ => n - (intOf i).toNat)
 case atStart => exact ⟨0, Nat.zero_le _, rfl, zEnts_row (blk_new w _) f, (Below.refl _ _).alloc (Nat.le_refl _) _⟩
 case round =>
  obtain ⟨k, hk, rfl, hR, hB⟩ := hrel
  by_cases hlt : k < n
  ·
   have hlt' : (k : Int) < n := by omega
   obtain ⟨g, o, rfl, c1, c2, c3⟩ := (HR.out.up hB) k hlt
   go_wp2_with fail
   refine (toEntry_any _ _ _ _).mono ?_
   rintro e w1 ⟨rfl, hb1⟩
   have B1 : Below w.heap.size w w1 := hB.trans (hb1.mono hB.size)
   have R1 := hR.keep (hb1.block _ hR.lt)
   obtain ⟨v0, q0⟩ := R1.there (k * 3) (by omega)
   obtain ⟨v1, q1⟩ := R1.there (k * 3 + 1) (by omega)
   obtain ⟨v2, q2⟩ := R1.there (k * 3 + 2) (by omega)
   have f0 := R1.free (k * 3)
   have f1 := R1.free (k * 3 + 1)
   have f2 := R1.free (k * 3 + 2)
   have HS : Hid (RowTo w.heap.size 56 (n * 3) (flat f) ((k + 1) * 3) (((w1.setCell ⟨w.heap.size, k * 3, none⟩ (.int .i64 (f k).m)).setCell ⟨w.heap.size, k * 3 + 1, none⟩ (.int .i64 (f k).p)).setCell ⟨w.heap.size, k * 3 + 2, none⟩ (.int .i64 (f k).t))) := R1.ent hlt
   have HB : Hid (Below w.heap.size w w1) := B1
   clear hb1 c1 c2 c3 R1 B1 hR hB
   go_wp2_with fail
   go_roundw
   case rel => exact ⟨k + 1, by omega, by go_num, HS.out, ((HB.out.setCell (Nat.le_refl _) _).setCell (Nat.le_refl _) _).setCell (Nat.le_refl _) _⟩
   case measure => simp [intOf]; omega
  ·
   obtain rfl : k = n := by omega
   go_wp2_with fail
   go_ret
   exact ⟨rfl, hR, hB⟩

theorem eqEntry_any (m p t : Int) (w : World) :
  Calls Tryz.prog 77 #[.agg #[.int .i64 m, .int .i64 p, .int .i64 t], .agg #[.int .i64 m, .int .i64 p, .int .i64 t]] w fun e w' => e = .returned (.bool true) ∧ Below w.heap.size w w' := by
 go_enter Tryz.func77, Tryz.ntmps77
 go_wp2_with fail
 go_ret
 exact ⟨rfl, ((Below.refl _ _).alloc (Nat.le_refl _) _).alloc (by simp) _⟩

set_option maxHeartbeats 1000000 in
theorem eqEnts_any (a1 a2 : Option Addr) (n c1 c2 : Nat) (f : Nat → Ent) (w : World) (hn : n ≤ 1048576) (h1 : RdEnt w a1 n f) (h2 : RdEnt w a2 n f) :
  Calls Tryz.prog 38 #[.slice a1 n c1, .slice a2 n c2] w fun e w' => e = .returned (.bool true) ∧ Below w.heap.size w w' := by
 have H1 : Hid (RdEnt w a1 n f) := h1
 have H2 : Hid (RdEnt w a2 n f) := h2
 clear h1 h2
 go_enter Tryz.func38, Tryz.ntmps38
 go_wp2_with fail
 go_loopw [5] (fun i wr => ∃ k : Nat, k ≤ n ∧ i = .int .i64 k ∧ Below w.heap.size w wr) (fun i _ => n - (intOf i).toNat)
 case atStart => exact ⟨0, Nat.zero_le _, rfl, Below.refl _ _⟩
 case round =>
  obtain ⟨k, hk, rfl, hB⟩ := hrel
  by_cases hlt : k < n
  ·
   have hlt' : (k : Int) < n := by omega
   obtain ⟨g, o, rfl, c1, c2, c3⟩ := (H1.out.up hB) k hlt
   obtain ⟨g2, o2, rfl, d1, d2, d3⟩ := (H2.out.up hB) k hlt
   go_wp2_with fail
   refine wp_region_held_drew (S := fun w' => w'.cell? ⟨g, o + k * 3, none⟩ = some (.int .i64 (f k).m) ∧ w'.cell? ⟨g, o + k * 3 + 1, none⟩ = some (.int .i64 (f k).p) ∧ w'.cell? ⟨g, o + k * 3 + 2, none⟩ = some (.int .i64 (f k).t) ∧ w'.cell? ⟨g2, o2 + k * 3, none⟩ = some (.int .i64 (f k).m) ∧ w'.cell? ⟨g2, o2 + k * 3 + 1, none⟩ = some (.int .i64 (f k).p) ∧ w'.cell? ⟨g2, o2 + k * 3 + 2, none⟩ = some (.int .i64 (f k).t)) (by kernel_rfl) ⟨c1, c2, c3, d1, d2, d3⟩ (fun hHeld => ?_)
   refine takeD (i := 0) (some 17) (v := ?_) rfl rfl (by kernel_rfl) (by kernel_rfl) (by kernel_rfl) (fun _ _ _ h => h) (by kernel_rfl) ?_ (by assumption) ?_
   rotate_left
   ·
    intro wx hSw
    obtain ⟨hS1, hS2, hS3, hS4, hS5, hS6⟩ := hSw
    go_simp
    try (with_reducible rfl)
   try simp only [Act.put, List.setIfInBounds_toArray, List.set_cons_zero, List.set_cons_succ]
   refine takeD (i := 1) (some 18) (v := ?_) rfl rfl (by kernel_rfl) (by kernel_rfl) (by kernel_rfl) (fun _ _ _ h => h) (by kernel_rfl) ?_ (by assumption) ?_
   rotate_left
   ·
    intro wx hSw
    obtain ⟨hS1, hS2, hS3, hS4, hS5, hS6⟩ := hSw
    go_simp
    try (with_reducible rfl)
   try simp only [Act.put, List.setIfInBounds_toArray, List.set_cons_zero, List.set_cons_succ]
   refine takeD (i := 2) (some 19) (v := ?_) rfl rfl (by kernel_rfl) (by kernel_rfl) (by kernel_rfl) (fun _ _ _ h => h) (by kernel_rfl) ?_ (by assumption) ?_
   rotate_left
   ·
    intro wx hSw
    obtain ⟨hS1, hS2, hS3, hS4, hS5, hS6⟩ := hSw
    go_simp
    try (with_reducible rfl)
   try simp only [Act.put, List.setIfInBounds_toArray, List.set_cons_zero, List.set_cons_succ]
   refine takeD (i := 3) (some 20) (v := ?_) rfl rfl (by kernel_rfl) (by kernel_rfl) (by kernel_rfl) (fun _ _ _ h => h) (by kernel_rfl) ?_ (by assumption) ?_
   rotate_left
   ·
    intro wx hSw
    obtain ⟨hS1, hS2, hS3, hS4, hS5, hS6⟩ := hSw
    go_simp
    try (with_reducible rfl)
   try simp only [Act.put, List.setIfInBounds_toArray, List.set_cons_zero, List.set_cons_succ]
   refine takeD (i := 4) (some 21) (v := ?_) rfl rfl (by kernel_rfl) (by kernel_rfl) (by kernel_rfl) (fun _ _ _ h => h) (by kernel_rfl) ?_ (by assumption) ?_
   rotate_left
   ·
    intro wx hSw
    obtain ⟨hS1, hS2, hS3, hS4, hS5, hS6⟩ := hSw
    go_simp
    try (with_reducible rfl)
   try simp only [Act.put, List.setIfInBounds_toArray, List.set_cons_zero, List.set_cons_succ]
   refine takeD (i := 5) (some 22) (v := ?_) rfl rfl (by kernel_rfl) (by kernel_rfl) (by kernel_rfl) (fun _ _ _ h => h) (by kernel_rfl) ?_ (by assumption) ?_
   rotate_left
   ·
    intro wx hSw
    obtain ⟨hS1, hS2, hS3, hS4, hS5, hS6⟩ := hSw
    go_simp
    try (with_reducible rfl)
   try simp only [Act.put, List.setIfInBounds_toArray, List.set_cons_zero, List.set_cons_succ]
   refine takeD (i := 6) (some 23) (v := ?_) rfl rfl (by kernel_rfl) (by kernel_rfl) (by kernel_rfl) (fun _ _ _ h => h) (by kernel_rfl) ?_ (by assumption) ?_
   rotate_left
   ·
    intro wx hSw
    obtain ⟨hS1, hS2, hS3, hS4, hS5, hS6⟩ := hSw
    go_simp
    try (with_reducible rfl)
   try simp only [Act.put, List.setIfInBounds_toArray, List.set_cons_zero, List.set_cons_succ]
   refine takeD (i := 7) (some 24) (v := ?_) rfl rfl (by kernel_rfl) (by kernel_rfl) (by kernel_rfl) (fun _ _ _ h => h) (by kernel_rfl) ?_ (by assumption) ?_
   rotate_left
   ·
    intro wx hSw
    obtain ⟨hS1, hS2, hS3, hS4, hS5, hS6⟩ := hSw
    go_simp
    try (with_reducible rfl)
   try simp only [Act.put, List.setIfInBounds_toArray, List.set_cons_zero, List.set_cons_succ]
   refine wpAnyH_ready (rs := [8]) (by kernel_rfl) (by simp) ?_
   refine AllReadyH.cons rfl (fun K hK => ?_) AllReadyH.nil
   go_simp
   refine (eqEntry_any _ _ _ _).mono ?_
   rintro e w1 ⟨rfl, hb1⟩
   have b1 : Below wr.heap.size wr w1 := (Below.refl _ _).drew.trans hb1
   have c1 := (b1.cell (p := ⟨g, o + k * 3, none⟩) (cellLt c1)).trans c1
   have c2 := (b1.cell (p := ⟨g, o + k * 3 + 1, none⟩) (cellLt c2)).trans c2
   have c3 := (b1.cell (p := ⟨g, o + k * 3 + 2, none⟩) (cellLt c3)).trans c3
   have d1 := (b1.cell (p := ⟨g2, o2 + k * 3, none⟩) (cellLt d1)).trans d1
   have d2 := (b1.cell (p := ⟨g2, o2 + k * 3 + 1, none⟩) (cellLt d2)).trans d2
   have d3 := (b1.cell (p := ⟨g2, o2 + k * 3 + 2, none⟩) (cellLt d3)).trans d3
   go_wp2_with fail
   refine hK.out _ _ ⟨c1, c2, c3, d1, d2, d3⟩ (fun hHeld => ?_)
   clear hK K
   try simp only [Act.put, List.setIfInBounds_toArray, List.set_cons_zero, List.set_cons_succ]
   refine takeD (i := 9) (some 26) (v := ?_) rfl rfl (by kernel_rfl) (by kernel_rfl) (by kernel_rfl) (fun _ _ _ h => h) (by kernel_rfl) ?_ (by assumption) ?_
   rotate_left
   ·
    intro wx hSw
    obtain ⟨hS1, hS2, hS3, hS4, hS5, hS6⟩ := hSw
    go_simp
    try (with_reducible rfl)
   try simp only [Act.put, List.setIfInBounds_toArray, List.set_cons_zero, List.set_cons_succ]
   refine wpAnyH_done (by kernel_rfl) ?_ _
   have HB : Hid (Below w.heap.size w w1) := hB.trans (b1.mono hB.size)
   clear b1 hb1 hB c1 c2 c3 d1 d2 d3 hHeld
   go_wp2_with fail
   go_roundw
   case rel => exact ⟨k + 1, by omega, by go_num, HB.out⟩
   case measure => simp [intOf]; omega
  ·
   obtain rfl : k = n := by omega
   go_wp2_with fail
   go_ret
   exact ⟨rfl, hB⟩
end Go.Proofs.YtlipielghpoaoaaGreat
namespace Go.Proofs.YtlipielghpoaoaaGreat
open Go.RowKit
set_option linter.unusedVariables false
set_option linter.unusedSimpArgs false

theorem three_laidR {w w1 : World} {A B C : Obj} (h : Below (((w.alloc A).alloc B).alloc C).heap.size (((w.alloc A).alloc B).alloc C) w1) :
  w1.heap[w.heap.size]? = some A ∧ w1.heap[w.heap.size + 1]? = some B ∧ w1.heap[w.heap.size + 1 + 1]? = some C ∧ Below w.heap.size w w1 ∧ w.heap.size + 3 ≤ w1.heap.size := by
 have e1 : (w.alloc A).heap.size = w.heap.size + 1 := by simp
 have e2 : ((w.alloc A).alloc B).heap.size = w.heap.size + 1 + 1 := by simp
 have e3 : (((w.alloc A).alloc B).alloc C).heap.size = w.heap.size + 1 + 1 + 1 := by simp
 rw [e3] at h
 have b1 := blk_new w A
 have b2 := blk_new (w.alloc A) B
 rw [e1] at b2
 have b3 := blk_new ((w.alloc A).alloc B) C
 rw [e2] at b3
 refine ⟨?_, ?_, ?_, ?_, ?_⟩
 ·
  rw [h.block _ (by omega), blk_old _ (by rw [e2]; omega), blk_old _ (by rw [e1]; omega)]; exact b1
 ·
  rw [h.block _ (by omega), blk_old _ (by rw [e2]; omega)]; exact b2
 ·
  rw [h.block _ (by omega)]; exact b3
 ·
  exact ((((Below.refl _ _).alloc (Nat.le_refl _) _).alloc (by rw [e1]; omega) _).alloc (by rw [e2]; omega) _).trans (h.mono (by omega))
 ·
  have := h.size
  omega
/-- the same round, in rows of its own -/
def Rnd.copy (R : Rnd) (gQ gD gS : Nat) (G : Nat → Nat) : Rnd :=
 ⟨some ⟨gQ, 0, none⟩, R.nQ, R.nQ, R.q, some ⟨gD, 0, none⟩, R.nD, R.nD, R.d, R.turn, R.fresh, some ⟨gS, 0, none⟩, R.nS, R.nS, fun i => some ⟨G i, 0, none⟩, R.L, R.L, R.z⟩
structure Copied (w : World) (R : Rnd) (gQ gD gS : Nat) (G : Nat → Nat) : Prop where
 q : RowTo gQ 2 R.nQ (fun i => .int .i64 (R.q i)) R.nQ w
 d : RowTo gD 2 R.nD (fun i => .int .i64 (R.d i)) R.nD w
 s : Rows2 w gS gS R.nS R.nS G R.L R.z
 lt : gQ < gD ∧ gD < gS
theorem Copied.rd {w : World} {R : Rnd} {gQ gD gS : Nat} {G : Nat → Nat} (h : Copied w R gQ gD gS G) : RdRnd w (R.copy gQ gD gS G) :=
 ⟨h.q.read, h.d.read, h.s.top.read, fun i hi => (h.s.row i hi).read⟩
theorem Copied.up {w w' : World} {R : Rnd} {gQ gD gS : Nat} {G : Nat → Nat} (h : Copied w R gQ gD gS G) (hb : Below w.heap.size w w') : Copied w' R gQ gD gS G :=
 ⟨h.q.keep (hb.block _ h.q.lt), h.d.keep (hb.block _ h.d.lt), h.s.keep hb, h.lt⟩
set_option maxHeartbeats 2000000 in
theorem toRound_any (R : Rnd) (w : World) (hs : R.Small) (h : RdRnd w R) :
  Calls Tryz.prog 103 #[.agg R.cells] w fun e w' => ∃ gQ gD gS G, e = .returned (.agg (R.copy gQ gD gS G).cells) ∧ w.heap.size ≤ gQ ∧ Copied w' R gQ gD gS G ∧ Below w.heap.size w w' := by
 obtain ⟨aQ, nQ, cQ, q, aD, nD, cD, d, turn, fresh, aS, nS, cS, A, L, C, z⟩ := R
 have HR : Hid (RdRnd w ⟨aQ, nQ, cQ, q, aD, nD, cD, d, turn, fresh, aS, nS, cS, A, L, C, z⟩) := h
 have HS : Hid (Rnd.Small ⟨aQ, nQ, cQ, q, aD, nD, cD, d, turn, fresh, aS, nS, cS, A, L, C, z⟩) := hs
 clear h hs
 unfold Rnd.cells
 go_enter Tryz.func103, Tryz.ntmps103
 go_wp2_with fail
 have HA : Hid (∀ A B C, Below w.heap.size w (((w.alloc A).alloc B).alloc C)) := fun A B C => (((Below.refl _ _).alloc (Nat.le_refl _) _).alloc (by simp) _).alloc (by simp; omega) _
 have e3 : ∀ A B C, (((w.alloc A).alloc B).alloc C).heap.size = w.heap.size + 1 + 1 + 1 := fun A B C => by simp
 refine (toInts_any aQ nQ cQ q _ HS.out.q (HR.out.q.up (HA.out _ _ _))).mono ?_
 rintro e w1 ⟨rfl, hN, hb1⟩
 obtain ⟨kA, kB, kC, B1, z1⟩ := three_laidR hb1
 rw [e3] at hN
 have cA := blk_cell kA
 have cC := blk_cell kC
 have fC := blk_free kC
 have lN := hN.lt
 clear hb1 HA
 go_wp2_with fail
 obtain ⟨v1, hv1⟩ : ∃ v1 : Value, v1 = .slice (some ⟨w.heap.size + 1 + 1 + 1, 0, none⟩) nQ nQ := ⟨_, rfl⟩
 have kA' := (blk_set_ne (w := w1) (g := w.heap.size + 1 + 1) (k := w.heap.size) (i := 0) (by omega) v1).trans kA
 have kB' := (blk_set_ne (w := w1) (g := w.heap.size + 1 + 1) (k := w.heap.size + 1) (i := 0) (by omega) v1).trans kB
 have kC' : (w1.setCell ⟨w.heap.size + 1 + 1, 0, none⟩ v1).heap[w.heap.size + 1 + 1]? = some (.cells #[v1, .slice none 0 0, .int .i64 0, .bool false, .slice none 0 0] 65 (0, 0)) := blk_set kC _
 have hN' := hN.keep (blk_set_ne (w := w1) (g := w.heap.size + 1 + 1) (k := w.heap.size + 1 + 1 + 1) (i := 0) (by omega) v1)
 have B1' := B1.setCell (p := ⟨w.heap.size + 1 + 1, 0, none⟩) (by show _ ≤ _ + 1 + 1; omega) v1
 have hz3 : (w1.setCell ⟨w.heap.size + 1 + 1, 0, none⟩ v1).heap.size = w1.heap.size := by simp [World.setCell]
 rw [← hv1]
 generalize w1.setCell ⟨w.heap.size + 1 + 1, 0, none⟩ v1 = W at *
 clear kA kB kC cA cC fC hN B1
 refine (toInts_any aD nD cD d _ HS.out.d (HR.out.d.up B1')).mono ?_
 rintro e w2 ⟨rfl, hD, hb2⟩
 rw [hz3] at hD hb2
 have kA2 := (hb2.block _ (by omega)).trans kA'
 have kB2 := (hb2.block _ (by omega)).trans kB'
 have kC2 := (hb2.block _ (by omega)).trans kC'
 have hN2 := hN'.keep (hb2.block _ (by omega))
 have B2 : Below w.heap.size w w2 := B1'.trans (hb2.mono (by omega))
 have cA := blk_cell kA2
 have cC := blk_cell kC2
 have fC := blk_free kC2
 have lD := hD.lt
 have hzW : w1.heap.size < w2.heap.size := lD
 clear hb2 kA' kB' kC' hN' B1'
 go_wp2_with fail
 obtain ⟨v2, hv2⟩ : ∃ v2 : Value, v2 = .slice (some ⟨w1.heap.size, 0, none⟩) nD nD := ⟨_, rfl⟩
 rw [← hv2]
 have t1 := blk_set (i := 1) kC2 v2
 have t2 := blk_set (i := 2) t1 (.int .i64 turn)
 have t3 := blk_set (i := 3) t2 (.bool fresh)
 have hne : ∀ (k : Nat), k ≠ w.heap.size + 1 + 1 → (((w2.setCell ⟨w.heap.size + 1 + 1, 1, none⟩ v2).setCell ⟨w.heap.size + 1 + 1, 2, none⟩ (.int .i64 turn)).setCell ⟨w.heap.size + 1 + 1, 3, none⟩ (.bool fresh)).heap[k]? = w2.heap[k]? := fun k hk => by
  rw [blk_set_ne hk, blk_set_ne hk, blk_set_ne hk]
 have kA3 := (hne w.heap.size (by omega)).trans kA2
 have kB3 := (hne (w.heap.size + 1) (by omega)).trans kB2
 have hN3 := hN2.keep (hne (w.heap.size + 1 + 1 + 1) (by omega))
 have hD3 := hD.keep (hne w1.heap.size (by omega))
 have B3 := ((B2.setCell (p := ⟨w.heap.size + 1 + 1, 1, none⟩) (by show _ ≤ _ + 1 + 1; omega) v2).setCell (p := ⟨w.heap.size + 1 + 1, 2, none⟩) (by show _ ≤ _ + 1 + 1; omega) (.int .i64 turn)).setCell (p := ⟨w.heap.size + 1 + 1, 3, none⟩) (by show _ ≤ _ + 1 + 1; omega) (.bool fresh)
 have hz4 : (((w2.setCell ⟨w.heap.size + 1 + 1, 1, none⟩ v2).setCell ⟨w.heap.size + 1 + 1, 2, none⟩ (.int .i64 turn)).setCell ⟨w.heap.size + 1 + 1, 3, none⟩ (.bool fresh)).heap.size = w2.heap.size := by simp [World.setCell]
 have t3' : (((w2.setCell ⟨w.heap.size + 1 + 1, 1, none⟩ v2).setCell ⟨w.heap.size + 1 + 1, 2, none⟩ (.int .i64 turn)).setCell ⟨w.heap.size + 1 + 1, 3, none⟩ (.bool fresh)).heap[w.heap.size + 1 + 1]? = some (.cells #[v1, v2, .int .i64 turn, .bool fresh, .slice none 0 0] 65 (0, 0)) := t3
 clear t1 t2 t3 hne kA2 kB2 kC2 hN2 hD B2 cA cC fC
 generalize ((w2.setCell ⟨w.heap.size + 1 + 1, 1, none⟩ v2).setCell ⟨w.heap.size + 1 + 1, 2, none⟩ (.int .i64 turn)).setCell ⟨w.heap.size + 1 + 1, 3, none⟩ (.bool fresh) = W2 at *
 refine (toIntss_any aS nS cS A L C z _ HS.out.s (HR.out.s.up B3) (fun i hi => (HR.out.z i hi).up B3) HS.out.l).mono ?_
 rintro e w3 ⟨G, rfl, hG, hb3⟩
 rw [hz4] at hG hb3
 have kA4 := (hb3.block _ (by omega)).trans kA3
 have kB4 := (hb3.block _ (by omega)).trans kB3
 have kC4 := (hb3.block _ (by omega)).trans t3'
 have hN4 := hN3.keep (hb3.block _ (by omega))
 have hD4 := hD3.keep (hb3.block _ (by omega))
 have B4 : Below w.heap.size w w3 := B3.trans (hb3.mono (by omega))
 have cB := blk_cell kB4
 have cC := blk_cell kC4
 have fB := blk_free kB4
 have fC := blk_free kC4
 have hW0 : w.heap.size + 1 + 1 + 1 < w1.heap.size := lN
 subst hv1
 subst hv2
 clear hb3 kA3 kB3 t3' hN3 hD3 B3 kA4
 go_wp2_with fail
 refine bodyPost_ret (v := .agg #[.slice (some ⟨w.heap.size + 1 + 1 + 1, 0, none⟩) nQ nQ, .slice (some ⟨w1.heap.size, 0, none⟩) nD nD, .int .i64 turn, .bool fresh, .slice (some ⟨w2.heap.size, 0, none⟩) nS nS]) (by simp [results, Tryz.results103, go_sem, cB]) rfl ⟨w.heap.size + 1 + 1 + 1, w1.heap.size, w2.heap.size, G, rfl, by omega, ?_, ?_⟩
 ·
  have hk : ∀ j, j ≠ w.heap.size + 1 → j ≠ w.heap.size + 1 + 1 → ∀ (x0 x1 x2 x3 x4 x5 : Value), (((((((w3.setCell ⟨w.heap.size + 1 + 1, 4, none⟩ x0).setCell ⟨w.heap.size + 1, 0, none⟩ x1).setCell ⟨w.heap.size + 1, 1, none⟩ x2).setCell ⟨w.heap.size + 1, 2, none⟩ x3).setCell ⟨w.heap.size + 1, 3, none⟩ x4).setCell ⟨w.heap.size + 1, 4, none⟩ x5)).heap[j]? = w3.heap[j]? := fun j h1 h2 x0 x1 x2 x3 x4 x5 => by
   rw [blk_set_ne h1, blk_set_ne h1, blk_set_ne h1, blk_set_ne h1, blk_set_ne h1, blk_set_ne h2]
  refine ⟨hN4.keep (hk _ (by omega) (by omega) _ _ _ _ _ _), hD4.keep (hk _ (by omega) (by omega) _ _ _ _ _ _), ⟨hG.top.keep (hk _ (by omega) (by omega) _ _ _ _ _ _), hG.low, fun i hi => (hG.row i hi).keep (hk _ ?_ ?_ _ _ _ _ _ _), hG.inc⟩, ⟨by omega, by omega⟩⟩
  ·
   have := hG.low i hi; omega
  ·
   have := hG.low i hi; omega
 ·
  exact (((((B4.setCell (by show _ ≤ _ + 1 + 1; omega) _).setCell (by show _ ≤ _ + 1; omega) _).setCell (by show _ ≤ _ + 1; omega) _).setCell (by show _ ≤ _ + 1; omega) _).setCell (by show _ ≤ _ + 1; omega) _).setCell (by show _ ≤ _ + 1; omega) _

set_option maxHeartbeats 1000000 in
theorem eqRound_any (R1 R2 : Rnd) (w : World) (hs : R1.Small) (h1 : RdRnd w R1) (h2 : RdRnd w R2) (eQ : R2.nQ = R1.nQ) (eq : R2.q = R1.q) (eD : R2.nD = R1.nD) (ed : R2.d = R1.d) (et : R2.turn = R1.turn) (ef : R2.fresh = R1.fresh) (eS : R2.nS = R1.nS) (eL : R2.L = R1.L) (ez : R2.z = R1.z) :
  Calls Tryz.prog 118 #[.agg R1.cells, .agg R2.cells] w fun e w' => e = .returned (.bool true) ∧ Below w.heap.size w w' := by
 obtain ⟨aQ, nQ, cQ, q, aD, nD, cD, d, turn, fresh, aS, nS, cS, A, L, C, z⟩ := R1
 obtain ⟨aQ2, nQ2, cQ2, q2, aD2, nD2, cD2, d2, turn2, fresh2, aS2, nS2, cS2, A2, L2, C2, z2⟩ := R2
 dsimp only at eQ eq eD ed et ef eS eL ez
 subst eQ eq eD ed et ef eS eL ez
 have H1 : Hid (RdRnd w ⟨aQ, _, cQ, _, aD, _, cD, _, _, _, aS, _, cS, A, _, C, _⟩) := h1
 have H2 : Hid (RdRnd w ⟨aQ2, _, cQ2, _, aD2, _, cD2, _, _, _, aS2, _, cS2, A2, _, C2, _⟩) := h2
 have HS : Hid (Rnd.Small ⟨aQ, _, cQ, _, aD, _, cD, _, _, _, aS, _, cS, A, _, C, _⟩) := hs
 clear h1 h2 hs
 have HA : Hid (∀ o1 o2, Below w.heap.size w ((w.alloc o1).alloc o2)) := fun o1 o2 => (((Below.refl _ _).alloc (Nat.le_refl _) _).alloc (by simp) _)
 unfold Rnd.cells
 go_enter Tryz.func118, Tryz.ntmps118
 go_wp2_with fail
 refine (eqInts_any _ _ _ _ _ _ _ HS.out.q (H1.out.q.up (HA.out _ _)) (H2.out.q.up (HA.out _ _))).mono ?_
 rintro e w1 ⟨rfl, hS1⟩
 have c1 := fun (b : Nat) (i : Nat) => hS1.cell ⟨b, i, none⟩
 have b1 := (HA.out _ _).trans (hS1.below _)
 go_wp2_with fail
 refine (eqInts_any _ _ _ _ _ _ _ HS.out.d (H1.out.d.up b1) (H2.out.d.up b1)).mono ?_
 rintro e w2 ⟨rfl, hS2⟩
 have c2 := fun (b : Nat) (i : Nat) => hS2.cell ⟨b, i, none⟩
 have b2 := b1.trans (hS2.below _)
 go_wp2_with fail
 refine (eqIntss_any _ _ _ _ _ _ _ _ _ _ _ _ HS.out.s HS.out.l (H1.out.s.up b2) (H2.out.s.up b2) (fun i hi => (H1.out.z i hi).up b2) (fun i hi => (H2.out.z i hi).up b2)).mono ?_
 rintro e w3 ⟨rfl, hS3⟩
 have c3 := fun (b : Nat) (i : Nat) => hS3.cell ⟨b, i, none⟩
 have b3 := b2.trans (hS3.below _)
 go_wp2_with fail
 go_ret
 exact ⟨rfl, b3⟩
end Go.Proofs.YtlipielghpoaoaaGreat
namespace Go.Proofs.YtlipielghpoaoaaGreat
open Go.RowKit
set_option linter.unusedVariables false
set_option linter.unusedSimpArgs false

/-- a slice of numbers that owns its row, or has none -/
def VI (w : World) (base : Nat) (a : Option Addr) (n : Nat) (f : Nat → Int) : Prop := n = 0 ∨ ∃ g, a = some ⟨g, 0, none⟩ ∧ base ≤ g ∧ RowTo g 2 n (fun i => .int .i64 (f i)) n w
def blkI (a : Option Addr) (n : Nat) : List Nat := if n = 0 then [] else (a.map (·.block)).toList
def apartI (a : Option Addr) (n : Nat) (a' : Option Addr) (n' : Nat) : Prop := ∀ x ∈ blkI a n, x ∉ blkI a' n'
theorem apartI.symm {a a' : Option Addr} {n n' : Nat} (h : apartI a n a' n') : apartI a' n' a n := fun x hx hy => h x hy hx
theorem VI.read {w : World} {base : Nat} {a : Option Addr} {n : Nat} {f : Nat → Int} (h : VI w base a n f) : RdRow w a n fun i => .int .i64 (f i) := by
 rcases h with rfl | ⟨g, rfl, _, hr⟩
 ·
  exact RdRow.nil _ _ _
 ·
  exact hr.read
theorem VI.up {w w' : World} {base : Nat} {a : Option Addr} {n : Nat} {f : Nat → Int} (h : VI w base a n f) (hb : Below w.heap.size w w') : VI w' base a n f :=
 h.imp id (by rintro ⟨g, ha, hg, hr⟩; exact ⟨g, ha, hg, hr.keep (hb.block _ hr.lt)⟩)
theorem VI.mono {w : World} {base base' : Nat} {a : Option Addr} {n : Nat} {f : Nat → Int} (h : VI w base a n f) (hb : base' ≤ base) : VI w base' a n f :=
 h.imp id (by rintro ⟨g, ha, hg, hr⟩; exact ⟨g, ha, by omega, hr⟩)
theorem blkI_mem {g n : Nat} (h : n ≠ 0) : g ∈ blkI (some ⟨g, 0, none⟩) n := by unfold blkI; rw [if_neg h]; simp
theorem VI.touchS {w w' : World} {base : Nat} {a : Option Addr} {n : Nat} {f : Nat → Int} {S : List Nat} (h : VI w base a n f) (ht : Touch S w w') (hp : ∀ x ∈ blkI a n, x ∉ S) : VI w' base a n f := by
 rcases h with h | ⟨g, rfl, hg, hr⟩
 ·
  exact .inl h
 ·
  by_cases h0 : n = 0
  ·
   exact .inl h0
  exact .inr ⟨g, rfl, hg, hr.keep (ht.block g hr.lt (hp g (blkI_mem h0)))⟩
theorem VI.blk {w : World} {base : Nat} {a : Option Addr} {n : Nat} {f : Nat → Int} (h : VI w base a n f) : ∀ x ∈ blkI a n, base ≤ x ∧ x < w.heap.size := by
 intro x hx
 unfold blkI at hx
 split at hx
 ·
  simp at hx
 ·
  rcases h with h | ⟨g, rfl, hg, hr⟩
  ·
   contradiction
  ·
   simp at hx; subst hx; exact ⟨hg, hr.lt⟩
/-- how many lie ahead of row i -/
def sumL (L : Nat → Nat) : Nat → Nat
 | 0 => 0
 | k + 1 => sumL L k + L k
end Go.Proofs.YtlipielghpoaoaaGreat
namespace Go.Proofs.YtlipielghpoaoaaGreat
open Go.RowKit
set_option linter.unusedVariables false
set_option linter.unusedSimpArgs false

/-- a slice of slices that owns its row -/
def VS (w : World) (base : Nat) (a : Option Addr) (n : Nat) (F : Nat → Value) : Prop := n = 0 ∨ ∃ g, a = some ⟨g, 0, none⟩ ∧ base ≤ g ∧ RowTo g 25 n F n w
theorem VS.up {w w' : World} {base : Nat} {a : Option Addr} {n : Nat} {F : Nat → Value} (h : VS w base a n F) (hb : Below w.heap.size w w') : VS w' base a n F :=
 h.imp id (by rintro ⟨g, ha, hg, hr⟩; exact ⟨g, ha, hg, hr.keep (hb.block _ hr.lt)⟩)
theorem VS.mono {w : World} {base base' : Nat} {a : Option Addr} {n : Nat} {F : Nat → Value} (h : VS w base a n F) (hb : base' ≤ base) : VS w base' a n F :=
 h.imp id (by rintro ⟨g, ha, hg, hr⟩; exact ⟨g, ha, by omega, hr⟩)
theorem VS.read {w : World} {base : Nat} {a : Option Addr} {n : Nat} {F : Nat → Value} (h : VS w base a n F) : RdRow w a n F := by
 rcases h with rfl | ⟨g, rfl, _, hr⟩
 ·
  exact RdRow.nil _ _ _
 ·
  exact hr.read
def zRound : Array Value := #[.slice none 0 0, .slice none 0 0, .int .i64 0, .bool false, .slice none 0 0]
/-- what a round's making has laid: the empty row, the quanta, the deficits, the sizes, the round's own place -/
structure Mk (n : Nat) (f : Nat → Int) (w W : World) (E : Option Nat) (Q : Option (Option Addr)) (D S B : Option Nat) : Prop where
 below : Below w.heap.size w W
 e : ∀ g, E = some g → w.heap.size ≤ g ∧ W.heap[g]? = some (.cells #[] 2 (0, 0))
 q : ∀ a, Q = some a → VI W w.heap.size a n f
 d : ∀ g, D = some g → VI W w.heap.size (some ⟨g, 0, none⟩) n (fun _ => 0)
 s : ∀ g, S = some g → VS W w.heap.size (some ⟨g, 0, none⟩) n (fun _ => .slice none 0 0)
 b : ∀ g, B = some g → w.heap.size ≤ g ∧ W.heap[g]? = some (.cells zRound 65 (0, 0))
 qd : ∀ a g, Q = some a → D = some g → apartI a n (some ⟨g, 0, none⟩) n
theorem Mk.start {n : Nat} {f : Nat → Int} {w W : World} (h : Below w.heap.size w W) : Mk n f w W none none none none none :=
 ⟨h, fun _ e => by simp at e, fun _ e => by simp at e, fun _ e => by simp at e, fun _ e => by simp at e, fun _ e => by simp at e, fun _ _ e => by simp at e⟩
theorem Mk.up {n : Nat} {f : Nat → Int} {w W W' : World} {E : Option Nat} {Q : Option (Option Addr)} {D S B : Option Nat} (h : Mk n f w W E Q D S B) (hb : Below W.heap.size W W') : Mk n f w W' E Q D S B where
 below := h.below.trans (hb.mono h.below.size)
 e := fun g e => ⟨(h.e g e).1, (hb.block _ (blk_lt (h.e g e).2)).trans (h.e g e).2⟩
 q := fun a e => (h.q a e).up hb
 d := fun g e => (h.d g e).up hb
 s := fun g e => (h.s g e).up hb
 b := fun g e => ⟨(h.b g e).1, (hb.block _ (blk_lt (h.b g e).2)).trans (h.b g e).2⟩
 qd := h.qd
end Go.Proofs.YtlipielghpoaoaaGreat
namespace Go.Proofs.YtlipielghpoaoaaGreat
open Go.RowKit
set_option linter.unusedVariables false
set_option linter.unusedSimpArgs false

/-- a round that owns its rows -/
structure OwnRn (w : World) (base : Nat) (R : Rnd) : Prop where
 q : VI w base R.aQ R.nQ R.q
 d : VI w base R.aD R.nD R.d
 s : VS w base R.aS R.nS fun i => .slice (R.A i) (R.L i) (R.C i)
 z : ∀ i, i < R.nS → VI w base (R.A i) (R.L i) (R.z i)
 qd : apartI R.aQ R.nQ R.aD R.nD
 qz : ∀ i, i < R.nS → apartI R.aQ R.nQ (R.A i) (R.L i)
 dz : ∀ i, i < R.nS → apartI R.aD R.nD (R.A i) (R.L i)
 zz : ∀ i j, i < R.nS → j < R.nS → i ≠ j → apartI (R.A i) (R.L i) (R.A j) (R.L j)
theorem OwnRn.rd {w : World} {base : Nat} {R : Rnd} (h : OwnRn w base R) : RdRnd w R := ⟨h.q.read, h.d.read, h.s.read, fun i hi => (h.z i hi).read⟩
theorem OwnRn.up {w w' : World} {base : Nat} {R : Rnd} (h : OwnRn w base R) (hb : Below w.heap.size w w') : OwnRn w' base R :=
 ⟨h.q.up hb, h.d.up hb, h.s.up hb, fun i hi => (h.z i hi).up hb, h.qd, h.qz, h.dz, h.zz⟩
theorem OwnRn.mono {w : World} {base base' : Nat} {R : Rnd} (h : OwnRn w base R) (hb : base' ≤ base) : OwnRn w base' R :=
 ⟨h.q.mono hb, h.d.mono hb, h.s.mono hb, fun i hi => (h.z i hi).mono hb, h.qd, h.qz, h.dz, h.zz⟩
/-- .. and is not written where all that is written lies ahead of it -/
theorem OwnRn.touch {w w' : World} {base : Nat} {R : Rnd} {S : List Nat} (h : OwnRn w base R) (ht : Touch S w w') (hS : ∀ x ∈ S, x < base) : OwnRn w' base R :=
 have key : ∀ {a : Option Addr} {n : Nat} {f : Nat → Int}, VI w base a n f → VI w' base a n f := fun hv => hv.touchS ht (fun x hx hx2 => by
  have h1 := (hv.blk x hx).1
  have h2 := hS x hx2
  omega)
 ⟨key h.q, key h.d, h.s.imp id (by
  rintro ⟨g, ha, hg, hr⟩
  exact ⟨g, ha, hg, hr.keep (ht.block g hr.lt (fun hx => by have := hS g hx; omega))⟩), fun i hi => key (h.z i hi), h.qd, h.qz, h.dz, h.zz⟩
def newR (n : Nat) (f : Nat → Int) (aQ : Option Addr) (cQ gD gS : Nat) : Rnd :=
 ⟨aQ, n, cQ, f, some ⟨gD, 0, none⟩, n, n, fun _ => 0, 0, true, some ⟨gS, 0, none⟩, n, n, fun _ => none, fun _ => 0, fun _ => 0, fun _ _ => 0⟩
/-- alike but for where they lie -/
structure Alike (R1 R2 : Rnd) : Prop where
 nQ : R2.nQ = R1.nQ
 q : R2.q = R1.q
 nD : R2.nD = R1.nD
 d : R2.d = R1.d
 t : R2.turn = R1.turn
 f : R2.fresh = R1.fresh
 nS : R2.nS = R1.nS
 l : R2.L = R1.L
 z : R2.z = R1.z
theorem Alike.refl (R : Rnd) : Alike R R := ⟨rfl, rfl, rfl, rfl, rfl, rfl, rfl, rfl, rfl⟩
theorem Alike.symm {A B : Rnd} (h : Alike A B) : Alike B A := ⟨h.nQ.symm, h.q.symm, h.nD.symm, h.d.symm, h.t.symm, h.f.symm, h.nS.symm, h.l.symm, h.z.symm⟩
theorem Alike.trans {A B C : Rnd} (h : Alike A B) (k : Alike B C) : Alike A C := ⟨k.nQ.trans h.nQ, k.q.trans h.q, k.nD.trans h.nD, k.d.trans h.d, k.t.trans h.t, k.f.trans h.f, k.nS.trans h.nS, k.l.trans h.l, k.z.trans h.z⟩
/-- five cells written over -/
def put5 (w : World) (g : Nat) (v0 v1 v2 v3 v4 : Value) : World := ((((w.setCell ⟨g, 0, none⟩ v0).setCell ⟨g, 1, none⟩ v1).setCell ⟨g, 2, none⟩ v2).setCell ⟨g, 3, none⟩ v3).setCell ⟨g, 4, none⟩ v4
theorem put5_touch (w : World) (g : Nat) (v0 v1 v2 v3 v4 : Value) : Touch [g] w (put5 w g v0 v1 v2 v3 v4) :=
 (((((Touch.refl [g] w).set (by simp) 0 v0).set (by simp) 1 v1).set (by simp) 2 v2).set (by simp) 3 v3).set (by simp) 4 v4
theorem put5_blk {w : World} {g : Nat} {x0 x1 x2 x3 x4 : Value} {t : TypeId} (h : w.heap[g]? = some (.cells #[x0, x1, x2, x3, x4] t (0, 0))) (v0 v1 v2 v3 v4 : Value) : (put5 w g v0 v1 v2 v3 v4).heap[g]? = some (.cells #[v0, v1, v2, v3, v4] t (0, 0)) :=
 blk_set (i := 4) (blk_set (i := 3) (blk_set (i := 2) (blk_set (i := 1) (blk_set (i := 0) h v0) v1) v2) v3) v4
/-- the round lies in its place -/
structure Made (n : Nat) (f : Nat → Int) (w W : World) (aQ : Option Addr) (cQ gD gS gB : Nat) : Prop where
 below : Below w.heap.size w W
 own : OwnRn W w.heap.size (newR n f aQ cQ gD gS)
 lo : w.heap.size ≤ gB
 b : W.heap[gB]? = some (.cells #[.slice aQ n cQ, .slice (some ⟨gD, 0, none⟩) n n, .int .i64 0, .bool true, .slice (some ⟨gS, 0, none⟩) n n] 65 (0, 0))
theorem Mk.made {n : Nat} {f : Nat → Int} {w W : World} {aQ : Option Addr} {gD gS gB : Nat} (cQ : Nat) (h : Mk n f w W none (some aQ) (some gD) (some gS) (some gB)) :
  Made n f w (put5 W gB (.slice aQ n cQ) (.slice (some ⟨gD, 0, none⟩) n n) (.int .i64 0) (.bool true) (.slice (some ⟨gS, 0, none⟩) n n)) aQ cQ gD gS gB := by
 have hb := h.b gB rfl
 have ht := put5_touch W gB (.slice aQ n cQ) (.slice (some ⟨gD, 0, none⟩) n n) (.int .i64 0) (.bool true) (.slice (some ⟨gS, 0, none⟩) n n)
 have key : ∀ {a : Option Addr} {m : Nat} {z : Nat → Int}, VI W w.heap.size a m z → ∀ x ∈ blkI a m, x ∉ [gB] := by
  intro a m z hv x hx hx2
  simp at hx2
  subst hx2
  unfold blkI at hx
  split at hx
  ·
   simp at hx
  ·
   rename_i h0
   rcases hv with h1 | ⟨g', rfl, _, arr, h2, _⟩
   ·
    exact h0 h1
   ·
    simp at hx
    subst hx
    rw [hb.2] at h2
    simp at h2
 refine ⟨h.below.trans (ht.below h.below.size (fun x hx => by simp at hx; subst hx; exact hb.1)), ⟨(h.q aQ rfl).touchS ht (key (h.q aQ rfl)), (h.d gD rfl).touchS ht (key (h.d gD rfl)), (h.s gS rfl).imp id ?_, fun i _ => .inl rfl, h.qd aQ gD rfl rfl, fun i _ x _ hx => ?_, fun i _ x _ hx => ?_, fun i j _ _ _ x hx => ?_⟩, hb.1, put5_blk hb.2 _ _ _ _ _⟩
 ·
  rintro ⟨g, ha, hg, hr⟩
  refine ⟨g, ha, hg, hr.keep (ht.block g hr.lt ?_)⟩
  intro hx
  simp at hx
  subst hx
  obtain ⟨arr, h2, _⟩ := hr
  rw [hb.2] at h2
  simp at h2
 ·
  simp [blkI, newR] at hx
 ·
  simp [blkI, newR] at hx
 ·
  simp [blkI, newR] at hx
end Go.Proofs.YtlipielghpoaoaaGreat
namespace Go.Proofs.YtlipielghpoaoaaGreat
open Go.RowKit
set_option linter.unusedVariables false
set_option linter.unusedSimpArgs false

theorem szIntsS_any (a : Option Addr) (n cap : Nat) (left : Int) (w : World) (hn : n ≤ maxLen) (h0 : 0 ≤ left) (h1 : left ≤ 1048576) :
  Calls Tryz.prog 53 #[.slice a n cap, .int .i64 left] w fun e w' => (∃ r : Int, e = .returned (.int .i64 r) ∧ (r = -1 ∨ 0 ≤ r ∧ r ≤ left ∧ n ≤ 1048576 ∧ r + n ≤ left)) ∧ w = w' := by
 have hm : (n : Int) ≤ 9223372036854775807 := by unfold maxLen at hn; omega
 by_cases h : left - n < 0
 ·
  go_enter Tryz.func53, Tryz.ntmps53
  go_wp2_with fail
  go_ret
  exact ⟨⟨_, rfl, .inl rfl⟩, rfl⟩
 ·
  go_enter Tryz.func53, Tryz.ntmps53
  go_wp2_with fail
  go_ret
  exact ⟨⟨_, rfl, .inr (by omega)⟩, rfl⟩

theorem szIntssS_any (a : Option Addr) (n cap : Nat) (A : Nat → Option Addr) (L C : Nat → Nat) (left : Int) (w : World) (hn : n ≤ maxLen) (h0 : 0 ≤ left) (h1 : left ≤ 1048576) (h : RdRow w a n fun i => .slice (A i) (L i) (C i)) (hl : ∀ i, i < n → L i ≤ maxLen) :
  Calls Tryz.prog 98 #[.slice a n cap, .int .i64 left] w fun e w' => (∃ r : Int, e = .returned (.int .i64 r) ∧ (r = -1 ∨ 0 ≤ r ∧ r ≤ left ∧ n ≤ 1048576 ∧ (∀ i, i < n → L i ≤ 1048576) ∧ r + (sumL L n : Nat) ≤ left)) ∧ w = w' := by
 have hm : (n : Int) ≤ 9223372036854775807 := by unfold maxLen at hn; omega
 have HR : Hid (RdRow w a n fun i => .slice (A i) (L i) (C i)) := h
 have HL : Hid (∀ i, i < n → L i ≤ maxLen) := hl
 clear h hl
 by_cases h2 : left - n < 0
 ·
  go_enter Tryz.func98, Tryz.ntmps98
  go_wp2_with fail
  go_ret
  exact ⟨⟨_, rfl, .inl rfl⟩, rfl⟩
 ·
  go_enter Tryz.func98, Tryz.ntmps98
  go_wp2_with fail
  go_loop [1, 5] (fun x i => ∃ (k : Nat) (r : Int), k ≤ n ∧ i = .int .i64 k ∧ x = .int .i64 r ∧ 0 ≤ r ∧ r ≤ left ∧ (∀ j, j < k → L j ≤ 1048576) ∧ Hid (r + (sumL L k : Nat) ≤ left)) (fun _ i => n - (intOf i).toNat)
  case atStart => exact ⟨0, left - n, Nat.zero_le _, rfl, rfl, by omega, by omega, fun j hj => by omega, by show left - n + ((0 : Nat) : Int) ≤ left; omega⟩
  case round =>
   obtain ⟨k, r, hk, rfl, rfl, r0, r1, hall, hsum⟩ := hrel
   have HA : Hid (∀ j, j < k → L j ≤ 1048576) := hall
   clear hall
   by_cases hlt : k < n
   ·
    have hlt' : (k : Int) < n := by omega
    obtain ⟨g, o, rfl, hc⟩ := HR.out k hlt
    dsimp only at hc
    go_wp2_with fail
    refine (szIntsS_any (A k) (L k) (C k) r _ (HL.out k hlt) r0 (by omega)).mono ?_
    rintro e w1 ⟨⟨r', rfl, hr⟩, rfl⟩
    rcases hr with rfl | ⟨r0', r1', hn', hr9⟩
    ·
     go_wp2_with fail
     go_ret
     exact ⟨⟨_, rfl, .inl rfl⟩, rfl⟩
    ·
     have HN : Hid (L k ≤ 1048576) := hn'
     have HS9 : Hid (r' + (sumL L (k + 1) : Nat) ≤ left) := by
      show r' + ((sumL L k + L k : Nat) : Int) ≤ left
      have := hsum.out
      omega
     clear hr9 hsum
     have hr0 : ¬ r' < 0 := by omega
     clear hn'
     go_wp2_with fail
     go_round
     case rel => exact ⟨k + 1, r', by omega, by go_num, rfl, r0', by omega, fun j hj => by
      by_cases e : j = k
      ·
       subst e; exact HN.out
      ·
       exact HA.out j (by omega), HS9.out⟩
     case measure => simp [intOf]; omega
   ·
    obtain rfl : k = n := by omega
    go_wp2_with fail
    go_ret
    exact ⟨⟨_, rfl, .inr ⟨r0, r1, by omega, HA.out, hsum.out⟩⟩, rfl⟩

theorem vi_row {w : World} {base g n : Nat} {f : Nat → Int} (hb : base ≤ g) (h : RowTo g 2 n (fun i => .int .i64 (f i)) n w) : VI w base (some ⟨g, 0, none⟩) n f := .inr ⟨g, rfl, hb, h⟩
theorem apart_ne {g g' n n' : Nat} (h : g ≠ g') : apartI (some ⟨g, 0, none⟩) n (some ⟨g', 0, none⟩) n' := by
 intro x hx hy
 unfold blkI at hx hy
 split at hx
 ·
  simp at hx
 ·
  split at hy
  ·
   simp at hy
  ·
   simp at hx hy
   omega
theorem Copied.own {w : World} {R : Rnd} {gQ gD gS : Nat} {G : Nat → Nat} {base : Nat} (h : Copied w R gQ gD gS G) (hb : base ≤ gQ) : OwnRn w base (R.copy gQ gD gS G) := by
 have h1 := h.lt
 have hlo : ∀ i, i < R.nS → gS < G i := h.s.low
 refine ⟨vi_row hb h.q, vi_row (by omega) h.d, .inr ⟨gS, rfl, by omega, h.s.top⟩, fun i hi => vi_row (by have := hlo i hi; omega) (h.s.row i hi), apart_ne (by omega), fun i hi => apart_ne (by have := hlo i hi; omega), fun i hi => apart_ne (by have := hlo i hi; omega), fun i j hi hj hne => apart_ne ?_⟩
 rcases Nat.lt_or_gt_of_ne hne with h2 | h2
 ·
  have := h.s.inc i j h2 hj
  omega
 ·
  have := h.s.inc j i h2 hi
  omega
end Go.Proofs.YtlipielghpoaoaaGreat
namespace Go.Proofs.YtlipielghpoaoaaGreat
open Go.RowKit
set_option linter.unusedVariables false
set_option linter.unusedSimpArgs false

/-- a struct out of a row, of any type -/
theorem wpList_ldT {ops : Array Oper} {rest : List Oper} {o : Oper} {a : Act} {w : World} {Q : Exit → Act → World → Prop} (hg : o.guard = none) (ty : TypeId) (n : Nat) (d : TypeDesc) (hu : Tryz.prog.underlying ty = some d) (hd : d.isRow = true) (hi : (Tryz.prog.info? ty).map (·.size) = some n) (x : Operand) (ho : o.op = .load ty x) (b off : Nat) (hx : a.eval x = .pointer (some ⟨b, off, none⟩))
  (cs : Array Value) (hs : cs.size = n) (hc : ∀ j, j < n → w.cell? ⟨b, off + j, none⟩ = cs[j]?) (h : wpList Tryz.prog ops Q rest (a.put o.dst (.agg cs)) w) : wpList Tryz.prog ops Q (o :: rest) a w :=
 wpList_load_mid hg ty x ho b off hx cs.toList d (fun j v hv => by
  have hj : j < n := by
   have := (List.getElem?_eq_some_iff.1 hv).1
   rw [Array.length_toList] at this
   omega
  rw [hc j hj, ← Array.getElem?_toList]
  exact hv) hu hd (by rw [hi, Array.length_toList, hs]) (by rw [Array.toArray_toList]; exact h)
structure Lng.Fit (l : Lng) : Prop where
 t : l.nT ≤ maxLen
 u : l.nU ≤ maxLen
 z : ∀ i, i < l.nU → l.uL i ≤ maxLen
 r : l.R.Fit
structure Swg.Fit (S : Swg) : Prop where
 e : S.nE ≤ maxLen
 n : S.N.Fit
 k : S.nK ≤ maxLen
 b : ∀ i, i < S.nK → (S.K i).b.size ≤ maxLen
 l : S.nL ≤ maxLen
 ls : ∀ i, i < S.nL → (S.L i).Fit
def Rnd.tot (R : Rnd) : Nat := R.nQ + R.nD + sumL R.L R.nS
def Lng.tot (l : Lng) : Nat := l.nT + sumL l.uL l.nU + l.R.tot
def Swg.tot (S : Swg) : Nat := S.nE + (S.N.nU + S.N.nP) + S.nK + (S.nL + sumL (fun i => (S.L i).tot) S.nL)
theorem szRoundL_any (R : Rnd) (left : Int) (w : World) (h0 : 0 ≤ left) (h1 : left ≤ 1048576) (hf : R.Fit) (h : RdRnd w R) :
  Calls Tryz.prog 99 #[.agg R.cells, .int .i64 left] w fun e w' => (∃ r : Int, e = .returned (.int .i64 r) ∧ (r = -1 ∨ 0 ≤ r ∧ R.Small ∧ r + R.tot ≤ left)) ∧ Below w.heap.size w w' := by
 have HA : Hid (∀ o, Below w.heap.size w (w.alloc o)) := fun o => (Below.refl _ _).alloc (Nat.le_refl _) _
 have HR : Hid (RdRnd w R) := h
 have HF : Hid R.Fit := hf
 clear h hf
 unfold Rnd.cells
 go_enter Tryz.func99, Tryz.ntmps99
 go_wp2_with fail
 refine (szIntsS_any R.aQ R.nQ R.cQ left _ HF.out.q h0 h1).mono ?_
 rintro e w1 ⟨⟨r, rfl, hr⟩, rfl⟩
 rcases hr with rfl | ⟨r0, r1, hn1, hs1⟩
 ·
  go_wp2_with fail
  go_ret
  exact ⟨⟨_, rfl, .inl rfl⟩, HA.out _⟩
 have hr0 : ¬ r < 0 := by omega
 go_wp2_with fail
 refine (szIntsS_any R.aD R.nD R.cD r _ HF.out.d r0 (by omega)).mono ?_
 rintro e w2 ⟨⟨r2, rfl, hr2⟩, rfl⟩
 rcases hr2 with rfl | ⟨r20, r21, hn2, hs2⟩
 ·
  go_wp2_with fail
  go_ret
  exact ⟨⟨_, rfl, .inl rfl⟩, HA.out _⟩
 have hr20 : ¬ r2 < 0 := by omega
 go_wp2_with fail
 refine (szIntssS_any R.aS R.nS R.cS R.A R.L R.C r2 _ HF.out.s r20 (by omega) (HR.out.s.up (HA.out _)) HF.out.l).mono ?_
 rintro e w3 ⟨⟨r3, rfl, hr3⟩, rfl⟩
 rcases hr3 with rfl | ⟨r30, r31, hn3, hl3, hs3⟩
 ·
  go_wp2_with fail
  go_ret
  exact ⟨⟨_, rfl, .inl rfl⟩, HA.out _⟩
 have hr30 : ¬ r3 < 0 := by omega
 have HS : Hid R.Small := ⟨hn1, hn2, hn3, hl3⟩
 have HSu : Hid (r3 + R.tot ≤ left) := by show r3 + ((R.nQ + R.nD + sumL R.L R.nS : Nat) : Int) ≤ left; omega
 clear hl3 hs3 hs2 hs1
 go_wp2_with fail
 go_ret
 exact ⟨⟨_, rfl, .inr ⟨r30, HS.out, HSu.out⟩⟩, HA.out _⟩
theorem szBoolsS_any (a : Option Addr) (n cap : Nat) (left : Int) (w : World) (hn : n ≤ maxLen) (h0 : 0 ≤ left) (h1 : left ≤ 1048576) :
  Calls Tryz.prog 54 #[.slice a n cap, .int .i64 left] w fun e w' => (∃ r : Int, e = .returned (.int .i64 r) ∧ (r = -1 ∨ 0 ≤ r ∧ n ≤ 1048576 ∧ r + n ≤ left)) ∧ w = w' := by
 have hm : (n : Int) ≤ 9223372036854775807 := by unfold maxLen at hn; omega
 by_cases h : left - n < 0
 ·
  go_enter Tryz.func54, Tryz.ntmps54
  go_wp2_with fail
  go_ret
  exact ⟨⟨_, rfl, .inl rfl⟩, rfl⟩
 ·
  go_enter Tryz.func54, Tryz.ntmps54
  go_wp2_with fail
  go_ret
  exact ⟨⟨_, rfl, .inr (by omega)⟩, rfl⟩
theorem szEntsS_any (a : Option Addr) (n cap : Nat) (left : Int) (w : World) (hn : n ≤ maxLen) (h0 : 0 ≤ left) (h1 : left ≤ 1048576) :
  Calls Tryz.prog 14 #[.slice a n cap, .int .i64 left] w fun e w' => (∃ r : Int, e = .returned (.int .i64 r) ∧ (r = -1 ∨ 0 ≤ r ∧ n ≤ 1048576 ∧ r + n ≤ left)) ∧ w = w' := by
 have hm : (n : Int) ≤ 9223372036854775807 := by unfold maxLen at hn; omega
 by_cases h : left - n < 0
 ·
  go_enter Tryz.func14, Tryz.ntmps14
  go_wp2_with fail
  go_ret
  exact ⟨⟨_, rfl, .inl rfl⟩, rfl⟩
 ·
  go_enter Tryz.func14, Tryz.ntmps14
  go_wp2_with fail
  go_ret
  exact ⟨⟨_, rfl, .inr (by omega)⟩, rfl⟩
theorem szCountsL_any (N : Cnt) (left : Int) (w : World) (h0 : 0 ≤ left) (h1 : left ≤ 1048576) (hf : N.Fit) :
  Calls Tryz.prog 15 #[.agg N.cells, .int .i64 left] w fun e w' => (∃ r : Int, e = .returned (.int .i64 r) ∧ (r = -1 ∨ 0 ≤ r ∧ N.Small ∧ r + N.nU + N.nP ≤ left)) ∧ Below w.heap.size w w' := by
 have HA : Hid (∀ o, Below w.heap.size w (w.alloc o)) := fun o => (Below.refl _ _).alloc (Nat.le_refl _) _
 have HF : Hid N.Fit := hf
 clear hf
 unfold Cnt.cells
 go_enter Tryz.func15, Tryz.ntmps15
 go_wp2_with fail
 refine (szIntsS_any N.aU N.nU N.cU left _ HF.out.u h0 h1).mono ?_
 rintro e w1 ⟨⟨r, rfl, hr⟩, rfl⟩
 rcases hr with rfl | ⟨r0, r1, hn1, hs1⟩
 ·
  go_wp2_with fail
  go_ret
  exact ⟨⟨_, rfl, .inl rfl⟩, HA.out _⟩
 have hr0 : ¬ r < 0 := by omega
 go_wp2_with fail
 refine (szBoolsS_any N.aP N.nP N.cP r _ HF.out.p r0 (by omega)).mono ?_
 rintro e w2 ⟨⟨r2, rfl, hr2⟩, rfl⟩
 rcases hr2 with rfl | ⟨r20, hn2, hs2⟩
 ·
  go_wp2_with fail
  go_ret
  exact ⟨⟨_, rfl, .inl rfl⟩, HA.out _⟩
 have hr20 : ¬ r2 < 0 := by omega
 have HS : Hid (N.Small ∧ r2 + N.nU + N.nP ≤ left) := ⟨⟨hn1, hn2⟩, by omega⟩
 clear hs1 hs2
 go_wp2_with fail
 go_ret
 exact ⟨⟨_, rfl, .inr ⟨r20, HS.out.1, HS.out.2⟩⟩, HA.out _⟩
theorem szLane_any (l : Lng) (left : Int) (w : World) (h0 : 0 ≤ left) (h1 : left ≤ 1048576) (hf : l.Fit) (h : RdLg w l) :
  Calls Tryz.prog 56 #[.agg l.cells, .int .i64 left] w fun e w' => (∃ r : Int, e = .returned (.int .i64 r) ∧ (r = -1 ∨ 0 ≤ r ∧ l.Small ∧ r + l.tot ≤ left)) ∧ Below w.heap.size w w' := by
 have HR : Hid (RdLg w l) := h
 have HF : Hid l.Fit := hf
 obtain ⟨W, eW⟩ : ∃ W, w.alloc (.cells l.cells 96) = W := ⟨_, rfl⟩
 have hB : Below (w.heap.size + 1) (w.alloc (.cells l.cells 96)) W := by rw [eW]; exact Below.refl _ _
 have hb0 := under hB
 have kS := boxed hB
 have c1 : W.cell? ⟨w.heap.size, 1, none⟩ = some (.slice l.aT l.nT l.cT) := kS 1
 have c2 : W.cell? ⟨w.heap.size, 2, none⟩ = some (.slice l.aU l.nU l.cU) := kS 2
 have c3 : W.cell? ⟨w.heap.size, 3, none⟩ = some (.slice l.R.aQ l.R.nQ l.R.cQ) := kS 3
 have c4 : W.cell? ⟨w.heap.size, 4, none⟩ = some (.slice l.R.aD l.R.nD l.R.cD) := kS 4
 have c5 : W.cell? ⟨w.heap.size, 5, none⟩ = some (.int .i64 l.R.turn) := kS 5
 have c6 : W.cell? ⟨w.heap.size, 6, none⟩ = some (.bool l.R.fresh) := kS 6
 have c7 : W.cell? ⟨w.heap.size, 7, none⟩ = some (.slice l.R.aS l.R.nS l.R.cS) := kS 7
 have HB : Hid (Below w.heap.size w W) := hb0
 clear h hf kS hB hb0
 go_enter Tryz.func56, Tryz.ntmps56
 go_wp2_with fail
 clear eW
 refine (szIntsS_any l.aT l.nT l.cT left _ HF.out.t h0 h1).mono ?_
 rintro e w1 ⟨⟨r, rfl, hr⟩, rfl⟩
 rcases hr with rfl | ⟨r0, r1, hn1, hs1⟩
 ·
  go_wp2_with fail
  go_ret
  exact ⟨⟨_, rfl, .inl rfl⟩, HB.out⟩
 have hr0 : ¬ r < 0 := by omega
 go_wp2_with fail
 refine (szIntssS_any l.aU l.nU l.cU l.uA l.uL l.uC r _ HF.out.u r0 (by omega) (HR.out.u.up HB.out) HF.out.z).mono ?_
 rintro e w2 ⟨⟨r2, rfl, hr2⟩, rfl⟩
 rcases hr2 with rfl | ⟨r20, r21, hn2, hl2, hs2⟩
 ·
  go_wp2_with fail
  go_ret
  exact ⟨⟨_, rfl, .inl rfl⟩, HB.out⟩
 have hr20 : ¬ r2 < 0 := by omega
 have HL2 : Hid (∀ i, i < l.nU → l.uL i ≤ 1048576) := hl2
 clear hl2
 go_wp2_with fail
 refine (szRoundL_any l.R r2 _ r20 (by omega) HF.out.r (HR.out.r.up HB.out)).mono ?_
 rintro e w3 ⟨⟨r3, rfl, hr3⟩, hb3⟩
 have HB3 : Hid (Below w.heap.size w w3) := HB.out.trans (hb3.mono HB.out.size)
 clear hb3
 rcases hr3 with rfl | ⟨r30, hs, hs3⟩
 ·
  go_wp2_with fail
  go_ret
  exact ⟨⟨_, rfl, .inl rfl⟩, HB3.out⟩
 have hr30 : ¬ r3 < 0 := by omega
 have HS : Hid (l.Small ∧ r3 + l.tot ≤ left) := ⟨⟨hn1, hn2, HL2.out, hs⟩, by
  show r3 + ((l.nT + sumL l.uL l.nU + l.R.tot : Nat) : Int) ≤ left
  omega⟩
 clear hs hs3 hs2 hs1 c1 c2 c3 c4 c5 c6 c7
 go_wp2_with fail
 go_ret
 exact ⟨⟨_, rfl, .inr ⟨r30, HS.out.1, HS.out.2⟩⟩, HB3.out⟩
theorem infoLgL : (Tryz.prog.info? 96).map (·.size) = some 8 := by kernel_rfl
theorem infoPkL : (Tryz.prog.info? 92).map (·.size) = some 8 := by kernel_rfl
theorem sumL_succ (L : Nat → Nat) (k : Nat) : sumL L (k + 1) = sumL L k + L k := rfl
set_option maxHeartbeats 1000000 in
theorem szLanes_any (a : Option Addr) (n cap : Nat) (L : Nat → Lng) (left : Int) (w : World) (h0 : 0 ≤ left) (h1 : left ≤ 1048576) (hn : n ≤ maxLen) (hf : ∀ i, i < n → (L i).Fit) (h : RdLs w a n L) (hr : ∀ i, i < n → RdLg w (L i)) :
  Calls Tryz.prog 17 #[.slice a n cap, .int .i64 left] w fun e w' => (∃ r : Int, e = .returned (.int .i64 r) ∧ (r = -1 ∨ 0 ≤ r ∧ n ≤ 1048576 ∧ (∀ i, i < n → (L i).Small) ∧ r + (n + sumL (fun i => (L i).tot) n : Nat) ≤ left)) ∧ Below w.heap.size w w' := by
 have hm : (n : Int) ≤ 9223372036854775807 := by unfold maxLen at hn; omega
 have HR : Hid (RdLs w a n L) := h
 have HL : Hid (∀ i, i < n → RdLg w (L i)) := hr
 have HF : Hid (∀ i, i < n → (L i).Fit) := hf
 clear h hr hf
 by_cases h2 : left - n < 0
 ·
  go_enter Tryz.func17, Tryz.ntmps17
  go_wp2_with fail
  go_ret
  exact ⟨⟨_, rfl, .inl rfl⟩, Below.refl _ _⟩
 ·
  go_enter Tryz.func17, Tryz.ntmps17
  go_wp2_with fail
  go_loopw [1, 5] (fun x i wr => ∃ (k : Nat) (r : Int), k ≤ n ∧ i = .int .i64 k ∧ x = .int .i64 r ∧ 0 ≤ r ∧ r ≤ left ∧ Hid ((∀ j, j < k → (L j).Small) ∧ r + (n + sumL (fun i => (L i).tot) k : Nat) ≤ left) ∧ Below w.heap.size w wr) (fun _ i _ => n - (intOf i).toNat)
  case atStart => exact ⟨0, left - n, Nat.zero_le _, rfl, rfl, by omega, by omega, ⟨fun j hj => by omega, by show left - n + ((n + 0 : Nat) : Int) ≤ left; omega⟩, Below.refl _ _⟩
  case round =>
   obtain ⟨k, r, hk, rfl, rfl, r0, r1, HS, hB⟩ := hrel
   by_cases hlt : k < n
   ·
    have hlt' : (k : Int) < n := by omega
    obtain ⟨g, o, ha, hc⟩ := (HR.out.up hB) k hlt
    subst ha
    have HC : Hid (∀ j, j < 8 → wr.cell? ⟨g, o + k * 8 + j, none⟩ = (L k).cells[j]?) := hc
    clear hc
    go_wp2_with (refine wpList_ldT rfl 96 8 _ Tryz.underlying96 rfl infoLgL (.tmp 20) rfl g (o + k * 8) rfl (L k).cells rfl HC.out ?_)
    refine (szLane_any (L k) r _ r0 (by omega) (HF.out k hlt) ((HL.out k hlt).up hB)).mono ?_
    rintro e w1 ⟨⟨r', rfl, hr⟩, hb1⟩
    have HB1 : Hid (Below w.heap.size w w1) := hB.trans (hb1.mono hB.size)
    clear hb1 hB HC
    rcases hr with rfl | ⟨r0', hsm, hr9⟩
    ·
     go_wp2_with fail
     go_ret
     exact ⟨⟨_, rfl, .inl rfl⟩, HB1.out⟩
    ·
     have HN : Hid ((∀ j, j < k + 1 → (L j).Small) ∧ r' + (n + sumL (fun i => (L i).tot) (k + 1) : Nat) ≤ left) := ⟨fun j hj => by
       by_cases e : j = k
       ·
        subst e; exact hsm
       ·
        exact HS.out.1 j (by omega), by
       rw [sumL_succ]
       have := HS.out.2
       omega⟩
     have hr0 : ¬ r' < 0 := by omega
     have hr1 : r' ≤ left := by omega
     clear hsm hr9 HS
     go_wp2_with fail
     go_roundw
     case rel => exact ⟨k + 1, r', by omega, by go_num, rfl, r0', hr1, HN, HB1.out⟩
     case measure => simp [intOf]; omega
   ·
    obtain rfl : k = n := by omega
    go_wp2_with fail
    go_ret
    exact ⟨⟨_, rfl, .inr ⟨r0, by omega, HS.out.1, HS.out.2⟩⟩, hB⟩
end Go.Proofs.YtlipielghpoaoaaGreat
namespace Go.Proofs.YtlipielghpoaoaaGreat
open Go.RowKit
set_option linter.unusedVariables false
set_option linter.unusedSimpArgs false

theorem szPacket_any (x : Pkt) (left : Int) (w : World) (h0 : 0 ≤ left) (h1 : left ≤ 1048576) (hf : x.b.size ≤ maxLen) :
  Calls Tryz.prog 55 #[.agg x.cells, .int .i64 left] w fun e w' => (∃ r : Int, e = .returned (.int .i64 r) ∧ (r = -1 ∨ 0 ≤ r ∧ x.b.size ≤ 1048576 ∧ r ≤ left)) ∧ Below w.heap.size w w' := by
 obtain ⟨W, eW⟩ : ∃ W, w.alloc (.cells x.cells 92) = W := ⟨_, rfl⟩
 have hB : Below (w.heap.size + 1) (w.alloc (.cells x.cells 92)) W := by rw [eW]; exact Below.refl _ _
 have hb0 := under hB
 have kS := boxed hB
 have c3 : W.cell? ⟨w.heap.size, 3, none⟩ = some (.int .i64 x.k) := kS 3
 have c4 : W.cell? ⟨w.heap.size, 4, none⟩ = some (.int .i64 x.d) := kS 4
 have c5 : W.cell? ⟨w.heap.size, 5, none⟩ = some (.int .i64 x.s) := kS 5
 have c6 : W.cell? ⟨w.heap.size, 6, none⟩ = some (.int .i64 x.p) := kS 6
 have c7 : W.cell? ⟨w.heap.size, 7, none⟩ = some (.string x.b) := kS 7
 have HB : Hid (Below w.heap.size w W) := hb0
 clear kS hB hb0
 go_enter Tryz.func55, Tryz.ntmps55
 go_wp2_with fail
 clear eW
 refine (szFrame_any x.k x.d x.s x.p left x.b _ hf h0 h1).mono ?_
 rintro e w1 ⟨rfl, hb1⟩
 have HB1 : Hid (Below w.heap.size w w1) := HB.out.trans (hb1.mono HB.out.size)
 clear hb1 c3 c4 c5 c6 c7
 by_cases hl : left < x.b.size
 ·
  rw [if_pos hl]
  go_wp2_with fail
  go_ret
  exact ⟨⟨_, rfl, .inl rfl⟩, HB1.out⟩
 ·
  rw [if_neg hl]
  have hr0 : ¬ left - x.b.size < 0 := by omega
  go_wp2_with fail
  go_ret
  exact ⟨⟨_, rfl, .inr ⟨by omega, by omega, by omega⟩⟩, HB1.out⟩
set_option maxHeartbeats 1000000 in
theorem szPackets_any (a : Option Addr) (n cap : Nat) (K : Nat → Pkt) (left : Int) (w : World) (h0 : 0 ≤ left) (h1 : left ≤ 1048576) (hn : n ≤ maxLen) (hf : ∀ i, i < n → (K i).b.size ≤ maxLen) (h : RdPk w a n K) :
  Calls Tryz.prog 16 #[.slice a n cap, .int .i64 left] w fun e w' => (∃ r : Int, e = .returned (.int .i64 r) ∧ (r = -1 ∨ 0 ≤ r ∧ n ≤ 1048576 ∧ (∀ i, i < n → (K i).b.size ≤ 1048576) ∧ r + n ≤ left)) ∧ Below w.heap.size w w' := by
 have hm : (n : Int) ≤ 9223372036854775807 := by unfold maxLen at hn; omega
 have HR : Hid (RdPk w a n K) := h
 have HF : Hid (∀ i, i < n → (K i).b.size ≤ maxLen) := hf
 clear h hf
 by_cases h2 : left - n < 0
 ·
  go_enter Tryz.func16, Tryz.ntmps16
  go_wp2_with fail
  go_ret
  exact ⟨⟨_, rfl, .inl rfl⟩, Below.refl _ _⟩
 ·
  go_enter Tryz.func16, Tryz.ntmps16
  go_wp2_with fail
  go_loopw [1, 5] (fun x i wr => ∃ (k : Nat) (r : Int), k ≤ n ∧ i = .int .i64 k ∧ x = .int .i64 r ∧ 0 ≤ r ∧ Hid (r + n ≤ left ∧ ∀ j, j < k → (K j).b.size ≤ 1048576) ∧ Below w.heap.size w wr) (fun _ i _ => n - (intOf i).toNat)
  case atStart => exact ⟨0, left - n, Nat.zero_le _, rfl, rfl, by omega, ⟨by omega, fun j hj => by omega⟩, Below.refl _ _⟩
  case round =>
   obtain ⟨k, r, hk, rfl, rfl, r0, HS, hB⟩ := hrel
   by_cases hlt : k < n
   ·
    have hlt' : (k : Int) < n := by omega
    obtain ⟨g, o, ha, hc⟩ := (HR.out.up hB) k hlt
    subst ha
    have HC : Hid (∀ j, j < 8 → wr.cell? ⟨g, o + k * 8 + j, none⟩ = (K k).cells[j]?) := hc
    clear hc
    go_wp2_with (refine wpList_ldT rfl 92 8 _ Tryz.underlying92 rfl infoPkL (.tmp 20) rfl g (o + k * 8) rfl (K k).cells rfl HC.out ?_)
    refine (szPacket_any (K k) r _ r0 (by have := HS.out.1; omega) (HF.out k hlt)).mono ?_
    rintro e w1 ⟨⟨r', rfl, hr⟩, hb1⟩
    have HB1 : Hid (Below w.heap.size w w1) := hB.trans (hb1.mono hB.size)
    clear hb1 hB HC
    rcases hr with rfl | ⟨r0', hsm, hr9⟩
    ·
     go_wp2_with fail
     go_ret
     exact ⟨⟨_, rfl, .inl rfl⟩, HB1.out⟩
    ·
     have HN : Hid (r' + n ≤ left ∧ ∀ j, j < k + 1 → (K j).b.size ≤ 1048576) := ⟨by have := HS.out.1; omega, fun j hj => by
       by_cases e : j = k
       ·
        subst e; exact hsm
       ·
        exact HS.out.2 j (by omega)⟩
     have hr0 : ¬ r' < 0 := by omega
     clear hsm hr9 HS
     go_wp2_with fail
     go_roundw
     case rel => exact ⟨k + 1, r', by omega, by go_num, rfl, r0', HN, HB1.out⟩
     case measure => simp [intOf]; omega
   ·
    obtain rfl : k = n := by omega
    go_wp2_with fail
    go_ret
    exact ⟨⟨_, rfl, .inr ⟨r0, by omega, HS.out.2, HS.out.1⟩⟩, hB⟩
set_option maxHeartbeats 2000000 in
theorem szSwitch_any (S : Swg) (w : World) (hf : S.Fit) (h : RdSg w S) :
  Calls Tryz.prog 5 #[.agg S.cells, .int .i64 1048576] w fun e w' => (∃ r : Int, e = .returned (.int .i64 r) ∧ (r = -1 ∨ 0 ≤ r ∧ S.Small ∧ S.tot ≤ 1048576)) ∧ Below w.heap.size w w' := by
 have HR : Hid (RdSg w S) := h
 have HF : Hid S.Fit := hf
 obtain ⟨W, eW⟩ : ∃ W, w.alloc (.cells S.cells 32) = W := ⟨_, rfl⟩
 have hB : Below (w.heap.size + 1) (w.alloc (.cells S.cells 32)) W := by rw [eW]; exact Below.refl _ _
 have kS := boxed hB
 have c9 : W.cell? ⟨w.heap.size, 9, none⟩ = some (.slice S.aE S.nE S.cE) := kS 9
 have c10 : W.cell? ⟨w.heap.size, 10, none⟩ = some (.slice S.N.aU S.N.nU S.N.cU) := kS 10
 have c11 : W.cell? ⟨w.heap.size, 11, none⟩ = some (.int .i64 S.N.lo) := kS 11
 have c12 : W.cell? ⟨w.heap.size, 12, none⟩ = some (.slice S.N.aP S.N.nP S.N.cP) := kS 12
 clear h hf kS
 go_enter Tryz.func5, Tryz.ntmps5
 go_wp2_with fail
 clear eW
 refine (szEntsS_any S.aE S.nE S.cE 1048576 _ HF.out.e (by omega) (by omega)).mono ?_
 rintro e w1 ⟨⟨r, rfl, hr⟩, rfl⟩
 rcases hr with rfl | ⟨r0, hn1, hs1⟩
 ·
  have B9 := under hB
  go_wp2_with fail
  go_ret
  exact ⟨⟨_, rfl, .inl rfl⟩, B9⟩
 have hr0 : ¬ r < 0 := by omega
 go_wp2_with fail
 refine (szCountsL_any S.N r _ r0 (by omega) HF.out.n).mono ?_
 rintro e w2 ⟨⟨r2, rfl, hr2⟩, hb2⟩
 replace hB := next hB hb2
 clear hb2 c9 c10 c11 c12
 rcases hr2 with rfl | ⟨r20, hn2, hs2⟩
 ·
  have B9 := under hB
  go_wp2_with fail
  go_ret
  exact ⟨⟨_, rfl, .inl rfl⟩, B9⟩
 have hr20 : ¬ r2 < 0 := by omega
 have c13 : w2.cell? ⟨w.heap.size, 13, none⟩ = some (.slice S.aK S.nK S.cK) := boxed hB 13
 have HN2 : Hid S.N.Small := hn2
 clear hn2
 go_wp2_with fail
 refine (szPackets_any S.aK S.nK S.cK S.K r2 _ r20 (by omega) HF.out.k HF.out.b (HR.out.k.up (under hB))).mono ?_
 rintro e w3 ⟨⟨r3, rfl, hr3⟩, hb3⟩
 replace hB := next hB hb3
 clear hb3 c13
 rcases hr3 with rfl | ⟨r30, hn3, hb3, hs3⟩
 ·
  have B9 := under hB
  go_wp2_with fail
  go_ret
  exact ⟨⟨_, rfl, .inl rfl⟩, B9⟩
 have hr30 : ¬ r3 < 0 := by omega
 have c14 : w3.cell? ⟨w.heap.size, 14, none⟩ = some (.slice S.aL S.nL S.cL) := boxed hB 14
 have HK : Hid (∀ i, i < S.nK → (S.K i).b.size ≤ 1048576) := hb3
 clear hb3
 go_wp2_with fail
 refine (szLanes_any S.aL S.nL S.cL S.L r3 _ r30 (by omega) HF.out.l HF.out.ls (HR.out.l.up (under hB)) (fun i hi => (HR.out.ls i hi).up (under hB))).mono ?_
 rintro e w4 ⟨⟨r4, rfl, hr4⟩, hb4⟩
 replace hB := next hB hb4
 clear hb4 c14
 have B9 := under hB
 rcases hr4 with rfl | ⟨r40, hn4, hl4, hs4⟩
 ·
  go_wp2_with fail
  go_ret
  exact ⟨⟨_, rfl, .inl rfl⟩, B9⟩
 have hr40 : ¬ r4 < 0 := by omega
 have HS : Hid (S.Small ∧ S.tot ≤ 1048576) := ⟨⟨hn1, HN2.out, hn3, HK.out, hn4, hl4⟩, by
  show S.nE + (S.N.nU + S.N.nP) + S.nK + (S.nL + sumL (fun i => (S.L i).tot) S.nL) ≤ 1048576
  omega⟩
 clear hl4 hs4 hs3 hs2 hs1 hB
 go_wp2_with fail
 go_ret
 exact ⟨⟨_, rfl, .inr ⟨r40, HS.out.1, HS.out.2⟩⟩, B9⟩
end Go.Proofs.YtlipielghpoaoaaGreat
namespace Go.Proofs.YtlipielghpoaoaaGreat
open Go.RowKit
set_option linter.unusedVariables false
set_option linter.unusedSimpArgs false

/-- cs laid over cur from place o on -/
def lay (cur : Array Value) (o : Nat) (cs : Array Value) : Array Value := (cur.toList.take o ++ cs.toList ++ cur.toList.drop (o + cs.size)).toArray
theorem lay_size {cur cs : Array Value} {o : Nat} (h : o + cs.size ≤ cur.size) : (lay cur o cs).size = cur.size := by
 unfold lay
 simp
 omega
theorem lay_at {cur cs : Array Value} {o : Nat} (h : o + cs.size ≤ cur.size) (j : Nat) (hj : j < cs.size) : (lay cur o cs)[o + j]? = cs[j]? := by
 unfold lay
 simp only [List.getElem?_toArray]
 rw [List.append_assoc, List.getElem?_append_right (by simp; omega), List.getElem?_append_left (by simp; omega)]
 simp only [List.length_take, Array.length_toList, Array.getElem?_toList]
 congr 1
 omega
theorem lay_lo {cur cs : Array Value} {o : Nat} (h : o + cs.size ≤ cur.size) (j : Nat) (hj : j < o) : (lay cur o cs)[j]? = cur[j]? := by
 unfold lay
 simp only [List.getElem?_toArray]
 rw [List.append_assoc, List.getElem?_append_left (by simp; omega), List.getElem?_take, if_pos hj, Array.getElem?_toList]
/-- what a store into block g leaves -/
structure Put (w W : World) (g : Nat) (cs : Array Value) (t : TypeId) : Prop where
 blk : W.heap[g]? = some (.cells cs t (0, 0))
 to : Touch [g] w W
 size : W.heap.size = w.heap.size
theorem Put.cast {w W : World} {g : Nat} {cs cs' : Array Value} {t : TypeId} (h : Put w W g cs t) (e : cs = cs') : Put w W g cs' t := e ▸ h
theorem put_setRow {w : World} {g : Nat} {cur : Array Value} {t : TypeId} (hg : w.heap[g]? = some (.cells cur t (0, 0))) (cs : Array Value) : Put w (w.setRow g cs) g cs t :=
 ⟨setRow_heap w g cur cs t (0, 0) hg, ⟨rfl, rfl, rfl, by simp, fun k _ hk => setRow_other w g k cs (by simpa using hk)⟩, by simp⟩
theorem run_storeVar_at (w : World) (g off : Nat) (t ty : TypeId) (cur : Array Value) (v : Value) (hg : w.heap[g]? = some (.cells cur t (0, 0))) (hi : (Tryz.prog.info? ty).map (·.size) = some v.cells.size) (hf : off + v.cells.size ≤ cur.size) (h1 : v.cells.all (·.oneCell') = true) :
  (storeVar ty ⟨g, off, none⟩ v).run Tryz.prog w = .ok () (w.setRow g (lay cur off v.cells)) := by
 have := run_storeCells_at (P := Tryz.prog) g off t v.cells.toList 0 cur w hg (by simpa using hf) (fun x hx => (Array.all_eq_true_iff_forall_mem.1 h1) x (by simpa using hx))
 simp only [Nat.add_zero, Array.length_toList] at this
 cases hq : Tryz.prog.info? ty with
 | none => simp [hq] at hi
 | some i =>
  have hs : v.cells.size = i.size := by simp [hq] at hi; omega
  simp [storeVar, sizeOf, typeInfo, hq, hs, this, lay]
/-- a store into block g, from place off on -/
theorem wpList_stA {ops : Array Oper} {rest : List Oper} {o : Oper} {a : Act} {w : World} {Q : Exit → Act → World → Prop} (hgd : o.guard = none) (ty : TypeId) (x y : Operand) (ho : o.op = .store ty x y) (g off : Nat) (hx : a.eval x = .pointer (some ⟨g, off, none⟩))
  (v : Value) (hy : a.eval y = v) (n : Nat) (hn : v.cells.size = n) (t : TypeId) (cur : Array Value) (hg : w.heap[g]? = some (.cells cur t (0, 0))) (hi : (Tryz.prog.info? ty).map (·.size) = some n) (hf : off + n ≤ cur.size) (h1 : v.cells.all (·.oneCell') = true)
  (h : ∀ W, Put w W g (lay cur off v.cells) t → wpList Tryz.prog ops Q rest (a.put o.dst undef) W) : wpList Tryz.prog ops Q (o :: rest) a w := by
 subst hn
 refine wpList_plain hgd fun _ hK => ?_
 unfold Oper.wp execOp
 simp only [ho, hx, hy, Instr.storeAt, Instr.sureAddr, Sem.run_bind, Sem.run_pure, Result.andThen_ok, run_storeVar_at w g off t ty cur v hg hi hf h1]
 exact hK _ _ (h _ (put_setRow hg _))

/-- n cells from place o of block g on -/
def RowG (t : TypeId) (g o n : Nat) (f : Nat → Value) (w : World) : Prop := ∃ arr : Array Value, w.heap[g]? = some (.cells arr t (0, 0)) ∧ o + n ≤ arr.size ∧ ∀ i, i < n → arr[o + i]? = some (f i)
theorem RowG.lt {t : TypeId} {g o n : Nat} {f : Nat → Value} {w : World} (h : RowG t g o n f w) : g < w.heap.size := by
 obtain ⟨arr, h1, _⟩ := h
 exact blk_lt h1
theorem RowG.keep {t : TypeId} {g o n : Nat} {f : Nat → Value} {w w' : World} (h : RowG t g o n f w) (hb : w'.heap[g]? = w.heap[g]?) : RowG t g o n f w' := by
 obtain ⟨arr, h1, h2⟩ := h
 exact ⟨arr, hb.trans h1, h2⟩
theorem RowG.read {t : TypeId} {g o n : Nat} {f : Nat → Value} {w : World} (h : RowG t g o n f w) : RdRow w (some ⟨g, o, none⟩) n f := fun i hi => by
 obtain ⟨arr, h1, h2, h3⟩ := h
 exact ⟨g, o, rfl, (blk_cell h1 _).trans (h3 i hi)⟩
theorem RowTo.g {g n : Nat} {t : TypeId} {f : Nat → Value} {w : World} (h : RowTo g t n f n w) : RowG t g 0 n f w := by
 obtain ⟨arr, h1, h2, h3⟩ := h
 exact ⟨arr, h1, by omega, fun i hi => by rw [Nat.zero_add]; exact h3 i hi⟩
/-- a slice whose row is its own, wherever in its block -/
def VG (t : TypeId) (w : World) (base : Nat) (a : Option Addr) (n : Nat) (f : Nat → Value) : Prop := n = 0 ∨ ∃ g o, a = some ⟨g, o, none⟩ ∧ base ≤ g ∧ RowG t g o n f w
section
variable {t : TypeId} {w w' : World} {base base' : Nat} {a : Option Addr} {n : Nat} {f : Nat → Value} {S : List Nat}
theorem VG.read (h : VG t w base a n f) : RdRow w a n f := by
 rcases h with rfl | ⟨g, o, rfl, _, hr⟩
 ·
  exact RdRow.nil _ _ _
 ·
  exact hr.read
theorem VG.up (h : VG t w base a n f) (hb : Below w.heap.size w w') : VG t w' base a n f :=
 h.imp id (by rintro ⟨g, o, ha, hg, hr⟩; exact ⟨g, o, ha, hg, hr.keep (hb.block _ hr.lt)⟩)
theorem VG.mono (h : VG t w base a n f) (hb : base' ≤ base) : VG t w base' a n f :=
 h.imp id (by rintro ⟨g, o, ha, hg, hr⟩; exact ⟨g, o, ha, by omega, hr⟩)
theorem blkG_mem {g o n : Nat} (h : n ≠ 0) : g ∈ blkV (some ⟨g, o, none⟩) n := by unfold blkV; rw [if_neg h]; simp
theorem VG.touchS (h : VG t w base a n f) (ht : Touch S w w') (hp : ∀ x ∈ blkV a n, x ∉ S) : VG t w' base a n f := by
 rcases h with h | ⟨g, o, rfl, hg, hr⟩
 ·
  exact .inl h
 ·
  by_cases h0 : n = 0
  ·
   exact .inl h0
  exact .inr ⟨g, o, rfl, hg, hr.keep (ht.block g hr.lt (hp g (blkG_mem h0)))⟩
theorem VG.blk (h : VG t w base a n f) : ∀ x ∈ blkV a n, base ≤ x ∧ x < w.heap.size := by
 intro x hx
 unfold blkV at hx
 split at hx
 ·
  simp at hx
 ·
  rcases h with h | ⟨g, o, rfl, hg, hr⟩
  ·
   contradiction
  ·
   simp at hx; subst hx; exact ⟨hg, hr.lt⟩
theorem VG.ext {f' : Nat → Value} (h : VG t w base a n f) (e : ∀ i, i < n → f i = f' i) : VG t w base a n f' :=
 h.imp id (by rintro ⟨g, o, ha, hg, arr, h1, h2, h3⟩; exact ⟨g, o, ha, hg, arr, h1, h2, fun i hi => by rw [← e i hi]; exact h3 i hi⟩)
theorem VG.low (h : VG t w base a n f) (ht : Touch S w w') (hS : ∀ x ∈ S, x < base) : VG t w' base a n f :=
 h.touchS ht (fun x hx hy => by have := (h.blk x hx).1; have := hS x hy; omega)
end
theorem VT.g {t : TypeId} {w : World} {base : Nat} {a : Option Addr} {n : Nat} {f : Nat → Value} (h : VT t w base a n f) : VG t w base a n f :=
 h.imp id (by rintro ⟨g, ha, hg, hr⟩; exact ⟨g, 0, ha, hg, hr.g⟩)
theorem VI.g {w : World} {base : Nat} {a : Option Addr} {n : Nat} {f : Nat → Int} (h : VI w base a n f) : VG 2 w base a n fun i => .int .i64 (f i) :=
 h.imp id (by rintro ⟨g, ha, hg, hr⟩; exact ⟨g, 0, ha, hg, hr.g⟩)
theorem VS.g {w : World} {base : Nat} {a : Option Addr} {n : Nat} {f : Nat → Value} (h : VS w base a n f) : VG 25 w base a n f :=
 h.imp id (by rintro ⟨g, ha, hg, hr⟩; exact ⟨g, 0, ha, hg, hr.g⟩)
theorem RowTo.vg {t : TypeId} {w : World} {base g n : Nat} {f : Nat → Value} (h : RowTo g t n f n w) (hb : base ≤ g) : VG t w base (some ⟨g, 0, none⟩) n f := .inr ⟨g, 0, rfl, hb, h.g⟩

/-- the cells of packets, of lanes, one behind another -/
def flatK (K : Nat → Pkt) (j : Nat) : Value := ((K (j / 8)).cells[j % 8]?).getD (.bool false)
theorem flatK_at (K : Nat → Pkt) (i j : Nat) (h : j < 8) : some (flatK K (i * 8 + j)) = (K i).cells[j]? := by
 unfold flatK
 rw [show (i * 8 + j) / 8 = i by omega, show (i * 8 + j) % 8 = j by omega]
 rw [Array.getElem?_eq_getElem (by rw [Pkt.cells_size]; exact h)]
 rfl
def flatG (L : Nat → Lng) (j : Nat) : Value := ((L (j / 8)).cells[j % 8]?).getD (.bool false)
theorem flatG_at (L : Nat → Lng) (i j : Nat) (h : j < 8) : some (flatG L (i * 8 + j)) = (L i).cells[j]? := by
 unfold flatG
 rw [show (i * 8 + j) / 8 = i by omega, show (i * 8 + j) % 8 = j by omega]
 rw [Array.getElem?_eq_getElem (by rw [Lng.cells_size]; exact h)]
 rfl
theorem VG.ents {t : TypeId} {w : World} {base : Nat} {a : Option Addr} {n : Nat} {f : Nat → Ent} (h : VG t w base a (n * 3) (flat f)) : RdEnt w a n f := by
 intro i hi
 obtain ⟨g, o, ha, h0⟩ := h.read (i * 3) (by omega)
 obtain ⟨g1, o1, ha1, h1⟩ := h.read (i * 3 + 1) (by omega)
 obtain ⟨g2, o2, ha2, h2⟩ := h.read (i * 3 + 2) (by omega)
 rw [ha] at ha1 ha2
 cases ha1
 cases ha2
 rw [flat0] at h0
 rw [flat1] at h1
 rw [flat2] at h2
 exact ⟨g, o, ha, h0, h1, h2⟩
theorem VG.pks {t : TypeId} {w : World} {base : Nat} {a : Option Addr} {n : Nat} {K : Nat → Pkt} (h : VG t w base a (n * 8) (flatK K)) : RdPk w a n K := by
 intro i hi
 obtain ⟨g, o, ha, h0⟩ := h.read (i * 8) (by omega)
 refine ⟨g, o, ha, fun j hj => ?_⟩
 obtain ⟨g1, o1, ha1, h1⟩ := h.read (i * 8 + j) (by omega)
 rw [ha] at ha1
 cases ha1
 rw [flatK_at K i j hj] at h1
 rw [Nat.add_assoc]
 exact h1
theorem VG.lns {t : TypeId} {w : World} {base : Nat} {a : Option Addr} {n : Nat} {L : Nat → Lng} (h : VG t w base a (n * 8) (flatG L)) : RdLs w a n L := by
 intro i hi
 obtain ⟨g, o, ha, h0⟩ := h.read (i * 8) (by omega)
 refine ⟨g, o, ha, fun j hj => ?_⟩
 obtain ⟨g1, o1, ha1, h1⟩ := h.read (i * 8 + j) (by omega)
 rw [ha] at ha1
 cases ha1
 rw [flatG_at L i j hj] at h1
 rw [Nat.add_assoc]
 exact h1
/-- a row of rows' blocks -/
def blkS (n : Nat) (A : Nat → Option Addr) (L : Nat → Nat) : List Nat := (List.range n).flatMap fun i => blkV (A i) (L i)
theorem blkS_mem {n : Nat} {A : Nat → Option Addr} {L : Nat → Nat} {x : Nat} : x ∈ blkS n A L ↔ ∃ i, i < n ∧ x ∈ blkV (A i) (L i) := by
 unfold blkS
 simp
/-- the blocks of a lane's numbers -/
def Lng.blks (l : Lng) : List Nat := blkV l.aT l.nT ++ (blkS l.nU l.uA l.uL ++ (blkV l.R.aQ l.R.nQ ++ (blkV l.R.aD l.R.nD ++ blkS l.R.nS l.R.A l.R.L)))
structure OwnLg (w : World) (base : Nat) (l : Lng) : Prop where
 t : VG 2 w base l.aT l.nT fun i => .int .i64 (l.t i)
 u : VG 25 w base l.aU l.nU fun i => .slice (l.uA i) (l.uL i) (l.uC i)
 z : ∀ i, i < l.nU → VG 2 w base (l.uA i) (l.uL i) fun j => .int .i64 (l.uz i j)
 q : VG 2 w base l.R.aQ l.R.nQ fun i => .int .i64 (l.R.q i)
 d : VG 2 w base l.R.aD l.R.nD fun i => .int .i64 (l.R.d i)
 s : VG 25 w base l.R.aS l.R.nS fun i => .slice (l.R.A i) (l.R.L i) (l.R.C i)
 y : ∀ i, i < l.R.nS → VG 2 w base (l.R.A i) (l.R.L i) fun j => .int .i64 (l.R.z i j)
 nd : l.blks.Nodup
theorem OwnLg.rd {w : World} {base : Nat} {l : Lng} (h : OwnLg w base l) : RdLg w l := ⟨h.t.read, h.u.read, fun i hi => (h.z i hi).read, ⟨h.q.read, h.d.read, h.s.read, fun i hi => (h.y i hi).read⟩⟩
theorem OwnLg.up {w w' : World} {base : Nat} {l : Lng} (h : OwnLg w base l) (hb : Below w.heap.size w w') : OwnLg w' base l :=
 ⟨h.t.up hb, h.u.up hb, fun i hi => (h.z i hi).up hb, h.q.up hb, h.d.up hb, h.s.up hb, fun i hi => (h.y i hi).up hb, h.nd⟩
theorem OwnLg.mono {w : World} {base base' : Nat} {l : Lng} (h : OwnLg w base l) (hb : base' ≤ base) : OwnLg w base' l :=
 ⟨h.t.mono hb, h.u.mono hb, fun i hi => (h.z i hi).mono hb, h.q.mono hb, h.d.mono hb, h.s.mono hb, fun i hi => (h.y i hi).mono hb, h.nd⟩
theorem OwnLg.low {w w' : World} {base : Nat} {l : Lng} {S : List Nat} (h : OwnLg w base l) (ht : Touch S w w') (hS : ∀ x ∈ S, x < base) : OwnLg w' base l :=
 ⟨h.t.low ht hS, h.u.low ht hS, fun i hi => (h.z i hi).low ht hS, h.q.low ht hS, h.d.low ht hS, h.s.low ht hS, fun i hi => (h.y i hi).low ht hS, h.nd⟩
theorem OwnLg.blk {w : World} {base : Nat} {l : Lng} (h : OwnLg w base l) : ∀ x ∈ l.blks, base ≤ x ∧ x < w.heap.size := by
 intro x hx
 unfold Lng.blks at hx
 simp only [List.mem_append, blkS_mem] at hx
 rcases hx with hx | ⟨i, hi, hx⟩ | hx | hx | ⟨i, hi, hx⟩
 ·
  exact h.t.blk x hx
 ·
  exact (h.z i hi).blk x hx
 ·
  exact h.q.blk x hx
 ·
  exact h.d.blk x hx
 ·
  exact (h.y i hi).blk x hx
/-- what reads the same -/
structure AlikeL (a b : Lng) : Prop where
 st : b.st = a.st
 nT : b.nT = a.nT
 t : b.t = a.t
 nU : b.nU = a.nU
 l : b.uL = a.uL
 z : b.uz = a.uz
 r : Alike a.R b.R
theorem AlikeL.refl (a : Lng) : AlikeL a a := ⟨rfl, rfl, rfl, rfl, rfl, rfl, Alike.refl _⟩
theorem AlikeL.symm {a b : Lng} (h : AlikeL a b) : AlikeL b a := ⟨h.st.symm, h.nT.symm, h.t.symm, h.nU.symm, h.l.symm, h.z.symm, h.r.symm⟩
theorem AlikeL.trans {a b c : Lng} (h : AlikeL a b) (k : AlikeL b c) : AlikeL a c := ⟨k.st.trans h.st, k.nT.trans h.nT, k.t.trans h.t, k.nU.trans h.nU, k.l.trans h.l, k.z.trans h.z, h.r.trans k.r⟩
structure AlikeG (A B : Swg) : Prop where
 c : B.C = A.C
 now : B.now = A.now
 nx : B.nx = A.nx
 nE : B.nE = A.nE
 e : B.e = A.e
 n : AlikeC A.N B.N
 nK : B.nK = A.nK
 k : B.K = A.K
 nL : B.nL = A.nL
 l : ∀ i, i < A.nL → AlikeL (A.L i) (B.L i)
 dr : B.dr = A.dr
 lst : B.lst = A.lst
theorem AlikeG.symm {A B : Swg} (h : AlikeG A B) : AlikeG B A := ⟨h.c.symm, h.now.symm, h.nx.symm, h.nE.symm, h.e.symm, h.n.symm, h.nK.symm, h.k.symm, h.nL.symm, fun i hi => (h.l i (by rw [← h.nL]; exact hi)).symm, h.dr.symm, h.lst.symm⟩
theorem AlikeG.trans {A B C : Swg} (h : AlikeG A B) (k : AlikeG B C) : AlikeG A C := ⟨k.c.trans h.c, k.now.trans h.now, k.nx.trans h.nx, k.nE.trans h.nE, k.e.trans h.e, h.n.trans k.n, k.nK.trans h.nK, k.k.trans h.k, k.nL.trans h.nL, fun i hi => (h.l i hi).trans (k.l i (by rw [h.nL]; exact hi)), k.dr.trans h.dr, k.lst.trans h.lst⟩
theorem AlikeL.small {a b : Lng} (h : AlikeL a b) (hs : a.Small) : b.Small :=
 ⟨by rw [h.nT]; exact hs.t, by rw [h.nU]; exact hs.u, by rw [h.nU, h.l]; exact hs.z, ⟨by rw [h.r.nQ]; exact hs.r.q, by rw [h.r.nD]; exact hs.r.d, by rw [h.r.nS]; exact hs.r.s, by rw [h.r.nS, h.r.l]; exact hs.r.l⟩⟩
theorem AlikeG.small {A B : Swg} (h : AlikeG A B) (hs : A.Small) : B.Small :=
 ⟨by rw [h.nE]; exact hs.e, h.n.small hs.n, by rw [h.nK]; exact hs.k, by rw [h.nK, h.k]; exact hs.b, by rw [h.nL]; exact hs.l, fun i hi => by rw [h.nL] at hi; exact (h.l i hi).small (hs.ls i hi)⟩
/-- a right round, whatever its place -/
theorem Alike.ok1 {a b : Rnd} (h : Alike a b) (k : a.Ok) : b.Ok := by
 obtain ⟨aQ, nQ, cQ, q, aD, nD, cD, d, turn, fresh, aS, nS, cS, A, L, C, z⟩ := a
 obtain ⟨aQ', nQ', cQ', q', aD', nD', cD', d', turn', fresh', aS', nS', cS', A', L', C', z'⟩ := b
 obtain ⟨h1, h2, h3, h4, h5, h6, h7, h8, h9⟩ := h
 dsimp only at h1 h2 h3 h4 h5 h6 h7 h8 h9
 subst h1 h2 h3 h4 h5 h6 h7 h8 h9
 exact ⟨k.n, k.d, k.s, k.t, k.c⟩
theorem AlikeL.ok1 {a b : Lng} {m : Nat} {K : Nat → Pkt} (h : AlikeL a b) (k : LgOk m K a) : LgOk m K b :=
 ⟨h.r.ok1 k.r, by rw [h.r.nQ]; exact k.n, by rw [h.r.q]; exact k.q0, by rw [h.r.q]; exact k.q1, by rw [h.nU]; exact k.u, fun c hc => by
  rw [h.l, h.z, h.r.l, h.r.z]; exact k.z c hc, by rw [h.nT, h.t]; exact k.t⟩
theorem occU_alike {a b : Lng} (h : AlikeL a b) (x : Int) : ∀ c, occU b x c = occU a x c := by
 intro c
 induction c with
 | zero => rfl
 | succ c ih =>
  show occU b x c + occ (b.uz c) x (b.uL c) = occU a x c + occ (a.uz c) x (a.uL c)
  rw [ih, h.z, h.l]
theorem occL_alike {A B : Nat → Lng} {n : Nat} (h : ∀ i, i < n → AlikeL (A i) (B i)) (x : Int) : ∀ i, i ≤ n → occL B x i = occL A x i := by
 intro i
 induction i with
 | zero => intro _; rfl
 | succ i ih =>
  intro hi
  have hl := h i (by omega)
  show occL B x i + (occ (B i).t x (B i).nT + occU (B i) x (B i).nU) = occL A x i + (occ (A i).t x (A i).nT + occU (A i) x (A i).nU)
  rw [ih (by omega), hl.t, hl.nT, hl.nU, occU_alike hl]
theorem AlikeG.ok1 {A B : Swg} (h : AlikeG A B) (k : A.Ok) : B.Ok := by
 refine ⟨by rw [h.c]; exact h.n.ok.2 k.n, ⟨by rw [h.now]; exact k.nums.now, by rw [h.nx]; exact k.nums.nx, by rw [h.dr]; exact k.nums.dr, by rw [h.lst]; exact k.nums.lst⟩, ?_, by rw [h.nx, h.c, h.nK, h.k]; exact k.k, by rw [h.nL, h.c]; exact k.nl, fun i hi => ?_, fun j hj => ?_, ?_⟩
 ·
  unfold Swg.seen
  rw [h.nE, h.e, h.c, h.now]
  exact k.seen
 ·
  rw [h.nL] at hi
  rw [h.nK, h.k]
  exact (h.l i hi).ok1 (k.l i hi)
 ·
  rw [h.nK] at hj
  rw [h.k, h.nL, occL_alike h.l _ _ (Nat.le_refl _)]
  exact k.refs j hj
 ·
  unfold Swg.heldP
  rw [h.n.lo, h.k, h.nK, h.n.nU, h.n.u]
  exact k.held
theorem AlikeG.ok {A B : Swg} (h : AlikeG A B) : B.Ok ↔ A.Ok := ⟨h.symm.ok1, h.ok1⟩
/-- a switch that owns its memory -/
structure OwnSg (w : World) (base : Nat) (S : Swg) : Prop where
 e : VG 56 w base S.aE (S.nE * 3) (flat S.e)
 u : VG 2 w base S.N.aU S.N.nU fun i => .int .i64 (S.N.u i)
 p : VG 4 w base S.N.aP S.N.nP fun i => .bool (S.N.p i)
 k : VG 60 w base S.aK (S.nK * 8) (flatK S.K)
 l : VG 67 w base S.aL (S.nL * 8) (flatG S.L)
 ls : ∀ i, i < S.nL → OwnLg w base (S.L i)
 nd : (blkV S.N.aU S.N.nU ++ (List.range S.nL).flatMap fun i => (S.L i).blks).Nodup
theorem OwnSg.rd {w : World} {base : Nat} {S : Swg} (h : OwnSg w base S) : RdSg w S := ⟨h.e.ents, ⟨h.u.read, h.p.read⟩, h.k.pks, h.l.lns, fun i hi => (h.ls i hi).rd⟩
theorem OwnSg.up {w w' : World} {base : Nat} {S : Swg} (h : OwnSg w base S) (hb : Below w.heap.size w w') : OwnSg w' base S :=
 ⟨h.e.up hb, h.u.up hb, h.p.up hb, h.k.up hb, h.l.up hb, fun i hi => (h.ls i hi).up hb, h.nd⟩
theorem OwnSg.mono {w : World} {base base' : Nat} {S : Swg} (h : OwnSg w base S) (hb : base' ≤ base) : OwnSg w base' S :=
 ⟨h.e.mono hb, h.u.mono hb, h.p.mono hb, h.k.mono hb, h.l.mono hb, fun i hi => (h.ls i hi).mono hb, h.nd⟩
theorem OwnSg.low {w w' : World} {base : Nat} {S : Swg} {T : List Nat} (h : OwnSg w base S) (ht : Touch T w w') (hS : ∀ x ∈ T, x < base) : OwnSg w' base S :=
 ⟨h.e.low ht hS, h.u.low ht hS, h.p.low ht hS, h.k.low ht hS, h.l.low ht hS, fun i hi => (h.ls i hi).low ht hS, h.nd⟩
/-- pieces one above another have no block twice -/
theorem nodup_app {a b : List Nat} (ha : a.Nodup) (hb : b.Nodup) (m : Nat) (h1 : ∀ x ∈ a, x < m) (h2 : ∀ x ∈ b, m ≤ x) : (a ++ b).Nodup :=
 List.nodup_append.2 ⟨ha, hb, fun x hx y hy e => by have := h1 x hx; have := h2 y hy; omega⟩
theorem blkV_nodup (a : Option Addr) (n : Nat) : (blkV a n).Nodup := by
 unfold blkV
 split
 ·
  exact List.nodup_nil
 ·
  cases a <;> simp
end Go.Proofs.YtlipielghpoaoaaGreat

namespace Go.Proofs.YtlipielghpoaoaaGreat
open Go.RowKit
set_option linter.unusedVariables false
set_option linter.unusedSimpArgs false

/-- an answer in a box -/
theorem res_cellT {fn : Func} {i : Tmp} {ty : TypeId} (h : fn.results = #[.cell i ty]) (n : Nat) (d : TypeDesc) (hu : Tryz.prog.underlying ty = some d) (hd : d.isRow = true) (hn : (Tryz.prog.info? ty).map (·.size) = some n) (tmps : Array Value) (w : World) (g : Nat) (cs : Array Value) (hi : tmps[i]?.getD undef = .pointer (some ⟨g, 0, none⟩)) (t : TypeId) (hk : w.heap[g]? = some (.cells cs t (0, 0))) (hs : cs.size = n) :
  (results fn tmps).run Tryz.prog w = .ok (.agg cs) w := by
 have := run_loadVar_mid (P := Tryz.prog) w g 0 ty cs.toList d (fun j v hv => by
  rw [Nat.zero_add, blk_cell hk, ← Array.getElem?_toList]; exact hv) hu hd (by rw [hn, Array.length_toList, hs])
 rw [Array.toArray_toList] at this
 simp [results, h, hi, asAddr, this]
/-- what came in, the answer's box, the box of what is being made -/
structure Boxes (w : World) (A B C : Array Value) (tA tB : TypeId) (W : World) : Prop where
 a : W.heap[w.heap.size]? = some (.cells A tA (0, 0))
 b : W.heap[w.heap.size + 1]? = some (.cells B tB (0, 0))
 c : W.heap[w.heap.size + 1 + 1]? = some (.cells C tB (0, 0))
 bel : Below w.heap.size w W
 sz : w.heap.size + 1 + 1 + 1 ≤ W.heap.size
theorem Boxes.start (w : World) (A B C : Array Value) (tA tB : TypeId) : Boxes w A B C tA tB (((w.alloc (.cells A tA)).alloc (.cells B tB)).alloc (.cells C tB)) := by
 obtain ⟨h1, h2, h3, h4, h5⟩ := three_laidR (w := w) (A := .cells A tA) (B := .cells B tB) (C := .cells C tB) (Below.refl _ _)
 exact ⟨h1, h2, h3, h4, h5⟩
theorem Boxes.up {w W W' : World} {A B C : Array Value} {tA tB : TypeId} (h : Boxes w A B C tA tB W) (hb : Below W.heap.size W W') : Boxes w A B C tA tB W' :=
 ⟨(hb.block _ (blk_lt h.a)).trans h.a, (hb.block _ (blk_lt h.b)).trans h.b, (hb.block _ (blk_lt h.c)).trans h.c, h.bel.trans (hb.mono h.bel.size), Nat.le_trans h.sz hb.size⟩
theorem Boxes.put {w W W' : World} {A B C C' : Array Value} {tA tB : TypeId} (h : Boxes w A B C tA tB W) (hp : Put W W' (w.heap.size + 1 + 1) C' tB) : Boxes w A B C' tA tB W' :=
 ⟨(hp.to.block _ (blk_lt h.a) (by simp; omega)).trans h.a, (hp.to.block _ (blk_lt h.b) (by simp)).trans h.b, hp.blk, h.bel.trans (hp.to.below h.bel.size (fun x hx => by simp at hx; omega)), by rw [hp.size]; exact h.sz⟩
theorem Boxes.out {w W W' : World} {A B C B' : Array Value} {tA tB : TypeId} (h : Boxes w A B C tA tB W) (hp : Put W W' (w.heap.size + 1) B' tB) : Boxes w A B' C tA tB W' :=
 ⟨(hp.to.block _ (blk_lt h.a) (by simp)).trans h.a, hp.blk, (hp.to.block _ (blk_lt h.c) (by simp)).trans h.c, h.bel.trans (hp.to.below h.bel.size (fun x hx => by simp at hx; omega)), by rw [hp.size]; exact h.sz⟩
theorem infoPkI : (Tryz.prog.info? 60).map (·.size) = some 8 := by kernel_rfl
theorem infoLgI : (Tryz.prog.info? 67).map (·.size) = some 8 := by kernel_rfl
theorem infoFrI : (Tryz.prog.info? 58).map (·.size) = some 5 := by kernel_rfl
theorem infoI1 : (Tryz.prog.info? 2).map (·.size) = some 1 := by kernel_rfl
theorem Pkt.oneC (x : Pkt) : x.cells.all (·.oneCell') = true := by simp [Pkt.cells, Value.oneCell']
theorem Lng.oneC (l : Lng) : l.cells.all (·.oneCell') = true := by simp [Lng.cells, Value.oneCell']
set_option maxRecDepth 10000 in
set_option maxHeartbeats 1000000 in
theorem toPacket_any (x : Pkt) (w : World) :
  Calls Tryz.prog 64 #[.agg x.cells] w fun e w' => e = .returned (.agg x.cells) ∧ Below w.heap.size w w' := by
 obtain ⟨W0, eW⟩ : ∃ W, (((w.alloc (.cells x.cells 92)).alloc (.cells #[.int .i64 0, .int .i64 0, .int .i64 0, .int .i64 0, .int .i64 0, .int .i64 0, .int .i64 0, .string ⟨#[]⟩] 60)).alloc (.cells #[.int .i64 0, .int .i64 0, .int .i64 0, .int .i64 0, .int .i64 0, .int .i64 0, .int .i64 0, .string ⟨#[]⟩] 60)) = W := ⟨_, rfl⟩
 have HX : Hid (Boxes w x.cells #[.int .i64 0, .int .i64 0, .int .i64 0, .int .i64 0, .int .i64 0, .int .i64 0, .int .i64 0, .string ⟨#[]⟩] #[.int .i64 0, .int .i64 0, .int .i64 0, .int .i64 0, .int .i64 0, .int .i64 0, .int .i64 0, .string ⟨#[]⟩] 92 60 W0) := by rw [← eW]; exact Boxes.start _ _ _ _ _ _
 go_enter Tryz.func64, Tryz.ntmps64
 have c0 : W0.cell? ⟨w.heap.size, 0, none⟩ = some (.int .i64 x.id) := blk_cell HX.out.a 0
 have HC := HX.out.c
 replace HC : Hid (W0.heap[w.heap.size + 1 + 1]? = some (.cells #[.int .i64 0, .int .i64 0, .int .i64 0, .int .i64 0, .int .i64 0, .int .i64 0, .int .i64 0, .string ⟨#[]⟩] 60 (0, 0))) := HC
 go_wp2_with (refine wpList_stA rfl 2 (.tmp 6) (.tmp 5) rfl (w.heap.size + 1 + 1) 0 rfl (.int .i64 x.id) rfl 1 rfl 60 _ HC.out infoI1 (Nat.le_of_ble_eq_true rfl) (by simp [Value.cells, Value.oneCell', Rnd.cells, Cfg.cells, Cnt.cells]) ?_)
 intro W1 hP
 clear eW
 replace hP := hP.cast (cs' := #[.int .i64 x.id, .int .i64 0, .int .i64 0, .int .i64 0, .int .i64 0, .int .i64 0, .int .i64 0, .string ⟨#[]⟩]) rfl
 replace HX : Hid (Boxes w x.cells #[.int .i64 0, .int .i64 0, .int .i64 0, .int .i64 0, .int .i64 0, .int .i64 0, .int .i64 0, .string ⟨#[]⟩] #[.int .i64 x.id, .int .i64 0, .int .i64 0, .int .i64 0, .int .i64 0, .int .i64 0, .int .i64 0, .string ⟨#[]⟩] 92 60 W1) := HX.out.put hP
 have T1 : Touch [w.heap.size + 1, w.heap.size + 1 + 1] W0 W1 := hP.to.mono (fun x hx => by simp at hx; simp [hx])
 clear hP HC c0
 have c1 : W1.cell? ⟨w.heap.size, 1, none⟩ = some (.int .i64 x.inn) := blk_cell HX.out.a 1
 have HC := HX.out.c
 replace HC : Hid (W1.heap[w.heap.size + 1 + 1]? = some (.cells #[.int .i64 x.id, .int .i64 0, .int .i64 0, .int .i64 0, .int .i64 0, .int .i64 0, .int .i64 0, .string ⟨#[]⟩] 60 (0, 0))) := HC
 go_wp2_with (refine wpList_stA rfl 2 (.tmp 9) (.tmp 8) rfl (w.heap.size + 1 + 1) 1 rfl (.int .i64 x.inn) rfl 1 rfl 60 _ HC.out infoI1 (Nat.le_of_ble_eq_true rfl) (by simp [Value.cells, Value.oneCell', Rnd.cells, Cfg.cells, Cnt.cells]) ?_)
 intro W2 hP
 replace hP := hP.cast (cs' := #[.int .i64 x.id, .int .i64 x.inn, .int .i64 0, .int .i64 0, .int .i64 0, .int .i64 0, .int .i64 0, .string ⟨#[]⟩]) rfl
 replace HX : Hid (Boxes w x.cells #[.int .i64 0, .int .i64 0, .int .i64 0, .int .i64 0, .int .i64 0, .int .i64 0, .int .i64 0, .string ⟨#[]⟩] #[.int .i64 x.id, .int .i64 x.inn, .int .i64 0, .int .i64 0, .int .i64 0, .int .i64 0, .int .i64 0, .string ⟨#[]⟩] 92 60 W2) := HX.out.put hP
 have T2 : Touch [w.heap.size + 1, w.heap.size + 1 + 1] W1 W2 := hP.to.mono (fun x hx => by simp at hx; simp [hx])
 clear hP HC c1
 have c2 : W2.cell? ⟨w.heap.size, 2, none⟩ = some (.int .i64 x.refs) := blk_cell HX.out.a 2
 have HC := HX.out.c
 replace HC : Hid (W2.heap[w.heap.size + 1 + 1]? = some (.cells #[.int .i64 x.id, .int .i64 x.inn, .int .i64 0, .int .i64 0, .int .i64 0, .int .i64 0, .int .i64 0, .string ⟨#[]⟩] 60 (0, 0))) := HC
 go_wp2_with (refine wpList_stA rfl 2 (.tmp 12) (.tmp 11) rfl (w.heap.size + 1 + 1) 2 rfl (.int .i64 x.refs) rfl 1 rfl 60 _ HC.out infoI1 (Nat.le_of_ble_eq_true rfl) (by simp [Value.cells, Value.oneCell', Rnd.cells, Cfg.cells, Cnt.cells]) ?_)
 intro W3 hP
 replace hP := hP.cast (cs' := #[.int .i64 x.id, .int .i64 x.inn, .int .i64 x.refs, .int .i64 0, .int .i64 0, .int .i64 0, .int .i64 0, .string ⟨#[]⟩]) rfl
 replace HX : Hid (Boxes w x.cells #[.int .i64 0, .int .i64 0, .int .i64 0, .int .i64 0, .int .i64 0, .int .i64 0, .int .i64 0, .string ⟨#[]⟩] #[.int .i64 x.id, .int .i64 x.inn, .int .i64 x.refs, .int .i64 0, .int .i64 0, .int .i64 0, .int .i64 0, .string ⟨#[]⟩] 92 60 W3) := HX.out.put hP
 have T3 : Touch [w.heap.size + 1, w.heap.size + 1 + 1] W2 W3 := hP.to.mono (fun x hx => by simp at hx; simp [hx])
 clear hP HC c2
 have c3 : W3.cell? ⟨w.heap.size, 3, none⟩ = some (.int .i64 x.k) := blk_cell HX.out.a 3
 have c4 : W3.cell? ⟨w.heap.size, 4, none⟩ = some (.int .i64 x.d) := blk_cell HX.out.a 4
 have c5 : W3.cell? ⟨w.heap.size, 5, none⟩ = some (.int .i64 x.s) := blk_cell HX.out.a 5
 have c6 : W3.cell? ⟨w.heap.size, 6, none⟩ = some (.int .i64 x.p) := blk_cell HX.out.a 6
 have c7 : W3.cell? ⟨w.heap.size, 7, none⟩ = some (.string x.b) := blk_cell HX.out.a 7
 go_wp2_with fail
 refine (toFrame_any x.k x.d x.s x.p x.b _).mono ?_
 rintro e wf ⟨rfl, hb⟩
 clear c3 c4 c5 c6 c7
 replace HX : Hid (Boxes w x.cells #[.int .i64 0, .int .i64 0, .int .i64 0, .int .i64 0, .int .i64 0, .int .i64 0, .int .i64 0, .string ⟨#[]⟩] #[.int .i64 x.id, .int .i64 x.inn, .int .i64 x.refs, .int .i64 0, .int .i64 0, .int .i64 0, .int .i64 0, .string ⟨#[]⟩] 92 60 wf) := HX.out.up hb
 have T4 : Touch [w.heap.size + 1, w.heap.size + 1 + 1] W3 wf := Touch.ofBelow hb
 clear hb
 have HC := HX.out.c
 replace HC : Hid (wf.heap[w.heap.size + 1 + 1]? = some (.cells #[.int .i64 x.id, .int .i64 x.inn, .int .i64 x.refs, .int .i64 0, .int .i64 0, .int .i64 0, .int .i64 0, .string ⟨#[]⟩] 60 (0, 0))) := HC
 go_wp2_with (refine wpList_stA rfl 58 (.tmp 16) (.tmp 15) rfl (w.heap.size + 1 + 1) 3 rfl (.agg #[.int .i64 x.k, .int .i64 x.d, .int .i64 x.s, .int .i64 x.p, .string x.b]) rfl 5 rfl 60 _ HC.out infoFrI (Nat.le_of_ble_eq_true rfl) (by simp [Value.cells, Value.oneCell', Rnd.cells, Cfg.cells, Cnt.cells]) ?_)
 intro W5 hP
 replace hP := hP.cast (cs' := #[.int .i64 x.id, .int .i64 x.inn, .int .i64 x.refs, .int .i64 x.k, .int .i64 x.d, .int .i64 x.s, .int .i64 x.p, .string x.b]) rfl
 replace HX : Hid (Boxes w x.cells #[.int .i64 0, .int .i64 0, .int .i64 0, .int .i64 0, .int .i64 0, .int .i64 0, .int .i64 0, .string ⟨#[]⟩] #[.int .i64 x.id, .int .i64 x.inn, .int .i64 x.refs, .int .i64 x.k, .int .i64 x.d, .int .i64 x.s, .int .i64 x.p, .string x.b] 92 60 W5) := HX.out.put hP
 have T5 : Touch [w.heap.size + 1, w.heap.size + 1 + 1] wf W5 := hP.to.mono (fun x hx => by simp at hx; simp [hx])
 clear hP HC 
 have HC : Hid (W5.heap[w.heap.size + 1 + 1]? = some (.cells x.cells 60 (0, 0))) := HX.out.c
 have HD : Hid (W5.heap[w.heap.size + 1]? = some (.cells #[.int .i64 0, .int .i64 0, .int .i64 0, .int .i64 0, .int .i64 0, .int .i64 0, .int .i64 0, .string ⟨#[]⟩] 60 (0, 0))) := HX.out.b
 have HL : Hid (∀ j, j < 8 → W5.cell? ⟨w.heap.size + 1 + 1, 0 + j, none⟩ = (x.cells)[j]?) := fun j _ => by rw [Nat.zero_add]; exact blk_cell HC.out j
 go_wp2_with (first | refine wpList_ldT rfl 60 8 _ Tryz.underlying60 rfl infoPkI (.tmp 3) rfl (w.heap.size + 1 + 1) 0 rfl (x.cells) rfl HL.out ?_ | refine wpList_stA rfl 60 (.tmp 2) (.tmp 17) rfl (w.heap.size + 1) 0 rfl (.agg x.cells) rfl 8 rfl 60 _ HD.out infoPkI (Nat.le_of_ble_eq_true rfl) x.oneC ?_)
 intro W6 hP
 replace hP : Put W5 W6 (w.heap.size + 1) x.cells 60 := hP.cast rfl
 have T6 : Touch [w.heap.size + 1, w.heap.size + 1 + 1] W5 W6 := hP.to.mono (fun x hx => by simp at hx; simp [hx])
 have HK : Hid (W6.heap[w.heap.size + 1]? = some (.cells x.cells 60 (0, 0))) := hP.blk
 have HB : Hid (Below w.heap.size w W6) := (HX.out.out hP).bel
 clear hP HC HD HL
 go_wp2_with fail
 refine bodyPost_ret (res_cellT Tryz.results64 8 _ Tryz.underlying60 rfl infoPkI _ _ (w.heap.size + 1) x.cells rfl 60 HK.out rfl) rfl ⟨rfl, HB.out⟩
theorem infoB1 : (Tryz.prog.info? 4).map (·.size) = some 1 := by kernel_rfl
theorem infoIs : (Tryz.prog.info? 25).map (·.size) = some 1 := by kernel_rfl
theorem infoIss : (Tryz.prog.info? 63).map (·.size) = some 1 := by kernel_rfl
theorem infoRn : (Tryz.prog.info? 65).map (·.size) = some 5 := by kernel_rfl
theorem blkV_at {g o n x : Nat} (h : x ∈ blkV (some ⟨g, o, none⟩) n) : x = g := by
 unfold blkV at h
 split at h
 ·
  simp at h
 ·
  simpa using h
theorem blkS_nodup {n : Nat} {G L : Nat → Nat} (h : ∀ i j, i < j → j < n → G i < G j) : (blkS n (fun i => some ⟨G i, 0, none⟩) L).Nodup := by
 unfold blkS
 induction n with
 | zero => simp
 | succ n ih =>
  rw [List.range_succ, List.flatMap_append]
  simp only [List.flatMap_cons, List.flatMap_nil, List.append_nil]
  refine nodup_app (ih (fun i j hij hj => h i j hij (by omega))) (blkV_nodup _ _) (G n) (fun x hx => ?_) (fun x hx => ?_)
  ·
   simp only [List.mem_flatMap, List.mem_range] at hx
   obtain ⟨i, hi, hx⟩ := hx
   rw [blkV_at hx]
   exact h i n hi (by omega)
  ·
   rw [blkV_at hx]
   exact Nat.le_refl _
/-- rows laid one behind another -/
theorem laneNd {nT nU nQ nD nS gT gQ gD gS : Nat} {G G2 uL L : Nat → Nat} {m : Nat} {st : Bool} {cT cU cQ cD cS : Nat} {t : Nat → Int} {aU : Option Addr} {uC C : Nat → Nat} {uz z : Nat → Nat → Int} {q d : Nat → Int} {turn : Int} {fresh : Bool} {aS : Option Addr} (h1 : gT < m) (h2 : ∀ i, i < nU → gT < G i ∧ G i < m) (h3 : ∀ i j, i < j → j < nU → G i < G j) (h4 : m ≤ gQ) (h5 : gQ < gD) (h6 : gD ≤ gS) (h7 : ∀ i, i < nS → gS < G2 i) (h8 : ∀ i j, i < j → j < nS → G2 i < G2 j) :
  (Lng.blks ⟨st, some ⟨gT, 0, none⟩, nT, cT, t, aU, nU, cU, fun i => some ⟨G i, 0, none⟩, uL, uC, uz, ⟨some ⟨gQ, 0, none⟩, nQ, cQ, q, some ⟨gD, 0, none⟩, nD, cD, d, turn, fresh, aS, nS, cS, fun i => some ⟨G2 i, 0, none⟩, L, C, z⟩⟩).Nodup := by
 unfold Lng.blks
 dsimp only
 refine nodup_app (blkV_nodup _ _) (nodup_app (blkS_nodup h3) (nodup_app (blkV_nodup _ _) (nodup_app (blkV_nodup _ _) (blkS_nodup h8) (gD + 1) ?_ ?_) gD ?_ ?_) m ?_ ?_) (gT + 1) ?_ ?_
 ·
  intro x hx; rw [blkV_at hx]; omega
 ·
  intro x hx
  obtain ⟨i, hi, hx⟩ := blkS_mem.1 hx
  have := h7 i hi
  rw [blkV_at hx]; omega
 ·
  intro x hx; rw [blkV_at hx]; omega
 ·
  intro x hx
  rcases List.mem_append.1 hx with hx | hx
  ·
   rw [blkV_at hx]; omega
  ·
   obtain ⟨i, hi, hx⟩ := blkS_mem.1 hx
   have := h7 i hi
   rw [blkV_at hx]; omega
 ·
  intro x hx
  obtain ⟨i, hi, hx⟩ := blkS_mem.1 hx
  have := h2 i hi
  rw [blkV_at hx]; omega
 ·
  intro x hx
  rcases List.mem_append.1 hx with hx | hx
  ·
   rw [blkV_at hx]; omega
  rcases List.mem_append.1 hx with hx | hx
  ·
   rw [blkV_at hx]; omega
  ·
   obtain ⟨i, hi, hx⟩ := blkS_mem.1 hx
   have := h7 i hi
   rw [blkV_at hx]; omega
 ·
  intro x hx; rw [blkV_at hx]; omega
 ·
  intro x hx
  rcases List.mem_append.1 hx with hx | hx
  ·
   obtain ⟨i, hi, hx⟩ := blkS_mem.1 hx
   have := h2 i hi
   rw [blkV_at hx]; omega
  rcases List.mem_append.1 hx with hx | hx
  ·
   rw [blkV_at hx]; omega
  rcases List.mem_append.1 hx with hx | hx
  ·
   rw [blkV_at hx]; omega
  ·
   obtain ⟨i, hi, hx⟩ := blkS_mem.1 hx
   have := h7 i hi
   rw [blkV_at hx]; omega
set_option maxRecDepth 10000 in
set_option maxHeartbeats 2000000 in
theorem toLane_any (l : Lng) (w : World) (hs : l.Small) (h : RdLg w l) :
  Calls Tryz.prog 65 #[.agg l.cells] w fun e w' => ∃ l2, e = .returned (.agg l2.cells) ∧ AlikeL l l2 ∧ OwnLg w' w.heap.size l2 ∧ Below w.heap.size w w' := by
 have HR : Hid (RdLg w l) := h
 have HS : Hid l.Small := hs
 clear h hs
 obtain ⟨W0, eW⟩ : ∃ W, (((w.alloc (.cells l.cells 96)).alloc (.cells #[.bool false, .slice none 0 0, .slice none 0 0, .slice none 0 0, .slice none 0 0, .int .i64 0, .bool false, .slice none 0 0] 67)).alloc (.cells #[.bool false, .slice none 0 0, .slice none 0 0, .slice none 0 0, .slice none 0 0, .int .i64 0, .bool false, .slice none 0 0] 67)) = W := ⟨_, rfl⟩
 have HX : Hid (Boxes w l.cells #[.bool false, .slice none 0 0, .slice none 0 0, .slice none 0 0, .slice none 0 0, .int .i64 0, .bool false, .slice none 0 0] #[.bool false, .slice none 0 0, .slice none 0 0, .slice none 0 0, .slice none 0 0, .int .i64 0, .bool false, .slice none 0 0] 96 67 W0) := by rw [← eW]; exact Boxes.start _ _ _ _ _ _
 go_enter Tryz.func65, Tryz.ntmps65
 have c0 : W0.cell? ⟨w.heap.size, 0, none⟩ = some (.bool l.st) := blk_cell HX.out.a 0
 have HC := HX.out.c
 replace HC : Hid (W0.heap[w.heap.size + 1 + 1]? = some (.cells #[.bool false, .slice none 0 0, .slice none 0 0, .slice none 0 0, .slice none 0 0, .int .i64 0, .bool false, .slice none 0 0] 67 (0, 0))) := HC
 go_wp2_with (refine wpList_stA rfl 4 (.tmp 6) (.tmp 5) rfl (w.heap.size + 1 + 1) 0 rfl (.bool l.st) rfl 1 rfl 67 _ HC.out infoB1 (Nat.le_of_ble_eq_true rfl) (by simp [Value.cells, Value.oneCell', Rnd.cells, Cfg.cells, Cnt.cells]) ?_)
 intro W1 hP
 clear eW
 replace hP := hP.cast (cs' := #[.bool l.st, .slice none 0 0, .slice none 0 0, .slice none 0 0, .slice none 0 0, .int .i64 0, .bool false, .slice none 0 0]) rfl
 replace HX : Hid (Boxes w l.cells #[.bool false, .slice none 0 0, .slice none 0 0, .slice none 0 0, .slice none 0 0, .int .i64 0, .bool false, .slice none 0 0] #[.bool l.st, .slice none 0 0, .slice none 0 0, .slice none 0 0, .slice none 0 0, .int .i64 0, .bool false, .slice none 0 0] 96 67 W1) := HX.out.put hP
 have T1 : Touch [w.heap.size + 1, w.heap.size + 1 + 1] W0 W1 := hP.to.mono (fun x hx => by simp at hx; simp [hx])
 clear hP HC c0
 have c1 : W1.cell? ⟨w.heap.size, 1, none⟩ = some (.slice l.aT l.nT l.cT) := blk_cell HX.out.a 1
 go_wp2_with fail
 refine (toInts_any l.aT l.nT l.cT l.t _ HS.out.t (HR.out.t.up HX.out.bel)).mono ?_
 rintro e wt ⟨rfl, rT, hb⟩
 clear c1
 have sT := HX.out.sz
 replace HX : Hid (Boxes w l.cells #[.bool false, .slice none 0 0, .slice none 0 0, .slice none 0 0, .slice none 0 0, .int .i64 0, .bool false, .slice none 0 0] #[.bool l.st, .slice none 0 0, .slice none 0 0, .slice none 0 0, .slice none 0 0, .int .i64 0, .bool false, .slice none 0 0] 96 67 wt) := HX.out.up hb
 have T2 : Touch [w.heap.size + 1, w.heap.size + 1 + 1] W1 wt := Touch.ofBelow hb
 clear hb
 have HC := HX.out.c
 replace HC : Hid (wt.heap[w.heap.size + 1 + 1]? = some (.cells #[.bool l.st, .slice none 0 0, .slice none 0 0, .slice none 0 0, .slice none 0 0, .int .i64 0, .bool false, .slice none 0 0] 67 (0, 0))) := HC
 go_wp2_with (refine wpList_stA rfl 25 (.tmp 10) (.tmp 9) rfl (w.heap.size + 1 + 1) 1 rfl (.slice (some ⟨W1.heap.size, 0, none⟩) l.nT l.nT) rfl 1 rfl 67 _ HC.out infoIs (Nat.le_of_ble_eq_true rfl) (by simp [Value.cells, Value.oneCell', Rnd.cells, Cfg.cells, Cnt.cells]) ?_)
 intro W3 hP
 replace hP := hP.cast (cs' := #[.bool l.st, .slice (some ⟨W1.heap.size, 0, none⟩) l.nT l.nT, .slice none 0 0, .slice none 0 0, .slice none 0 0, .int .i64 0, .bool false, .slice none 0 0]) rfl
 replace HX : Hid (Boxes w l.cells #[.bool false, .slice none 0 0, .slice none 0 0, .slice none 0 0, .slice none 0 0, .int .i64 0, .bool false, .slice none 0 0] #[.bool l.st, .slice (some ⟨W1.heap.size, 0, none⟩) l.nT l.nT, .slice none 0 0, .slice none 0 0, .slice none 0 0, .int .i64 0, .bool false, .slice none 0 0] 96 67 W3) := HX.out.put hP
 have T3 : Touch [w.heap.size + 1, w.heap.size + 1 + 1] wt W3 := hP.to.mono (fun x hx => by simp at hx; simp [hx])
 clear hP HC 
 have c2 : W3.cell? ⟨w.heap.size, 2, none⟩ = some (.slice l.aU l.nU l.cU) := blk_cell HX.out.a 2
 go_wp2_with fail
 refine (toIntss_any l.aU l.nU l.cU l.uA l.uL l.uC l.uz _ HS.out.u (HR.out.u.up HX.out.bel) (fun i hi => (HR.out.z i hi).up HX.out.bel) HS.out.z).mono ?_
 rintro e wu ⟨G, rfl, rU, hb⟩
 clear c2
 have sU := HX.out.sz
 replace HX : Hid (Boxes w l.cells #[.bool false, .slice none 0 0, .slice none 0 0, .slice none 0 0, .slice none 0 0, .int .i64 0, .bool false, .slice none 0 0] #[.bool l.st, .slice (some ⟨W1.heap.size, 0, none⟩) l.nT l.nT, .slice none 0 0, .slice none 0 0, .slice none 0 0, .int .i64 0, .bool false, .slice none 0 0] 96 67 wu) := HX.out.up hb
 have T4 : Touch [w.heap.size + 1, w.heap.size + 1 + 1] W3 wu := Touch.ofBelow hb
 clear hb
 have HC := HX.out.c
 replace HC : Hid (wu.heap[w.heap.size + 1 + 1]? = some (.cells #[.bool l.st, .slice (some ⟨W1.heap.size, 0, none⟩) l.nT l.nT, .slice none 0 0, .slice none 0 0, .slice none 0 0, .int .i64 0, .bool false, .slice none 0 0] 67 (0, 0))) := HC
 go_wp2_with (refine wpList_stA rfl 63 (.tmp 14) (.tmp 13) rfl (w.heap.size + 1 + 1) 2 rfl (.slice (some ⟨W3.heap.size, 0, none⟩) l.nU l.nU) rfl 1 rfl 67 _ HC.out infoIss (Nat.le_of_ble_eq_true rfl) (by simp [Value.cells, Value.oneCell', Rnd.cells, Cfg.cells, Cnt.cells]) ?_)
 intro W5 hP
 replace hP := hP.cast (cs' := #[.bool l.st, .slice (some ⟨W1.heap.size, 0, none⟩) l.nT l.nT, .slice (some ⟨W3.heap.size, 0, none⟩) l.nU l.nU, .slice none 0 0, .slice none 0 0, .int .i64 0, .bool false, .slice none 0 0]) rfl
 replace HX : Hid (Boxes w l.cells #[.bool false, .slice none 0 0, .slice none 0 0, .slice none 0 0, .slice none 0 0, .int .i64 0, .bool false, .slice none 0 0] #[.bool l.st, .slice (some ⟨W1.heap.size, 0, none⟩) l.nT l.nT, .slice (some ⟨W3.heap.size, 0, none⟩) l.nU l.nU, .slice none 0 0, .slice none 0 0, .int .i64 0, .bool false, .slice none 0 0] 96 67 W5) := HX.out.put hP
 have T5 : Touch [w.heap.size + 1, w.heap.size + 1 + 1] wu W5 := hP.to.mono (fun x hx => by simp at hx; simp [hx])
 clear hP HC 
 have c3 : W5.cell? ⟨w.heap.size, 3, none⟩ = some (.slice l.R.aQ l.R.nQ l.R.cQ) := blk_cell HX.out.a 3
 have c4 : W5.cell? ⟨w.heap.size, 4, none⟩ = some (.slice l.R.aD l.R.nD l.R.cD) := blk_cell HX.out.a 4
 have c5 : W5.cell? ⟨w.heap.size, 5, none⟩ = some (.int .i64 l.R.turn) := blk_cell HX.out.a 5
 have c6 : W5.cell? ⟨w.heap.size, 6, none⟩ = some (.bool l.R.fresh) := blk_cell HX.out.a 6
 have c7 : W5.cell? ⟨w.heap.size, 7, none⟩ = some (.slice l.R.aS l.R.nS l.R.cS) := blk_cell HX.out.a 7
 go_wp2_with fail
 refine (toRound_any l.R _ HS.out.r (HR.out.r.up HX.out.bel)).mono ?_
 rintro e wr ⟨gQ, gD, gS, G2, rfl, hgQ, rR, hb⟩
 clear c3 c4 c5 c6 c7
 have sR := HX.out.sz
 replace HX : Hid (Boxes w l.cells #[.bool false, .slice none 0 0, .slice none 0 0, .slice none 0 0, .slice none 0 0, .int .i64 0, .bool false, .slice none 0 0] #[.bool l.st, .slice (some ⟨W1.heap.size, 0, none⟩) l.nT l.nT, .slice (some ⟨W3.heap.size, 0, none⟩) l.nU l.nU, .slice none 0 0, .slice none 0 0, .int .i64 0, .bool false, .slice none 0 0] 96 67 wr) := HX.out.up hb
 have T6 : Touch [w.heap.size + 1, w.heap.size + 1 + 1] W5 wr := Touch.ofBelow hb
 clear hb
 have HC := HX.out.c
 replace HC : Hid (wr.heap[w.heap.size + 1 + 1]? = some (.cells #[.bool l.st, .slice (some ⟨W1.heap.size, 0, none⟩) l.nT l.nT, .slice (some ⟨W3.heap.size, 0, none⟩) l.nU l.nU, .slice none 0 0, .slice none 0 0, .int .i64 0, .bool false, .slice none 0 0] 67 (0, 0))) := HC
 go_wp2_with (refine wpList_stA rfl 65 (.tmp 18) (.tmp 17) rfl (w.heap.size + 1 + 1) 3 rfl (.agg (l.R.copy gQ gD gS G2).cells) rfl 5 rfl 67 _ HC.out infoRn (Nat.le_of_ble_eq_true rfl) (by simp [Value.cells, Value.oneCell', Rnd.cells, Cfg.cells, Cnt.cells]) ?_)
 intro W7 hP
 replace hP := hP.cast (cs' := #[.bool l.st, .slice (some ⟨W1.heap.size, 0, none⟩) l.nT l.nT, .slice (some ⟨W3.heap.size, 0, none⟩) l.nU l.nU, .slice (some ⟨gQ, 0, none⟩) l.R.nQ l.R.nQ, .slice (some ⟨gD, 0, none⟩) l.R.nD l.R.nD, .int .i64 l.R.turn, .bool l.R.fresh, .slice (some ⟨gS, 0, none⟩) l.R.nS l.R.nS]) rfl
 replace HX : Hid (Boxes w l.cells #[.bool false, .slice none 0 0, .slice none 0 0, .slice none 0 0, .slice none 0 0, .int .i64 0, .bool false, .slice none 0 0] #[.bool l.st, .slice (some ⟨W1.heap.size, 0, none⟩) l.nT l.nT, .slice (some ⟨W3.heap.size, 0, none⟩) l.nU l.nU, .slice (some ⟨gQ, 0, none⟩) l.R.nQ l.R.nQ, .slice (some ⟨gD, 0, none⟩) l.R.nD l.R.nD, .int .i64 l.R.turn, .bool l.R.fresh, .slice (some ⟨gS, 0, none⟩) l.R.nS l.R.nS] 96 67 W7) := HX.out.put hP
 have T7 : Touch [w.heap.size + 1, w.heap.size + 1 + 1] wr W7 := hP.to.mono (fun x hx => by simp at hx; simp [hx])
 clear hP HC 
 obtain ⟨l2, e2⟩ : ∃ l2, (⟨l.st, some ⟨W1.heap.size, 0, none⟩, l.nT, l.nT, l.t, some ⟨W3.heap.size, 0, none⟩, l.nU, l.nU, fun i => some ⟨G i, 0, none⟩, l.uL, l.uL, l.uz, l.R.copy gQ gD gS G2⟩ : Lng) = l2 := ⟨_, rfl⟩
 have e3 : #[.bool l.st, .slice (some ⟨W1.heap.size, 0, none⟩) l.nT l.nT, .slice (some ⟨W3.heap.size, 0, none⟩) l.nU l.nU, .slice (some ⟨gQ, 0, none⟩) l.R.nQ l.R.nQ, .slice (some ⟨gD, 0, none⟩) l.R.nD l.R.nD, .int .i64 l.R.turn, .bool l.R.fresh, .slice (some ⟨gS, 0, none⟩) l.R.nS l.R.nS] = l2.cells := by rw [← e2]; rfl
 rw [e3] at HX
 have HC : Hid (W7.heap[w.heap.size + 1 + 1]? = some (.cells l2.cells 67 (0, 0))) := HX.out.c
 have HD : Hid (W7.heap[w.heap.size + 1]? = some (.cells #[.bool false, .slice none 0 0, .slice none 0 0, .slice none 0 0, .slice none 0 0, .int .i64 0, .bool false, .slice none 0 0] 67 (0, 0))) := HX.out.b
 have HL : Hid (∀ j, j < 8 → W7.cell? ⟨w.heap.size + 1 + 1, 0 + j, none⟩ = (l2.cells)[j]?) := fun j _ => by rw [Nat.zero_add]; exact blk_cell HC.out j
 go_wp2_with (first | refine wpList_ldT rfl 67 8 _ Tryz.underlying67 rfl infoLgI (.tmp 3) rfl (w.heap.size + 1 + 1) 0 rfl (l2.cells) rfl HL.out ?_ | refine wpList_stA rfl 67 (.tmp 2) (.tmp 19) rfl (w.heap.size + 1) 0 rfl (.agg l2.cells) rfl 8 rfl 67 _ HD.out infoLgI (Nat.le_of_ble_eq_true rfl) (Lng.oneC _) ?_)
 intro W8 hP
 replace hP : Put W7 W8 (w.heap.size + 1) l2.cells 67 := hP.cast rfl
 have T8 : Touch [w.heap.size + 1, w.heap.size + 1 + 1] W7 W8 := hP.to.mono (fun x hx => by simp at hx; simp [hx])
 have HK : Hid (W8.heap[w.heap.size + 1]? = some (.cells l2.cells 67 (0, 0))) := hP.blk
 have HB : Hid (Below w.heap.size w W8) := (HX.out.out hP).bel
 clear hP HC HD HL
 go_wp2_with fail
 have hlow : ∀ x ∈ [w.heap.size + 1, w.heap.size + 1 + 1], x < w.heap.size + 1 + 1 + 1 := by intro x hx; simp at hx; omega
 have qT : VG 2 W8 W1.heap.size (some ⟨W1.heap.size, 0, none⟩) l.nT (fun i => .int .i64 (l.t i)) := (rT.vg (Nat.le_refl _)).low (((((T3.trans T4).trans T5).trans T6).trans T7).trans T8) (fun x hx => by have := hlow x hx; omega)
 have tU := (((T5.trans T6).trans T7).trans T8)
 have tR := (T7.trans T8)
 have lU := rU.top.lt
 have lR := rR.q.lt
 have hT1 := T3.size
 have hT2 := T4.size
 have hT3 := T5.size
 have hT4 := T6.size
 have hTt := rT.lt
 refine bodyPost_ret (res_cellT Tryz.results65 8 _ Tryz.underlying67 rfl infoLgI _ _ (w.heap.size + 1) l2.cells rfl 67 HK.out rfl) rfl ⟨l2, rfl, ?_, ?_, HB.out⟩
 ·
  rw [← e2]
  exact ⟨rfl, rfl, rfl, rfl, rfl, rfl, ⟨rfl, rfl, rfl, rfl, rfl, rfl, rfl, rfl, rfl⟩⟩
 ·
  rw [← e2]
  have kU : ∀ {g : Nat}, w.heap.size + 1 + 1 + 1 ≤ g → g < wu.heap.size → W8.heap[g]? = wu.heap[g]? := fun h1 h2 => tU.block _ h2 (by simp; omega)
  have kR : ∀ {g : Nat}, w.heap.size + 1 + 1 + 1 ≤ g → g < wr.heap.size → W8.heap[g]? = wr.heap[g]? := fun h1 h2 => tR.block _ h2 (by simp; omega)
  have oU := rU.low
  have oR := rR.lt
  have oS : ∀ i, i < l.R.nS → gS < G2 i := rR.s.low
  refine ⟨qT.mono (by omega), (rU.top.keep (kU (by omega) lU)).vg (by omega), fun i hi => ((rU.row i hi).keep (kU (by have := oU i hi; omega) (rU.row i hi).lt)).vg (by have := oU i hi; omega), (rR.q.keep (kR (by omega) lR)).vg (by omega), (rR.d.keep (kR (by omega) rR.d.lt)).vg (by omega), (rR.s.top.keep (kR (by omega) rR.s.top.lt)).vg (by omega), fun i hi => ((rR.s.row i hi).keep (kR (by have := oS i hi; omega) (rR.s.row i hi).lt)).vg (by have := oS i hi; omega), ?_⟩
  exact laneNd (gS := gS) (by omega) (fun i hi => ⟨by have := oU i hi; omega, (rU.row i hi).lt⟩) rU.inc (by omega) (by omega) (by omega) (fun i hi => by have := oS i hi; omega) rR.s.inc
end Go.Proofs.YtlipielghpoaoaaGreat
