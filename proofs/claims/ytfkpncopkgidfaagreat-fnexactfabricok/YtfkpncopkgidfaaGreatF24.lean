import Derived.Test.YtfkpncopkgidfaaGreatF02
import Derived.Test.YtfkpncopkgidfaaGreatF04
import Derived.Test.YtfkpncopkgidfaaGreatF05
import Derived.Test.YtfkpncopkgidfaaGreatF06
import Derived.Test.YtfkpncopkgidfaaGreatF09
import Derived.Test.YtfkpncopkgidfaaGreatF12
import Derived.Test.YtfkpncopkgidfaaGreatF19
import Derived.Deep.MidRow
import Derived.Lib.AppendZeros
import Derived.Maps.AppendAt
import Derived.Room.AppendFits
namespace Go.Proofs.YtfkpncopkgidfaaGreat
open Go.RowKit
set_option linter.unusedVariables false
theorem szFrame_any (k d s p left : Int) (b : ByteArray) (w : World) (hb : b.size ≤ maxLen) (h0 : 0 ≤ left) (h1 : left ≤ 1048576) :
  Calls Tryz.prog 87 #[.agg #[.int .i64 k, .int .i64 d, .int .i64 s, .int .i64 p, .string b], .int .i64 left] w fun e w' => e = .returned (.int .i64 (if left < b.size then -1 else left - b.size)) ∧ Below w.heap.size w w' := by
 unfold maxLen at hb
 by_cases h : left < b.size
 ·
  go_enter Tryz.func87, Tryz.ntmps87
  go_wp2
  go_ret
  exact ⟨rfl, (Below.refl _ _).alloc (Nat.le_refl _) _⟩
 ·
  go_enter Tryz.func87, Tryz.ntmps87
  go_wp2
  go_ret
  exact ⟨rfl, (Below.refl _ _).alloc (Nat.le_refl _) _⟩
theorem toFrame_any (k d s p : Int) (b : ByteArray) (w : World) :
  Calls Tryz.prog 90 #[.agg #[.int .i64 k, .int .i64 d, .int .i64 s, .int .i64 p, .string b]] w fun e w' => e = .returned (.agg #[.int .i64 k, .int .i64 d, .int .i64 s, .int .i64 p, .string b]) ∧ Below w.heap.size w w' := by
 go_enter Tryz.func90, Tryz.ntmps90
 go_wp2
 exact bodyPost_ret (v := .agg #[.int .i64 k, .int .i64 d, .int .i64 s, .int .i64 p, .string b]) (by simp [results, Tryz.results90, go_sem]) rfl ⟨rfl, (((Below.refl _ _).alloc (Nat.le_refl _) _).alloc (by simp) _).alloc (by simp; omega) _⟩
set_option linter.unusedSimpArgs false
theorem infoEnt : (Tryz.prog.info? 109).map (fun i => (i.zero, i.size, i.bytes)) = some (some (.agg #[.int .i64 0, .int .i64 0, .int .i64 0]), 3, 24) := by kernel_rfl
def zEnts (n : Nat) : Array Value := madeCells #[.int .i64 0, .int .i64 0, .int .i64 0] (n * 3)
theorem make_ents (n : Nat) (hn : n ≤ 1048576) (w : World) : (Instr.makeSlice 40 (.int .i64 (n : Int)) (.int .i64 (n : Int))).run Tryz.prog w = .ok (.slice (some ⟨w.heap.size, 0, none⟩) n n) (w.alloc (.cells (zEnts n) 109)) := by
 obtain ⟨i0, hi, hz0, hz1, hz2⟩ := info_parts infoEnt
 have := run_make (P := Tryz.prog) w 40 109 i0 (.agg #[.int .i64 0, .int .i64 0, .int .i64 0]) Tryz.underlying40 hi hz0 .i64 .i64 (n : Int) (n : Int) (by omega) (by omega) (by rw [hz2]; omega) (by omega)
 rw [this, hz1]
 simp [zEnts, Value.cells]
theorem zEnts_row {w : World} {g n : Nat} (h : w.heap[g]? = some (.cells (zEnts n) 109 (0, 0))) (f : Nat → Ent) : RowTo g 109 (n * 3) (flat f) (0 * 3) w :=
 ⟨_, h, by simp [zEnts, size_madeCells], fun i hi => by omega⟩
theorem three_new (w : World) (A B C : Obj) : (((w.alloc A).alloc B).alloc C).heap[w.heap.size]? = some A ∧ (((w.alloc A).alloc B).alloc C).heap[w.heap.size + 1]? = some B ∧ (((w.alloc A).alloc B).alloc C).heap[w.heap.size + 1 + 1]? = some C ∧ Below w.heap.size w (((w.alloc A).alloc B).alloc C) := by
 have e1 : (w.alloc A).heap.size = w.heap.size + 1 := by simp
 have e2 : ((w.alloc A).alloc B).heap.size = w.heap.size + 1 + 1 := by simp
 refine ⟨?_, ?_, ?_, ?_⟩
 ·
  rw [blk_old _ (by omega), blk_old _ (by omega), blk_new]
 ·
  rw [blk_old _ (by omega), ← e1, blk_new]
 ·
  rw [← e2, blk_new]
 ·
  exact (((Below.refl _ _).alloc (Nat.le_refl _) _).alloc (by omega) _).alloc (by omega) _
theorem toEntry_any (m p t : Int) (w : World) :
  Calls Tryz.prog 115 #[.agg #[.int .i64 m, .int .i64 p, .int .i64 t]] w fun e w' => e = .returned (.agg #[.int .i64 m, .int .i64 p, .int .i64 t]) ∧ Below w.heap.size w w' := by
 go_enter Tryz.func115, Tryz.ntmps115
 have HB : Hid (∀ A B C, Below w.heap.size w (((w.alloc A).alloc B).alloc C)) := fun A B C => (three_new w A B C).2.2.2
 go_wp2_with fail
 have cB := blk_cell (three_new w (.cells #[.int .i64 m, .int .i64 p, .int .i64 t] 167) (.cells #[.int .i64 m, .int .i64 p, .int .i64 t] 109) (.cells #[.int .i64 m, .int .i64 p, .int .i64 t] 109)).2.1
 exact bodyPost_ret (v := .agg #[.int .i64 m, .int .i64 p, .int .i64 t]) (by simp [results, Tryz.results115, go_sem, cB]) rfl ⟨rfl, HB.out _ _ _⟩
theorem toEnts_any (a : Option Addr) (n cap : Nat) (f : Nat → Ent) (w : World) (hn : n ≤ 1048576) (h : RdEnt w a n f) :
  Calls Tryz.prog 63 #[.slice a n cap] w fun e w' => e = .returned (.slice (some ⟨w.heap.size, 0, none⟩) n n) ∧ RowTo w.heap.size 109 (n * 3) (flat f) (n * 3) w' ∧ Below w.heap.size w w' := by
 have mk := make_ents n hn
 go_enter Tryz.func63, Tryz.ntmps63
 go_wp2_with fail
 clear mk
 have HR : Hid (RdEnt w a n f) := h
 clear h
 go_loopw [4] (fun i wr => ∃ k : Nat, k ≤ n ∧ i = .int .i64 k ∧ RowTo w.heap.size 109 (n * 3) (flat f) (k * 3) wr ∧ Below w.heap.size w wr) (fun i _ => n - (intOf i).toNat)
 case atStart => exact ⟨0, Nat.zero_le _, rfl, zEnts_row (blk_new w _) f, (Below.refl _ _).alloc (Nat.le_refl _) _⟩
 case round =>
  obtain ⟨k, hk, rfl, hR, hB⟩ := hrel
  by_cases hlt : k < n
  ·
   have hlt' : (k : Int) < n := by omega
   obtain ⟨g, o, rfl, c1, c2, c3⟩ := (HR.out.up hB) k hlt
   go_wp2_with fail
   refine (toEntry_any _ _ _ _).mono ?_
   rintro e w1 ⟨rfl, hb1⟩
   have B1 : Below w.heap.size w w1 := hB.trans (hb1.mono hB.size)
   have R1 := hR.keep (hb1.block _ hR.lt)
   obtain ⟨v0, q0⟩ := R1.there (k * 3) (by omega)
   obtain ⟨v1, q1⟩ := R1.there (k * 3 + 1) (by omega)
   obtain ⟨v2, q2⟩ := R1.there (k * 3 + 2) (by omega)
   have f0 := R1.free (k * 3)
   have f1 := R1.free (k * 3 + 1)
   have f2 := R1.free (k * 3 + 2)
   have HS : Hid (RowTo w.heap.size 109 (n * 3) (flat f) ((k + 1) * 3) (((w1.setCell ⟨w.heap.size, k * 3, none⟩ (.int .i64 (f k).m)).setCell ⟨w.heap.size, k * 3 + 1, none⟩ (.int .i64 (f k).p)).setCell ⟨w.heap.size, k * 3 + 2, none⟩ (.int .i64 (f k).t))) := R1.ent hlt
   have HB : Hid (Below w.heap.size w w1) := B1
   clear hb1 c1 c2 c3 R1 B1 hR hB
   go_wp2_with fail
   go_roundw
   case rel => exact ⟨k + 1, by omega, by go_num, HS.out, ((HB.out.setCell (Nat.le_refl _) _).setCell (Nat.le_refl _) _).setCell (Nat.le_refl _) _⟩
   case measure => simp [intOf]; omega
  ·
   obtain rfl : k = n := by omega
   go_wp2_with fail
   go_ret
   exact ⟨rfl, hR, hB⟩
theorem eqEntry_any (m p t : Int) (w : World) :
  Calls Tryz.prog 129 #[.agg #[.int .i64 m, .int .i64 p, .int .i64 t], .agg #[.int .i64 m, .int .i64 p, .int .i64 t]] w fun e w' => e = .returned (.bool true) ∧ Below w.heap.size w w' := by
 go_enter Tryz.func129, Tryz.ntmps129
 go_wp2_with fail
 go_ret
 exact ⟨rfl, ((Below.refl _ _).alloc (Nat.le_refl _) _).alloc (by simp) _⟩
set_option maxHeartbeats 1000000 in
theorem eqEnts_any (a1 a2 : Option Addr) (n c1 c2 : Nat) (f : Nat → Ent) (w : World) (hn : n ≤ 1048576) (h1 : RdEnt w a1 n f) (h2 : RdEnt w a2 n f) :
  Calls Tryz.prog 81 #[.slice a1 n c1, .slice a2 n c2] w fun e w' => e = .returned (.bool true) ∧ Below w.heap.size w w' := by
 have H1 : Hid (RdEnt w a1 n f) := h1
 have H2 : Hid (RdEnt w a2 n f) := h2
 clear h1 h2
 go_enter Tryz.func81, Tryz.ntmps81
 go_wp2_with fail
 go_loopw [5] (fun i wr => ∃ k : Nat, k ≤ n ∧ i = .int .i64 k ∧ Below w.heap.size w wr) (fun i _ => n - (intOf i).toNat)
 case atStart => exact ⟨0, Nat.zero_le _, rfl, Below.refl _ _⟩
 case round =>
  obtain ⟨k, hk, rfl, hB⟩ := hrel
  by_cases hlt : k < n
  ·
   have hlt' : (k : Int) < n := by omega
   obtain ⟨g, o, rfl, c1, c2, c3⟩ := (H1.out.up hB) k hlt
   obtain ⟨g2, o2, rfl, d1, d2, d3⟩ := (H2.out.up hB) k hlt
   go_wp2_with fail
   refine wp_region_held_drew (S := fun w' => w'.cell? ⟨g, o + k * 3, none⟩ = some (.int .i64 (f k).m) ∧ w'.cell? ⟨g, o + k * 3 + 1, none⟩ = some (.int .i64 (f k).p) ∧ w'.cell? ⟨g, o + k * 3 + 2, none⟩ = some (.int .i64 (f k).t) ∧ w'.cell? ⟨g2, o2 + k * 3, none⟩ = some (.int .i64 (f k).m) ∧ w'.cell? ⟨g2, o2 + k * 3 + 1, none⟩ = some (.int .i64 (f k).p) ∧ w'.cell? ⟨g2, o2 + k * 3 + 2, none⟩ = some (.int .i64 (f k).t)) (by kernel_rfl) ⟨c1, c2, c3, d1, d2, d3⟩ (fun hHeld => ?_)
   refine tC 0 17 (v := ?_) ?_ ?_
   rotate_left
   ·
    intro wx hSw
    obtain ⟨hS1, hS2, hS3, hS4, hS5, hS6⟩ := hSw
    go_simp
    try (with_reducible rfl)
   try simp only [Act.put, PZ]
   refine tC 1 18 (v := ?_) ?_ ?_
   rotate_left
   ·
    intro wx hSw
    obtain ⟨hS1, hS2, hS3, hS4, hS5, hS6⟩ := hSw
    go_simp
    try (with_reducible rfl)
   try simp only [Act.put, PZ]
   refine tC 2 19 (v := ?_) ?_ ?_
   rotate_left
   ·
    intro wx hSw
    obtain ⟨hS1, hS2, hS3, hS4, hS5, hS6⟩ := hSw
    go_simp
    try (with_reducible rfl)
   try simp only [Act.put, PZ]
   refine tC 3 20 (v := ?_) ?_ ?_
   rotate_left
   ·
    intro wx hSw
    obtain ⟨hS1, hS2, hS3, hS4, hS5, hS6⟩ := hSw
    go_simp
    try (with_reducible rfl)
   try simp only [Act.put, PZ]
   refine tC 4 21 (v := ?_) ?_ ?_
   rotate_left
   ·
    intro wx hSw
    obtain ⟨hS1, hS2, hS3, hS4, hS5, hS6⟩ := hSw
    go_simp
    try (with_reducible rfl)
   try simp only [Act.put, PZ]
   refine tC 5 22 (v := ?_) ?_ ?_
   rotate_left
   ·
    intro wx hSw
    obtain ⟨hS1, hS2, hS3, hS4, hS5, hS6⟩ := hSw
    go_simp
    try (with_reducible rfl)
   try simp only [Act.put, PZ]
   refine tC 6 23 (v := ?_) ?_ ?_
   rotate_left
   ·
    intro wx hSw
    obtain ⟨hS1, hS2, hS3, hS4, hS5, hS6⟩ := hSw
    go_simp
    try (with_reducible rfl)
   try simp only [Act.put, PZ]
   refine tC 7 24 (v := ?_) ?_ ?_
   rotate_left
   ·
    intro wx hSw
    obtain ⟨hS1, hS2, hS3, hS4, hS5, hS6⟩ := hSw
    go_simp
    try (with_reducible rfl)
   try simp only [Act.put, PZ]
   refine wpAnyH_ready (rs := [8]) (by kernel_rfl) (by simp) ?_
   refine AllReadyH.cons rfl (fun K hK => ?_) AllReadyH.nil
   go_simp
   refine (eqEntry_any _ _ _ _).mono ?_
   rintro e w1 ⟨rfl, hb1⟩
   have b1 : Below wr.heap.size wr w1 := (Below.refl _ _).drew.trans hb1
   have c1 := (b1.cell (p := ⟨g, o + k * 3, none⟩) (cellLt c1)).trans c1
   have c2 := (b1.cell (p := ⟨g, o + k * 3 + 1, none⟩) (cellLt c2)).trans c2
   have c3 := (b1.cell (p := ⟨g, o + k * 3 + 2, none⟩) (cellLt c3)).trans c3
   have d1 := (b1.cell (p := ⟨g2, o2 + k * 3, none⟩) (cellLt d1)).trans d1
   have d2 := (b1.cell (p := ⟨g2, o2 + k * 3 + 1, none⟩) (cellLt d2)).trans d2
   have d3 := (b1.cell (p := ⟨g2, o2 + k * 3 + 2, none⟩) (cellLt d3)).trans d3
   go_wp2_with fail
   refine hK.out _ _ ⟨c1, c2, c3, d1, d2, d3⟩ (fun hHeld => ?_)
   clear hK K
   try simp only [Act.put, PZ]
   refine tC 9 26 (v := ?_) ?_ ?_
   rotate_left
   ·
    intro wx hSw
    obtain ⟨hS1, hS2, hS3, hS4, hS5, hS6⟩ := hSw
    go_simp
    try (with_reducible rfl)
   try simp only [Act.put, PZ]
   refine wpAnyH_done (by kernel_rfl) ?_ _
   have HB : Hid (Below w.heap.size w w1) := hB.trans (b1.mono hB.size)
   clear b1 hb1 hB c1 c2 c3 d1 d2 d3 hHeld
   go_wp2_with fail
   go_roundw
   case rel => exact ⟨k + 1, by omega, by go_num, HB.out⟩
   case measure => simp [intOf]; omega
  ·
   obtain rfl : k = n := by omega
   go_wp2_with fail
   go_ret
   exact ⟨rfl, hB⟩
theorem three_laidR {w w1 : World} {A B C : Obj} (h : Below (((w.alloc A).alloc B).alloc C).heap.size (((w.alloc A).alloc B).alloc C) w1) :
  w1.heap[w.heap.size]? = some A ∧ w1.heap[w.heap.size + 1]? = some B ∧ w1.heap[w.heap.size + 1 + 1]? = some C ∧ Below w.heap.size w w1 ∧ w.heap.size + 3 ≤ w1.heap.size := by
 have e1 : (w.alloc A).heap.size = w.heap.size + 1 := by simp
 have e2 : ((w.alloc A).alloc B).heap.size = w.heap.size + 1 + 1 := by simp
 have e3 : (((w.alloc A).alloc B).alloc C).heap.size = w.heap.size + 1 + 1 + 1 := by simp
 rw [e3] at h
 have b1 := blk_new w A
 have b2 := blk_new (w.alloc A) B
 rw [e1] at b2
 have b3 := blk_new ((w.alloc A).alloc B) C
 rw [e2] at b3
 refine ⟨?_, ?_, ?_, ?_, ?_⟩
 ·
  rw [h.block _ (by omega), blk_old _ (by rw [e2]; omega), blk_old _ (by rw [e1]; omega)]; exact b1
 ·
  rw [h.block _ (by omega), blk_old _ (by rw [e2]; omega)]; exact b2
 ·
  rw [h.block _ (by omega)]; exact b3
 ·
  exact ((((Below.refl _ _).alloc (Nat.le_refl _) _).alloc (by rw [e1]; omega) _).alloc (by rw [e2]; omega) _).trans (h.mono (by omega))
 ·
  have := h.size
  omega
def Rnd.copy (R : Rnd) (gQ gD gS : Nat) (G : Nat → Nat) : Rnd :=
 ⟨some ⟨gQ, 0, none⟩, R.nQ, R.nQ, R.q, some ⟨gD, 0, none⟩, R.nD, R.nD, R.d, R.turn, R.fresh, some ⟨gS, 0, none⟩, R.nS, R.nS, fun i => some ⟨G i, 0, none⟩, R.L, R.L, R.z⟩
structure Copied (w : World) (R : Rnd) (gQ gD gS : Nat) (G : Nat → Nat) : Prop where
 q : RowTo gQ 2 R.nQ (fun i => .int .i64 (R.q i)) R.nQ w
 d : RowTo gD 2 R.nD (fun i => .int .i64 (R.d i)) R.nD w
 s : Rows2 w gS gS R.nS R.nS G R.L R.z
 lt : gQ < gD ∧ gD < gS
set_option maxHeartbeats 2000000 in
theorem toRound_any (R : Rnd) (w : World) (hs : R.Small) (h : RdRnd w R) :
  Calls Tryz.prog 153 #[.agg R.cells] w fun e w' => ∃ gQ gD gS G, e = .returned (.agg (R.copy gQ gD gS G).cells) ∧ w.heap.size ≤ gQ ∧ Copied w' R gQ gD gS G ∧ Below w.heap.size w w' := by
 obtain ⟨aQ, nQ, cQ, q, aD, nD, cD, d, turn, fresh, aS, nS, cS, A, L, C, z⟩ := R
 have HR : Hid (RdRnd w ⟨aQ, nQ, cQ, q, aD, nD, cD, d, turn, fresh, aS, nS, cS, A, L, C, z⟩) := h
 have HS : Hid (Rnd.Small ⟨aQ, nQ, cQ, q, aD, nD, cD, d, turn, fresh, aS, nS, cS, A, L, C, z⟩) := hs
 clear h hs
 unfold Rnd.cells
 go_enter Tryz.func153, Tryz.ntmps153
 go_wp2_with fail
 have HA : Hid (∀ A B C, Below w.heap.size w (((w.alloc A).alloc B).alloc C)) := fun A B C => (((Below.refl _ _).alloc (Nat.le_refl _) _).alloc (by simp) _).alloc (by simp; omega) _
 have e3 : ∀ A B C, (((w.alloc A).alloc B).alloc C).heap.size = w.heap.size + 1 + 1 + 1 := fun A B C => by simp
 refine (toInts_any aQ nQ cQ q _ HS.out.q (HR.out.q.up (HA.out _ _ _))).mono ?_
 rintro e w1 ⟨rfl, hN, hb1⟩
 obtain ⟨kA, kB, kC, B1, z1⟩ := three_laidR hb1
 rw [e3] at hN
 have cA := blk_cell kA
 have cC := blk_cell kC
 have fC := blk_free kC
 have lN := hN.lt
 clear hb1 HA
 go_wp2_with fail
 obtain ⟨v1, hv1⟩ : ∃ v1 : Value, v1 = .slice (some ⟨w.heap.size + 1 + 1 + 1, 0, none⟩) nQ nQ := ⟨_, rfl⟩
 have kA' := (blk_set_ne (w := w1) (g := w.heap.size + 1 + 1) (k := w.heap.size) (i := 0) (by omega) v1).trans kA
 have kB' := (blk_set_ne (w := w1) (g := w.heap.size + 1 + 1) (k := w.heap.size + 1) (i := 0) (by omega) v1).trans kB
 have kC' : (w1.setCell ⟨w.heap.size + 1 + 1, 0, none⟩ v1).heap[w.heap.size + 1 + 1]? = some (.cells #[v1, .slice none 0 0, .int .i64 0, .bool false, .slice none 0 0] 116 (0, 0)) := blk_set kC _
 have hN' := hN.keep (blk_set_ne (w := w1) (g := w.heap.size + 1 + 1) (k := w.heap.size + 1 + 1 + 1) (i := 0) (by omega) v1)
 have B1' := B1.setCell (p := ⟨w.heap.size + 1 + 1, 0, none⟩) (by show _ ≤ _ + 1 + 1; omega) v1
 have hz3 : (w1.setCell ⟨w.heap.size + 1 + 1, 0, none⟩ v1).heap.size = w1.heap.size := by simp [World.setCell]
 rw [← hv1]
 generalize w1.setCell ⟨w.heap.size + 1 + 1, 0, none⟩ v1 = W at *
 clear kA kB kC cA cC fC hN B1
 refine (toInts_any aD nD cD d _ HS.out.d (HR.out.d.up B1')).mono ?_
 rintro e w2 ⟨rfl, hD, hb2⟩
 rw [hz3] at hD hb2
 have kA2 := (hb2.block _ (by omega)).trans kA'
 have kB2 := (hb2.block _ (by omega)).trans kB'
 have kC2 := (hb2.block _ (by omega)).trans kC'
 have hN2 := hN'.keep (hb2.block _ (by omega))
 have B2 : Below w.heap.size w w2 := B1'.trans (hb2.mono (by omega))
 have cA := blk_cell kA2
 have cC := blk_cell kC2
 have fC := blk_free kC2
 have lD := hD.lt
 have hzW : w1.heap.size < w2.heap.size := lD
 clear hb2 kA' kB' kC' hN' B1'
 go_wp2_with fail
 obtain ⟨v2, hv2⟩ : ∃ v2 : Value, v2 = .slice (some ⟨w1.heap.size, 0, none⟩) nD nD := ⟨_, rfl⟩
 rw [← hv2]
 have t1 := blk_set (i := 1) kC2 v2
 have t2 := blk_set (i := 2) t1 (.int .i64 turn)
 have t3 := blk_set (i := 3) t2 (.bool fresh)
 have hne : ∀ (k : Nat), k ≠ w.heap.size + 1 + 1 → (((w2.setCell ⟨w.heap.size + 1 + 1, 1, none⟩ v2).setCell ⟨w.heap.size + 1 + 1, 2, none⟩ (.int .i64 turn)).setCell ⟨w.heap.size + 1 + 1, 3, none⟩ (.bool fresh)).heap[k]? = w2.heap[k]? := fun k hk => by
  rw [blk_set_ne hk, blk_set_ne hk, blk_set_ne hk]
 have kA3 := (hne w.heap.size (by omega)).trans kA2
 have kB3 := (hne (w.heap.size + 1) (by omega)).trans kB2
 have hN3 := hN2.keep (hne (w.heap.size + 1 + 1 + 1) (by omega))
 have hD3 := hD.keep (hne w1.heap.size (by omega))
 have B3 := ((B2.setCell (p := ⟨w.heap.size + 1 + 1, 1, none⟩) (by show _ ≤ _ + 1 + 1; omega) v2).setCell (p := ⟨w.heap.size + 1 + 1, 2, none⟩) (by show _ ≤ _ + 1 + 1; omega) (.int .i64 turn)).setCell (p := ⟨w.heap.size + 1 + 1, 3, none⟩) (by show _ ≤ _ + 1 + 1; omega) (.bool fresh)
 have hz4 : (((w2.setCell ⟨w.heap.size + 1 + 1, 1, none⟩ v2).setCell ⟨w.heap.size + 1 + 1, 2, none⟩ (.int .i64 turn)).setCell ⟨w.heap.size + 1 + 1, 3, none⟩ (.bool fresh)).heap.size = w2.heap.size := by simp [World.setCell]
 have t3' : (((w2.setCell ⟨w.heap.size + 1 + 1, 1, none⟩ v2).setCell ⟨w.heap.size + 1 + 1, 2, none⟩ (.int .i64 turn)).setCell ⟨w.heap.size + 1 + 1, 3, none⟩ (.bool fresh)).heap[w.heap.size + 1 + 1]? = some (.cells #[v1, v2, .int .i64 turn, .bool fresh, .slice none 0 0] 116 (0, 0)) := t3
 clear t1 t2 t3 hne kA2 kB2 kC2 hN2 hD B2 cA cC fC
 generalize ((w2.setCell ⟨w.heap.size + 1 + 1, 1, none⟩ v2).setCell ⟨w.heap.size + 1 + 1, 2, none⟩ (.int .i64 turn)).setCell ⟨w.heap.size + 1 + 1, 3, none⟩ (.bool fresh) = W2 at *
 refine (toIntss_any aS nS cS A L C z _ HS.out.s (HR.out.s.up B3) (fun i hi => (HR.out.z i hi).up B3) HS.out.l).mono ?_
 rintro e w3 ⟨G, rfl, hG, hb3⟩
 rw [hz4] at hG hb3
 have kA4 := (hb3.block _ (by omega)).trans kA3
 have kB4 := (hb3.block _ (by omega)).trans kB3
 have kC4 := (hb3.block _ (by omega)).trans t3'
 have hN4 := hN3.keep (hb3.block _ (by omega))
 have hD4 := hD3.keep (hb3.block _ (by omega))
 have B4 : Below w.heap.size w w3 := B3.trans (hb3.mono (by omega))
 have cB := blk_cell kB4
 have cC := blk_cell kC4
 have fB := blk_free kB4
 have fC := blk_free kC4
 have hW0 : w.heap.size + 1 + 1 + 1 < w1.heap.size := lN
 subst hv1
 subst hv2
 clear hb3 kA3 kB3 t3' hN3 hD3 B3 kA4
 go_wp2_with fail
 refine bodyPost_ret (v := .agg #[.slice (some ⟨w.heap.size + 1 + 1 + 1, 0, none⟩) nQ nQ, .slice (some ⟨w1.heap.size, 0, none⟩) nD nD, .int .i64 turn, .bool fresh, .slice (some ⟨w2.heap.size, 0, none⟩) nS nS]) (by simp [results, Tryz.results153, go_sem, cB]) rfl ⟨w.heap.size + 1 + 1 + 1, w1.heap.size, w2.heap.size, G, rfl, by omega, ?_, ?_⟩
 ·
  have hk : ∀ j, j ≠ w.heap.size + 1 → j ≠ w.heap.size + 1 + 1 → ∀ (x0 x1 x2 x3 x4 x5 : Value), (((((((w3.setCell ⟨w.heap.size + 1 + 1, 4, none⟩ x0).setCell ⟨w.heap.size + 1, 0, none⟩ x1).setCell ⟨w.heap.size + 1, 1, none⟩ x2).setCell ⟨w.heap.size + 1, 2, none⟩ x3).setCell ⟨w.heap.size + 1, 3, none⟩ x4).setCell ⟨w.heap.size + 1, 4, none⟩ x5)).heap[j]? = w3.heap[j]? := fun j h1 h2 x0 x1 x2 x3 x4 x5 => by
   rw [blk_set_ne h1, blk_set_ne h1, blk_set_ne h1, blk_set_ne h1, blk_set_ne h1, blk_set_ne h2]
  refine ⟨hN4.keep (hk _ (by omega) (by omega) _ _ _ _ _ _), hD4.keep (hk _ (by omega) (by omega) _ _ _ _ _ _), ⟨hG.top.keep (hk _ (by omega) (by omega) _ _ _ _ _ _), hG.low, fun i hi => (hG.row i hi).keep (hk _ ?_ ?_ _ _ _ _ _ _), hG.inc⟩, ⟨by omega, by omega⟩⟩
  ·
   have := hG.low i hi; omega
  ·
   have := hG.low i hi; omega
 ·
  exact (((((B4.setCell (by show _ ≤ _ + 1 + 1; omega) _).setCell (by show _ ≤ _ + 1; omega) _).setCell (by show _ ≤ _ + 1; omega) _).setCell (by show _ ≤ _ + 1; omega) _).setCell (by show _ ≤ _ + 1; omega) _).setCell (by show _ ≤ _ + 1; omega) _
set_option maxHeartbeats 1000000 in
theorem eqRound_any (R1 R2 : Rnd) (w : World) (hs : R1.Small) (h1 : RdRnd w R1) (h2 : RdRnd w R2) (eQ : R2.nQ = R1.nQ) (eq : R2.q = R1.q) (eD : R2.nD = R1.nD) (ed : R2.d = R1.d) (et : R2.turn = R1.turn) (ef : R2.fresh = R1.fresh) (eS : R2.nS = R1.nS) (eL : R2.L = R1.L) (ez : R2.z = R1.z) :
  Calls Tryz.prog 164 #[.agg R1.cells, .agg R2.cells] w fun e w' => e = .returned (.bool true) ∧ Below w.heap.size w w' := by
 obtain ⟨aQ, nQ, cQ, q, aD, nD, cD, d, turn, fresh, aS, nS, cS, A, L, C, z⟩ := R1
 obtain ⟨aQ2, nQ2, cQ2, q2, aD2, nD2, cD2, d2, turn2, fresh2, aS2, nS2, cS2, A2, L2, C2, z2⟩ := R2
 dsimp only at eQ eq eD ed et ef eS eL ez
 subst eQ eq eD ed et ef eS eL ez
 have H1 : Hid (RdRnd w ⟨aQ, _, cQ, _, aD, _, cD, _, _, _, aS, _, cS, A, _, C, _⟩) := h1
 have H2 : Hid (RdRnd w ⟨aQ2, _, cQ2, _, aD2, _, cD2, _, _, _, aS2, _, cS2, A2, _, C2, _⟩) := h2
 have HS : Hid (Rnd.Small ⟨aQ, _, cQ, _, aD, _, cD, _, _, _, aS, _, cS, A, _, C, _⟩) := hs
 clear h1 h2 hs
 have HA : Hid (∀ o1 o2, Below w.heap.size w ((w.alloc o1).alloc o2)) := fun o1 o2 => (((Below.refl _ _).alloc (Nat.le_refl _) _).alloc (by simp) _)
 unfold Rnd.cells
 go_enter Tryz.func164, Tryz.ntmps164
 go_wp2_with fail
 refine (eqInts_any _ _ _ _ _ _ _ HS.out.q (H1.out.q.up (HA.out _ _)) (H2.out.q.up (HA.out _ _))).mono ?_
 rintro e w1 ⟨rfl, hS1⟩
 have c1 := fun (b : Nat) (i : Nat) => hS1.cell ⟨b, i, none⟩
 have b1 := (HA.out _ _).trans (hS1.below _)
 go_wp2_with fail
 refine (eqInts_any _ _ _ _ _ _ _ HS.out.d (H1.out.d.up b1) (H2.out.d.up b1)).mono ?_
 rintro e w2 ⟨rfl, hS2⟩
 have c2 := fun (b : Nat) (i : Nat) => hS2.cell ⟨b, i, none⟩
 have b2 := b1.trans (hS2.below _)
 go_wp2_with fail
 refine (eqIntss_any _ _ _ _ _ _ _ _ _ _ _ _ HS.out.s HS.out.l (H1.out.s.up b2) (H2.out.s.up b2) (fun i hi => (H1.out.z i hi).up b2) (fun i hi => (H2.out.z i hi).up b2)).mono ?_
 rintro e w3 ⟨rfl, hS3⟩
 have c3 := fun (b : Nat) (i : Nat) => hS3.cell ⟨b, i, none⟩
 have b3 := b2.trans (hS3.below _)
 go_wp2_with fail
 go_ret
 exact ⟨rfl, b3⟩
def sumL (L : Nat → Nat) : Nat → Nat
 | 0 => 0
 | k + 1 => sumL L k + L k
structure Alike (R1 R2 : Rnd) : Prop where
 nQ : R2.nQ = R1.nQ
 q : R2.q = R1.q
 nD : R2.nD = R1.nD
 d : R2.d = R1.d
 t : R2.turn = R1.turn
 f : R2.fresh = R1.fresh
 nS : R2.nS = R1.nS
 l : R2.L = R1.L
 z : R2.z = R1.z
theorem Alike.symm {A B : Rnd} (h : Alike A B) : Alike B A := ⟨h.nQ.symm, h.q.symm, h.nD.symm, h.d.symm, h.t.symm, h.f.symm, h.nS.symm, h.l.symm, h.z.symm⟩
theorem Alike.trans {A B C : Rnd} (h : Alike A B) (k : Alike B C) : Alike A C := ⟨k.nQ.trans h.nQ, k.q.trans h.q, k.nD.trans h.nD, k.d.trans h.d, k.t.trans h.t, k.f.trans h.f, k.nS.trans h.nS, k.l.trans h.l, k.z.trans h.z⟩
theorem szIntsS_any (a : Option Addr) (n cap : Nat) (left : Int) (w : World) (hn : n ≤ maxLen) (h0 : 0 ≤ left) (h1 : left ≤ 1048576) :
  Calls Tryz.prog 107 #[.slice a n cap, .int .i64 left] w fun e w' => (∃ r : Int, e = .returned (.int .i64 r) ∧ (r = -1 ∨ 0 ≤ r ∧ r ≤ left ∧ n ≤ 1048576 ∧ r + n ≤ left)) ∧ w = w' := by
 have hm : (n : Int) ≤ 9223372036854775807 := by unfold maxLen at hn; omega
 by_cases h : left - n < 0
 ·
  go_enter Tryz.func107, Tryz.ntmps107
  go_wp2_with fail
  go_ret
  exact ⟨⟨_, rfl, .inl rfl⟩, rfl⟩
 ·
  go_enter Tryz.func107, Tryz.ntmps107
  go_wp2_with fail
  go_ret
  exact ⟨⟨_, rfl, .inr (by omega)⟩, rfl⟩
theorem szIntssS_any (a : Option Addr) (n cap : Nat) (A : Nat → Option Addr) (L C : Nat → Nat) (left : Int) (w : World) (hn : n ≤ maxLen) (h0 : 0 ≤ left) (h1 : left ≤ 1048576) (h : RdRow w a n fun i => .slice (A i) (L i) (C i)) (hl : ∀ i, i < n → L i ≤ maxLen) :
  Calls Tryz.prog 149 #[.slice a n cap, .int .i64 left] w fun e w' => (∃ r : Int, e = .returned (.int .i64 r) ∧ (r = -1 ∨ 0 ≤ r ∧ r ≤ left ∧ n ≤ 1048576 ∧ (∀ i, i < n → L i ≤ 1048576) ∧ r + (sumL L n : Nat) ≤ left)) ∧ w = w' := by
 have hm : (n : Int) ≤ 9223372036854775807 := by unfold maxLen at hn; omega
 have HR : Hid (RdRow w a n fun i => .slice (A i) (L i) (C i)) := h
 have HL : Hid (∀ i, i < n → L i ≤ maxLen) := hl
 clear h hl
 by_cases h2 : left - n < 0
 ·
  go_enter Tryz.func149, Tryz.ntmps149
  go_wp2_with fail
  go_ret
  exact ⟨⟨_, rfl, .inl rfl⟩, rfl⟩
 ·
  go_enter Tryz.func149, Tryz.ntmps149
  go_wp2_with fail
  go_loop [1, 5] (fun x i => ∃ (k : Nat) (r : Int), k ≤ n ∧ i = .int .i64 k ∧ x = .int .i64 r ∧ 0 ≤ r ∧ r ≤ left ∧ (∀ j, j < k → L j ≤ 1048576) ∧ Hid (r + (sumL L k : Nat) ≤ left)) (fun _ i => n - (intOf i).toNat)
  case atStart => exact ⟨0, left - n, Nat.zero_le _, rfl, rfl, by omega, by omega, fun j hj => by omega, by show left - n + ((0 : Nat) : Int) ≤ left; omega⟩
  case round =>
   obtain ⟨k, r, hk, rfl, rfl, r0, r1, hall, hsum⟩ := hrel
   have HA : Hid (∀ j, j < k → L j ≤ 1048576) := hall
   clear hall
   by_cases hlt : k < n
   ·
    have hlt' : (k : Int) < n := by omega
    obtain ⟨g, o, rfl, hc⟩ := HR.out k hlt
    dsimp only at hc
    go_wp2_with fail
    refine (szIntsS_any (A k) (L k) (C k) r _ (HL.out k hlt) r0 (by omega)).mono ?_
    rintro e w1 ⟨⟨r', rfl, hr⟩, rfl⟩
    rcases hr with rfl | ⟨r0', r1', hn', hr9⟩
    ·
     go_wp2_with fail
     go_ret
     exact ⟨⟨_, rfl, .inl rfl⟩, rfl⟩
    ·
     have HN : Hid (L k ≤ 1048576) := hn'
     have HS9 : Hid (r' + (sumL L (k + 1) : Nat) ≤ left) := by
      show r' + ((sumL L k + L k : Nat) : Int) ≤ left
      have := hsum.out
      omega
     clear hr9 hsum
     have hr0 : ¬ r' < 0 := by omega
     clear hn'
     go_wp2_with fail
     go_round
     case rel => exact ⟨k + 1, r', by omega, by go_num, rfl, r0', by omega, fun j hj => by
      by_cases e : j = k
      ·
       subst e; exact HN.out
      ·
       exact HA.out j (by omega), HS9.out⟩
     case measure => simp [intOf]; omega
   ·
    obtain rfl : k = n := by omega
    go_wp2_with fail
    go_ret
    exact ⟨⟨_, rfl, .inr ⟨r0, r1, by omega, HA.out, hsum.out⟩⟩, rfl⟩
theorem wpList_ldT {ops : Array Oper} {rest : List Oper} {o : Oper} {a : Act} {w : World} {Q : Exit → Act → World → Prop} (hg : o.guard = none) (ty : TypeId) (n : Nat) (d : TypeDesc) (hu : Tryz.prog.underlying ty = some d) (hd : d.isRow = true) (hi : (Tryz.prog.info? ty).map (·.size) = some n) (x : Operand) (ho : o.op = .load ty x) (b off : Nat) (hx : a.eval x = .pointer (some ⟨b, off, none⟩))
  (cs : Array Value) (hs : cs.size = n) (hc : ∀ j, j < n → w.cell? ⟨b, off + j, none⟩ = cs[j]?) (h : wpList Tryz.prog ops Q rest (a.put o.dst (.agg cs)) w) : wpList Tryz.prog ops Q (o :: rest) a w :=
 wpList_load_mid hg ty x ho b off hx cs.toList d (fun j v hv => by
  have hj : j < n := by
   have := (List.getElem?_eq_some_iff.1 hv).1
   rw [Array.length_toList] at this
   omega
  rw [hc j hj, ← Array.getElem?_toList]
  exact hv) hu hd (by rw [hi, Array.length_toList, hs]) (by rw [Array.toArray_toList]; exact h)
structure Lng.Fit (l : Lng) : Prop where
 t : l.nT ≤ maxLen
 u : l.nU ≤ maxLen
 z : ∀ i, i < l.nU → l.uL i ≤ maxLen
 r : l.R.Fit
structure Swg.Fit (S : Swg) : Prop where
 e : S.nE ≤ maxLen
 n : S.N.Fit
 k : S.nK ≤ maxLen
 b : ∀ i, i < S.nK → (S.K i).b.size ≤ maxLen
 l : S.nL ≤ maxLen
 ls : ∀ i, i < S.nL → (S.L i).Fit
def Rnd.tot (R : Rnd) : Nat := R.nQ + R.nD + sumL R.L R.nS
def Lng.tot (l : Lng) : Nat := l.nT + sumL l.uL l.nU + l.R.tot
def Swg.tot (S : Swg) : Nat := S.nE + (S.N.nU + S.N.nP) + S.nK + (S.nL + sumL (fun i => (S.L i).tot) S.nL)
theorem szRoundL_any (R : Rnd) (left : Int) (w : World) (h0 : 0 ≤ left) (h1 : left ≤ 1048576) (hf : R.Fit) (h : RdRnd w R) :
  Calls Tryz.prog 150 #[.agg R.cells, .int .i64 left] w fun e w' => (∃ r : Int, e = .returned (.int .i64 r) ∧ (r = -1 ∨ 0 ≤ r ∧ R.Small ∧ r + R.tot ≤ left)) ∧ Below w.heap.size w w' := by
 have HA : Hid (∀ o, Below w.heap.size w (w.alloc o)) := fun o => (Below.refl _ _).alloc (Nat.le_refl _) _
 have HR : Hid (RdRnd w R) := h
 have HF : Hid R.Fit := hf
 clear h hf
 unfold Rnd.cells
 go_enter Tryz.func150, Tryz.ntmps150
 go_wp2_with fail
 refine (szIntsS_any R.aQ R.nQ R.cQ left _ HF.out.q h0 h1).mono ?_
 rintro e w1 ⟨⟨r, rfl, hr⟩, rfl⟩
 rcases hr with rfl | ⟨r0, r1, hn1, hs1⟩
 ·
  go_wp2_with fail
  go_ret
  exact ⟨⟨_, rfl, .inl rfl⟩, HA.out _⟩
 have hr0 : ¬ r < 0 := by omega
 go_wp2_with fail
 refine (szIntsS_any R.aD R.nD R.cD r _ HF.out.d r0 (by omega)).mono ?_
 rintro e w2 ⟨⟨r2, rfl, hr2⟩, rfl⟩
 rcases hr2 with rfl | ⟨r20, r21, hn2, hs2⟩
 ·
  go_wp2_with fail
  go_ret
  exact ⟨⟨_, rfl, .inl rfl⟩, HA.out _⟩
 have hr20 : ¬ r2 < 0 := by omega
 go_wp2_with fail
 refine (szIntssS_any R.aS R.nS R.cS R.A R.L R.C r2 _ HF.out.s r20 (by omega) (HR.out.s.up (HA.out _)) HF.out.l).mono ?_
 rintro e w3 ⟨⟨r3, rfl, hr3⟩, rfl⟩
 rcases hr3 with rfl | ⟨r30, r31, hn3, hl3, hs3⟩
 ·
  go_wp2_with fail
  go_ret
  exact ⟨⟨_, rfl, .inl rfl⟩, HA.out _⟩
 have hr30 : ¬ r3 < 0 := by omega
 have HS : Hid R.Small := ⟨hn1, hn2, hn3, hl3⟩
 have HSu : Hid (r3 + R.tot ≤ left) := by show r3 + ((R.nQ + R.nD + sumL R.L R.nS : Nat) : Int) ≤ left; omega
 clear hl3 hs3 hs2 hs1
 go_wp2_with fail
 go_ret
 exact ⟨⟨_, rfl, .inr ⟨r30, HS.out, HSu.out⟩⟩, HA.out _⟩
theorem szBoolsS_any (a : Option Addr) (n cap : Nat) (left : Int) (w : World) (hn : n ≤ maxLen) (h0 : 0 ≤ left) (h1 : left ≤ 1048576) :
  Calls Tryz.prog 108 #[.slice a n cap, .int .i64 left] w fun e w' => (∃ r : Int, e = .returned (.int .i64 r) ∧ (r = -1 ∨ 0 ≤ r ∧ n ≤ 1048576 ∧ r + n ≤ left)) ∧ w = w' := by
 have hm : (n : Int) ≤ 9223372036854775807 := by unfold maxLen at hn; omega
 by_cases h : left - n < 0
 ·
  go_enter Tryz.func108, Tryz.ntmps108
  go_wp2_with fail
  go_ret
  exact ⟨⟨_, rfl, .inl rfl⟩, rfl⟩
 ·
  go_enter Tryz.func108, Tryz.ntmps108
  go_wp2_with fail
  go_ret
  exact ⟨⟨_, rfl, .inr (by omega)⟩, rfl⟩
theorem szEntsS_any (a : Option Addr) (n cap : Nat) (left : Int) (w : World) (hn : n ≤ maxLen) (h0 : 0 ≤ left) (h1 : left ≤ 1048576) :
  Calls Tryz.prog 50 #[.slice a n cap, .int .i64 left] w fun e w' => (∃ r : Int, e = .returned (.int .i64 r) ∧ (r = -1 ∨ 0 ≤ r ∧ n ≤ 1048576 ∧ r + n ≤ left)) ∧ w = w' := by
 have hm : (n : Int) ≤ 9223372036854775807 := by unfold maxLen at hn; omega
 by_cases h : left - n < 0
 ·
  go_enter Tryz.func50, Tryz.ntmps50
  go_wp2_with fail
  go_ret
  exact ⟨⟨_, rfl, .inl rfl⟩, rfl⟩
 ·
  go_enter Tryz.func50, Tryz.ntmps50
  go_wp2_with fail
  go_ret
  exact ⟨⟨_, rfl, .inr (by omega)⟩, rfl⟩
theorem szCountsL_any (N : Cnt) (left : Int) (w : World) (h0 : 0 ≤ left) (h1 : left ≤ 1048576) (hf : N.Fit) :
  Calls Tryz.prog 51 #[.agg N.cells, .int .i64 left] w fun e w' => (∃ r : Int, e = .returned (.int .i64 r) ∧ (r = -1 ∨ 0 ≤ r ∧ N.Small ∧ r + N.nU + N.nP ≤ left)) ∧ Below w.heap.size w w' := by
 have HA : Hid (∀ o, Below w.heap.size w (w.alloc o)) := fun o => (Below.refl _ _).alloc (Nat.le_refl _) _
 have HF : Hid N.Fit := hf
 clear hf
 unfold Cnt.cells
 go_enter Tryz.func51, Tryz.ntmps51
 go_wp2_with fail
 refine (szIntsS_any N.aU N.nU N.cU left _ HF.out.u h0 h1).mono ?_
 rintro e w1 ⟨⟨r, rfl, hr⟩, rfl⟩
 rcases hr with rfl | ⟨r0, r1, hn1, hs1⟩
 ·
  go_wp2_with fail
  go_ret
  exact ⟨⟨_, rfl, .inl rfl⟩, HA.out _⟩
 have hr0 : ¬ r < 0 := by omega
 go_wp2_with fail
 refine (szBoolsS_any N.aP N.nP N.cP r _ HF.out.p r0 (by omega)).mono ?_
 rintro e w2 ⟨⟨r2, rfl, hr2⟩, rfl⟩
 rcases hr2 with rfl | ⟨r20, hn2, hs2⟩
 ·
  go_wp2_with fail
  go_ret
  exact ⟨⟨_, rfl, .inl rfl⟩, HA.out _⟩
 have hr20 : ¬ r2 < 0 := by omega
 have HS : Hid (N.Small ∧ r2 + N.nU + N.nP ≤ left) := ⟨⟨hn1, hn2⟩, by omega⟩
 clear hs1 hs2
 go_wp2_with fail
 go_ret
 exact ⟨⟨_, rfl, .inr ⟨r20, HS.out.1, HS.out.2⟩⟩, HA.out _⟩
theorem szLane_any (l : Lng) (left : Int) (w : World) (h0 : 0 ≤ left) (h1 : left ≤ 1048576) (hf : l.Fit) (h : RdLg w l) :
  Calls Tryz.prog 110 #[.agg l.cells, .int .i64 left] w fun e w' => (∃ r : Int, e = .returned (.int .i64 r) ∧ (r = -1 ∨ 0 ≤ r ∧ l.Small ∧ r + l.tot ≤ left)) ∧ Below w.heap.size w w' := by
 have HR : Hid (RdLg w l) := h
 have HF : Hid l.Fit := hf
 obtain ⟨W, eW⟩ : ∃ W, w.alloc (.cells l.cells 162) = W := ⟨_, rfl⟩
 have hB : Below (w.heap.size + 1) (w.alloc (.cells l.cells 162)) W := by rw [eW]; exact Below.refl _ _
 have hb0 := under hB
 have kS := boxed hB
 have c1 : W.cell? ⟨w.heap.size, 1, none⟩ = some (.slice l.aT l.nT l.cT) := kS 1
 have c2 : W.cell? ⟨w.heap.size, 2, none⟩ = some (.slice l.aU l.nU l.cU) := kS 2
 have c3 : W.cell? ⟨w.heap.size, 3, none⟩ = some (.slice l.R.aQ l.R.nQ l.R.cQ) := kS 3
 have c4 : W.cell? ⟨w.heap.size, 4, none⟩ = some (.slice l.R.aD l.R.nD l.R.cD) := kS 4
 have c5 : W.cell? ⟨w.heap.size, 5, none⟩ = some (.int .i64 l.R.turn) := kS 5
 have c6 : W.cell? ⟨w.heap.size, 6, none⟩ = some (.bool l.R.fresh) := kS 6
 have c7 : W.cell? ⟨w.heap.size, 7, none⟩ = some (.slice l.R.aS l.R.nS l.R.cS) := kS 7
 have HB : Hid (Below w.heap.size w W) := hb0
 clear h hf kS hB hb0
 go_enter Tryz.func110, Tryz.ntmps110
 go_wp2_with fail
 clear eW
 refine (szIntsS_any l.aT l.nT l.cT left _ HF.out.t h0 h1).mono ?_
 rintro e w1 ⟨⟨r, rfl, hr⟩, rfl⟩
 rcases hr with rfl | ⟨r0, r1, hn1, hs1⟩
 ·
  go_wp2_with fail
  go_ret
  exact ⟨⟨_, rfl, .inl rfl⟩, HB.out⟩
 have hr0 : ¬ r < 0 := by omega
 go_wp2_with fail
 refine (szIntssS_any l.aU l.nU l.cU l.uA l.uL l.uC r _ HF.out.u r0 (by omega) (HR.out.u.up HB.out) HF.out.z).mono ?_
 rintro e w2 ⟨⟨r2, rfl, hr2⟩, rfl⟩
 rcases hr2 with rfl | ⟨r20, r21, hn2, hl2, hs2⟩
 ·
  go_wp2_with fail
  go_ret
  exact ⟨⟨_, rfl, .inl rfl⟩, HB.out⟩
 have hr20 : ¬ r2 < 0 := by omega
 have HL2 : Hid (∀ i, i < l.nU → l.uL i ≤ 1048576) := hl2
 clear hl2
 go_wp2_with fail
 refine (szRoundL_any l.R r2 _ r20 (by omega) HF.out.r (HR.out.r.up HB.out)).mono ?_
 rintro e w3 ⟨⟨r3, rfl, hr3⟩, hb3⟩
 have HB3 : Hid (Below w.heap.size w w3) := HB.out.trans (hb3.mono HB.out.size)
 clear hb3
 rcases hr3 with rfl | ⟨r30, hs, hs3⟩
 ·
  go_wp2_with fail
  go_ret
  exact ⟨⟨_, rfl, .inl rfl⟩, HB3.out⟩
 have hr30 : ¬ r3 < 0 := by omega
 have HS : Hid (l.Small ∧ r3 + l.tot ≤ left) := ⟨⟨hn1, hn2, HL2.out, hs⟩, by
  show r3 + ((l.nT + sumL l.uL l.nU + l.R.tot : Nat) : Int) ≤ left
  omega⟩
 clear hs hs3 hs2 hs1 c1 c2 c3 c4 c5 c6 c7
 go_wp2_with fail
 go_ret
 exact ⟨⟨_, rfl, .inr ⟨r30, HS.out.1, HS.out.2⟩⟩, HB3.out⟩
theorem infoLgL : (Tryz.prog.info? 162).map (·.size) = some 8 := by kernel_rfl
theorem infoPkL : (Tryz.prog.info? 158).map (·.size) = some 8 := by kernel_rfl
theorem sumL_succ (L : Nat → Nat) (k : Nat) : sumL L (k + 1) = sumL L k + L k := rfl
set_option maxHeartbeats 1000000 in
theorem szLanes_any (a : Option Addr) (n cap : Nat) (L : Nat → Lng) (left : Int) (w : World) (h0 : 0 ≤ left) (h1 : left ≤ 1048576) (hn : n ≤ maxLen) (hf : ∀ i, i < n → (L i).Fit) (h : RdLs w a n L) (hr : ∀ i, i < n → RdLg w (L i)) :
  Calls Tryz.prog 53 #[.slice a n cap, .int .i64 left] w fun e w' => (∃ r : Int, e = .returned (.int .i64 r) ∧ (r = -1 ∨ 0 ≤ r ∧ n ≤ 1048576 ∧ (∀ i, i < n → (L i).Small) ∧ r + (n + sumL (fun i => (L i).tot) n : Nat) ≤ left)) ∧ Below w.heap.size w w' := by
 have hm : (n : Int) ≤ 9223372036854775807 := by unfold maxLen at hn; omega
 have HR : Hid (RdLs w a n L) := h
 have HL : Hid (∀ i, i < n → RdLg w (L i)) := hr
 have HF : Hid (∀ i, i < n → (L i).Fit) := hf
 clear h hr hf
 by_cases h2 : left - n < 0
 ·
  go_enter Tryz.func53, Tryz.ntmps53
  go_wp2_with fail
  go_ret
  exact ⟨⟨_, rfl, .inl rfl⟩, Below.refl _ _⟩
 ·
  go_enter Tryz.func53, Tryz.ntmps53
  go_wp2_with fail
  go_loopw [1, 5] (fun x i wr => ∃ (k : Nat) (r : Int), k ≤ n ∧ i = .int .i64 k ∧ x = .int .i64 r ∧ 0 ≤ r ∧ r ≤ left ∧ Hid ((∀ j, j < k → (L j).Small) ∧ r + (n + sumL (fun i => (L i).tot) k : Nat) ≤ left) ∧ Below w.heap.size w wr) (fun _ i _ => n - (intOf i).toNat)
  case atStart => exact ⟨0, left - n, Nat.zero_le _, rfl, rfl, by omega, by omega, ⟨fun j hj => by omega, by show left - n + ((n + 0 : Nat) : Int) ≤ left; omega⟩, Below.refl _ _⟩
  case round =>
   obtain ⟨k, r, hk, rfl, rfl, r0, r1, HS, hB⟩ := hrel
   by_cases hlt : k < n
   ·
    have hlt' : (k : Int) < n := by omega
    obtain ⟨g, o, ha, hc⟩ := (HR.out.up hB) k hlt
    subst ha
    have HC : Hid (∀ j, j < 8 → wr.cell? ⟨g, o + k * 8 + j, none⟩ = (L k).cells[j]?) := hc
    clear hc
    go_wp2_with (refine wpList_ldT rfl 162 8 _ Tryz.underlying162 rfl infoLgL (.tmp 20) rfl g (o + k * 8) rfl (L k).cells rfl HC.out ?_)
    refine (szLane_any (L k) r _ r0 (by omega) (HF.out k hlt) ((HL.out k hlt).up hB)).mono ?_
    rintro e w1 ⟨⟨r', rfl, hr⟩, hb1⟩
    have HB1 : Hid (Below w.heap.size w w1) := hB.trans (hb1.mono hB.size)
    clear hb1 hB HC
    rcases hr with rfl | ⟨r0', hsm, hr9⟩
    ·
     go_wp2_with fail
     go_ret
     exact ⟨⟨_, rfl, .inl rfl⟩, HB1.out⟩
    ·
     have HN : Hid ((∀ j, j < k + 1 → (L j).Small) ∧ r' + (n + sumL (fun i => (L i).tot) (k + 1) : Nat) ≤ left) := ⟨fun j hj => by
       by_cases e : j = k
       ·
        subst e; exact hsm
       ·
        exact HS.out.1 j (by omega), by
       rw [sumL_succ]
       have := HS.out.2
       omega⟩
     have hr0 : ¬ r' < 0 := by omega
     have hr1 : r' ≤ left := by omega
     clear hsm hr9 HS
     go_wp2_with fail
     go_roundw
     case rel => exact ⟨k + 1, r', by omega, by go_num, rfl, r0', hr1, HN, HB1.out⟩
     case measure => simp [intOf]; omega
   ·
    obtain rfl : k = n := by omega
    go_wp2_with fail
    go_ret
    exact ⟨⟨_, rfl, .inr ⟨r0, by omega, HS.out.1, HS.out.2⟩⟩, hB⟩
def RdT (m : Nat) (w : World) (a : Option Addr) (n : Nat) (c : Nat → Array Value) : Prop := ∀ i, i < n → (c i).size = m ∧ ∃ g o, a = some ⟨g, o, none⟩ ∧ ∀ j, j < m → w.cell? ⟨g, o + i * m + j, none⟩ = (c i)[j]?
theorem RdT.nil (m : Nat) (w : World) (a : Option Addr) (c : Nat → Array Value) : RdT m w a 0 c := fun i hi => by omega
theorem keepT {m : Nat} {w w2 : World} {g o : Nat} {cs : Array Value} (hs : cs.size = m) (hc : ∀ j, j < m → w.cell? ⟨g, o + j, none⟩ = cs[j]?) (hb : Below w.heap.size w w2) : ∀ j, j < m → w2.cell? ⟨g, o + j, none⟩ = cs[j]? := by
 intro j hj
 have h2 := hc j hj
 have h3 : j < cs.size := by omega
 rw [Array.getElem?_eq_getElem h3] at h2
 exact ((hb.cell (p := ⟨g, o + j, none⟩) (cellLt h2)).trans h2).trans (Array.getElem?_eq_getElem h3).symm
theorem RdT.up {m : Nat} {w w2 : World} {a : Option Addr} {n : Nat} {c : Nat → Array Value} (h : RdT m w a n c) (hb : Below w.heap.size w w2) : RdT m w2 a n c := by
 intro i hi
 obtain ⟨hs, g, o, ha, hc⟩ := h i hi
 exact ⟨hs, g, o, ha, keepT hs hc hb⟩
def Pkt.flight (x : Pkt) : Array Value := #[.int .i64 x.id, .int .i64 x.inn, .int .i64 x.k, .int .i64 x.d, .int .i64 x.s, .int .i64 x.p, .string x.b]
def RdF (w : World) (a : Option Addr) (n : Nat) (F : Nat → Pkt) : Prop := RdT 5 w a n fun i => (F i).frame
theorem RdF.up {w w2 : World} {a : Option Addr} {n : Nat} {F : Nat → Pkt} (h : RdF w a n F) (hb : Below w.heap.size w w2) : RdF w2 a n F := RdT.up h hb
theorem RdF.at {w : World} {a : Option Addr} {n : Nat} {F : Nat → Pkt} (h : RdF w a n F) {i : Nat} (hi : i < n) : ∃ g o, a = some ⟨g, o, none⟩ ∧ ∀ j, j < 5 → w.cell? ⟨g, o + i * 5 + j, none⟩ = (F i).frame[j]? := (h i hi).2
def RdV (w : World) (a : Option Addr) (n : Nat) (F : Nat → Pkt) : Prop := RdT 7 w a n fun i => (F i).flight
theorem RdV.up {w w2 : World} {a : Option Addr} {n : Nat} {F : Nat → Pkt} (h : RdV w a n F) (hb : Below w.heap.size w w2) : RdV w2 a n F := RdT.up h hb
theorem RdV.at {w : World} {a : Option Addr} {n : Nat} {F : Nat → Pkt} (h : RdV w a n F) {i : Nat} (hi : i < n) : ∃ g o, a = some ⟨g, o, none⟩ ∧ ∀ j, j < 7 → w.cell? ⟨g, o + i * 7 + j, none⟩ = (F i).flight[j]? := (h i hi).2
structure Hst where
 st : Bool
 aO : Option Addr
 nO : Nat
 cO : Nat
 O : Nat → Pkt
 aG : Option Addr
 nG : Nat
 cG : Nat
 G : Nat → Pkt
def Hst.cells (h : Hst) : Array Value := #[.bool h.st, .slice h.aO h.nO h.cO, .slice h.aG h.nG h.cG]
structure RdHt (w : World) (h : Hst) : Prop where
 o : RdF w h.aO h.nO h.O
 g : RdF w h.aG h.nG h.G
theorem RdHt.up {w w2 : World} {h : Hst} (k : RdHt w h) (hb : Below w.heap.size w w2) : RdHt w2 h := ⟨k.o.up hb, k.g.up hb⟩
def RdHs (w : World) (a : Option Addr) (n : Nat) (H : Nat → Hst) : Prop := RdT 3 w a n fun i => (H i).cells
theorem RdHs.up {w w2 : World} {a : Option Addr} {n : Nat} {H : Nat → Hst} (h : RdHs w a n H) (hb : Below w.heap.size w w2) : RdHs w2 a n H := RdT.up h hb
theorem RdHs.at {w : World} {a : Option Addr} {n : Nat} {H : Nat → Hst} (h : RdHs w a n H) {i : Nat} (hi : i < n) : ∃ g o, a = some ⟨g, o, none⟩ ∧ ∀ j, j < 3 → w.cell? ⟨g, o + i * 3 + j, none⟩ = (H i).cells[j]? := (h i hi).2
structure Hst.Small (h : Hst) : Prop where
 o : h.nO ≤ 1048576
 bo : ∀ i, i < h.nO → (h.O i).b.size ≤ 1048576
 g : h.nG ≤ 1048576
 bg : ∀ i, i < h.nG → (h.G i).b.size ≤ 1048576
structure Hst.Fit (h : Hst) : Prop where
 o : h.nO ≤ maxLen
 bo : ∀ i, i < h.nO → (h.O i).b.size ≤ maxLen
 g : h.nG ≤ maxLen
 bg : ∀ i, i < h.nG → (h.G i).b.size ≤ maxLen
structure Fab where
 S : Swg
 aH : Option Addr
 nH : Nat
 cH : Nat
 H : Nat → Hst
 aU : Option Addr
 nU : Nat
 cU : Nat
 U : Nat → Pkt
 aD : Option Addr
 nD : Nat
 cD : Nat
 D : Nat → Pkt
def Fab.cells (F : Fab) : Array Value := #[.int .i64 F.S.C.p, .int .i64 F.S.C.c, .int .i64 F.S.C.xo, .int .i64 F.S.C.xn, .int .i64 F.S.C.hd, .int .i64 F.S.C.lo, .int .i64 F.S.C.dl, .int .i64 F.S.now, .int .i64 F.S.nx, .slice F.S.aE F.S.nE F.S.cE, .slice F.S.N.aU F.S.N.nU F.S.N.cU, .int .i64 F.S.N.lo, .slice F.S.N.aP F.S.N.nP F.S.N.cP, .slice F.S.aK F.S.nK F.S.cK, .slice F.S.aL F.S.nL F.S.cL, .int .i64 F.S.dr, .int .i64 F.S.lst, .slice F.aH F.nH F.cH, .slice F.aU F.nU F.cU, .slice F.aD F.nD F.cD]
theorem Fab.sw (F : Fab) : ∀ j, j < 17 → F.cells[j]? = F.S.cells[j]?
 | 0, _ => rfl | 1, _ => rfl | 2, _ => rfl | 3, _ => rfl | 4, _ => rfl | 5, _ => rfl | 6, _ => rfl | 7, _ => rfl | 8, _ => rfl | 9, _ => rfl | 10, _ => rfl | 11, _ => rfl | 12, _ => rfl | 13, _ => rfl | 14, _ => rfl | 15, _ => rfl | 16, _ => rfl
 | j + 17, h => absurd h (by omega)
structure RdFb (w : World) (F : Fab) : Prop where
 s : RdSg w F.S
 h : RdHs w F.aH F.nH F.H
 hs : ∀ i, i < F.nH → RdHt w (F.H i)
 u : RdV w F.aU F.nU F.U
 d : RdV w F.aD F.nD F.D
theorem RdFb.up {w w2 : World} {F : Fab} (h : RdFb w F) (hb : Below w.heap.size w w2) : RdFb w2 F := ⟨h.s.up hb, h.h.up hb, fun i hi => (h.hs i hi).up hb, h.u.up hb, h.d.up hb⟩
structure Fab.Small (F : Fab) : Prop where
 s : F.S.Small
 h : F.nH ≤ 1048576
 hs : ∀ i, i < F.nH → (F.H i).Small
 u : F.nU ≤ 1048576
 bu : ∀ i, i < F.nU → (F.U i).b.size ≤ 1048576
 d : F.nD ≤ 1048576
 bd : ∀ i, i < F.nD → (F.D i).b.size ≤ 1048576
structure Fab.Fit (F : Fab) : Prop where
 s : F.S.Fit
 h : F.nH ≤ maxLen
 hs : ∀ i, i < F.nH → (F.H i).Fit
 u : F.nU ≤ maxLen
 bu : ∀ i, i < F.nU → (F.U i).b.size ≤ maxLen
 d : F.nD ≤ maxLen
 bd : ∀ i, i < F.nD → (F.D i).b.size ≤ maxLen
def Pkt.fOk (x : Pkt) : Prop := frOkB x.k x.d x.s x.p x.b.size = true
structure Hst.Ok (h : Hst) : Prop where
 le : h.nO ≤ 40
 o : ∀ i, i < h.nO → (h.O i).frOk
 g : ∀ i, i < h.nG → (h.G i).frOk
def Pkt.way (p now dl : Int) (x : Pkt) : Prop := (0 ≤ x.id ∧ x.id ≤ p - 1) ∧ (now + 1 ≤ x.inn ∧ x.inn ≤ now + dl)
def Fab.upOk (F : Fab) : Prop := F.nU ≤ 1000 ∧ ∀ i, i < F.nU → (F.U i).way F.S.C.p F.S.now F.S.C.dl ∧ (F.U i).frOk
def Fab.downOk (F : Fab) : Prop := F.nD ≤ 1000 ∧ ∀ i, i < F.nD → (F.D i).way F.S.C.p F.S.now F.S.C.dl ∧ (F.D i).fOk
def Fab.hostsOk (F : Fab) : Prop := (F.nH : Int) = F.S.C.p ∧ ∀ i, i < F.nH → (F.H i).Ok
structure Fab.Ok (F : Fab) : Prop where
 s : F.S.Ok
 h : F.hostsOk
 u : F.upOk
 d : F.downOk
structure AlikeH (a b : Hst) : Prop where
 st : b.st = a.st
 nO : b.nO = a.nO
 O : b.O = a.O
 nG : b.nG = a.nG
 G : b.G = a.G
theorem AlikeH.symm {a b : Hst} (h : AlikeH a b) : AlikeH b a := ⟨h.st.symm, h.nO.symm, h.O.symm, h.nG.symm, h.G.symm⟩
theorem AlikeH.trans {a b c : Hst} (h : AlikeH a b) (k : AlikeH b c) : AlikeH a c := ⟨k.st.trans h.st, k.nO.trans h.nO, k.O.trans h.O, k.nG.trans h.nG, k.G.trans h.G⟩
theorem AlikeH.ok1 {a b : Hst} (h : AlikeH a b) (k : a.Ok) : b.Ok := ⟨by rw [h.nO]; exact k.le, by rw [h.nO, h.O]; exact k.o, by rw [h.nG, h.G]; exact k.g⟩
theorem AlikeH.small {a b : Hst} (h : AlikeH a b) (k : a.Small) : b.Small := ⟨by rw [h.nO]; exact k.o, by rw [h.nO, h.O]; exact k.bo, by rw [h.nG]; exact k.g, by rw [h.nG, h.G]; exact k.bg⟩
theorem infoFr5 : (Tryz.prog.info? 110).map (·.size) = some 5 := by kernel_rfl
theorem infoHt3 : (Tryz.prog.info? 73).map (·.size) = some 3 := by kernel_rfl
theorem infoFl7 : (Tryz.prog.info? 122).map (·.size) = some 7 := by kernel_rfl
theorem infoFb20 : (Tryz.prog.info? 49).map (·.size) = some 20 := by kernel_rfl
theorem Pkt.oneF (x : Pkt) : x.frame.all (·.oneCell') = true := by simp [Pkt.frame, Value.oneCell']
theorem Pkt.oneV (x : Pkt) : x.flight.all (·.oneCell') = true := by simp [Pkt.flight, Value.oneCell']
theorem Hst.oneH (x : Hst) : x.cells.all (·.oneCell') = true := by simp [Hst.cells, Value.oneCell']
theorem blkT {w : World} {g : Nat} {cs : Array Value} {t : TypeId} (h : w.heap[g]? = some (.cells cs t (0, 0))) (m : Nat) : ∀ j, j < m → w.cell? ⟨g, 0 + j, none⟩ = cs[j]? := fun j _ => by
 rw [Nat.zero_add]
 exact blk_cell h j
theorem blkV7 {w : World} {g : Nat} {x : Pkt} {t : TypeId} (h : w.heap[g]? = some (.cells x.flight t (0, 0))) : ∀ j, j < 5 → w.cell? ⟨g, 2 + j, none⟩ = x.frame[j]?
 | 0, _ => blk_cell h 2
 | 1, _ => blk_cell h 3
 | 2, _ => blk_cell h 4
 | 3, _ => blk_cell h 5
 | 4, _ => blk_cell h 6
 | j + 5, q => absurd q (by omega)
theorem blkSw {w : World} {g : Nat} {F : Fab} {t : TypeId} (h : w.heap[g]? = some (.cells F.cells t (0, 0))) : ∀ j, j < 17 → w.cell? ⟨g, 0 + j, none⟩ = F.S.cells[j]? := fun j hj => by
 rw [Nat.zero_add, blk_cell h j]
 exact F.sw j hj
theorem wpList_ldTg {ops : Array Oper} {rest : List Oper} {o : Oper} {a : Act} {w : World} {Q : Exit → Act → World → Prop} (ty : TypeId) (n : Nat) (d : TypeDesc) (hu : Tryz.prog.underlying ty = some d) (hd : d.isRow = true) (hi : (Tryz.prog.info? ty).map (·.size) = some n) (x : Operand) (ho : o.op = .load ty x) (hw : Region.wanted o (yielded ops a.tmps) = true) (b off : Nat) (hx : a.eval x = .pointer (some ⟨b, off, none⟩))
  (cs : Array Value) (hs : cs.size = n) (hc : ∀ j, j < n → w.cell? ⟨b, off + j, none⟩ = cs[j]?) (h : wpList Tryz.prog ops Q rest (a.put o.dst (.agg cs)) w) : wpList Tryz.prog ops Q (o :: rest) a w :=
 wpList_step fun K hK => by
  rw [if_pos hw]
  have hl := run_loadVar_mid (P := Tryz.prog) w b off ty cs.toList d (fun j v hv => by
   have hj : j < n := by
    have := (List.getElem?_eq_some_iff.1 hv).1
    rw [Array.length_toList] at this
    omega
   rw [hc j hj, ← Array.getElem?_toList]
   exact hv) hu hd (by rw [hi, Array.length_toList, hs])
  rw [Array.toArray_toList] at hl
  unfold Oper.wp execOp
  simp only [ho, hx, Instr.loadAt, Instr.sureAddr, Sem.run_bind, Sem.run_pure, Result.andThen_ok, hl]
  exact hK _ _ h
theorem iFrameOk_ok (x : Pkt) (w : World) (hb : x.b.size ≤ maxLen) (ok : Bool) (hok : ok = true ↔ x.fOk) :
  Calls Tryz.prog 33 #[.agg x.frame] w fun e w' => e = .returned (.bool ok) ∧ Below w.heap.size w w' := by
 refine (iFrameOk_any x.k x.d x.s x.p x.b w hb).mono ?_
 rintro e w1 ⟨rfl, h⟩
 refine ⟨ret_bool ?_, h⟩
 rw [Bool.eq_iff_iff, hok]
 rfl
theorem sFrameOk_ok (x : Pkt) (w : World) (hb : x.b.size ≤ maxLen) (ok : Bool) (hok : ok = true ↔ x.fOk) :
  Calls Tryz.prog 59 #[.agg x.frame] w fun e w' => e = .returned (.bool ok) ∧ Below w.heap.size w w' := by
 refine (sFrameOk_any x.k x.d x.s x.p x.b w hb).mono ?_
 rintro e w1 ⟨rfl, h⟩
 refine ⟨ret_bool ?_, h⟩
 rw [Bool.eq_iff_iff, hok]
 rfl
theorem fitOf {n : Nat} (h : n ≤ 1048576) : n ≤ maxLen := by unfold maxLen; omega
set_option maxRecDepth 10000 in
set_option maxHeartbeats 1000000 in
theorem allData_any (a : Option Addr) (n c : Nat) (F : Nat → Pkt) (w : World) (hn : n ≤ 1048576) (hb : ∀ i, i < n → (F i).b.size ≤ 1048576) (hr : RdF w a n F) (ok : Bool) (hok : ok = true ↔ ∀ i, i < n → (F i).frOk) :
  Calls Tryz.prog 76 #[.slice a n c] w fun e w' => e = .returned (.bool ok) ∧ Below w.heap.size w w' := by
 have HO : Hid (ok = true ↔ ∀ i, i < n → (F i).frOk) := hok
 have HR : Hid (RdF w a n F) := hr
 have HZ : Hid (∀ i, i < n → (F i).b.size ≤ 1048576) := hb
 clear hok hr hb
 go_enter Tryz.func76, Tryz.ntmps76
 go_wp2_with fail
 go_loopw [7] (fun i wr => ∃ k : Nat, k ≤ n ∧ i = .int .i64 k ∧ (∀ i, i < k → (F i).frOk) ∧ Below w.heap.size w wr) (fun i _ => n - (intOf i).toNat)
 case atStart => exact ⟨0, Nat.zero_le _, rfl, fun i hi => by omega, Below.refl _ _⟩
 case round =>
  obtain ⟨k, hk, rfl, hall, hB⟩ := hrel
  have HA : Hid (∀ i, i < k → (F i).frOk) := hall
  clear hall
  by_cases hlt : k < n
  ·
   have hlt' : (k : Int) < n := by omega
   obtain ⟨g, o, ea, hc⟩ := (HR.out.up hB).at hlt
   obtain ⟨V, eV⟩ : ∃ V, wr.alloc (.cells (F k).frame 110) = V := ⟨_, rfl⟩
   have hbV : Below wr.heap.size wr V := by rw [← eV]; exact (Below.refl _ _).alloc (Nat.le_refl _) _
   have kV : V.heap[wr.heap.size]? = some (.cells (F k).frame 110 (0, 0)) := by rw [← eV]; exact blk_new _ _
   have hBV : Below w.heap.size w V := hB.trans (hbV.mono hB.size)
   have HkV : Hid (∀ j, j < 5 → V.cell? ⟨wr.heap.size, 0 + j, none⟩ = (F k).frame[j]?) := blkT kV 5
   obtain ⟨lk, hlk⟩ := ok_decS ((F k).frOk)
   have HL : Hid (lk = true ↔ (F k).frOk) := hlk
   have HC : Hid (∀ j, j < 5 → wr.cell? ⟨g, o + k * 5 + j, none⟩ = (F k).frame[j]?) := hc
   rw [ea]
   clear hlk ea kV hbV hc
   go_wp2_with (first | refine wpList_ldT rfl 110 5 _ Tryz.underlying110 rfl infoFr5 (.tmp 9) rfl g (o + k * 5) rfl (F k).frame rfl HC.out ?_ | refine wpList_stNew 110 5 infoFr5 rfl (.tmp 4) (.tmp 10) rfl (F k).frame _ rfl rfl rfl rfl rfl (Pkt.oneF _) (eV ▸ ?_) | refine wpList_ldT rfl 110 5 _ Tryz.underlying110 rfl infoFr5 (.tmp 4) rfl wr.heap.size 0 rfl (F k).frame rfl HkV.out ?_)
   clear HC HkV
   refine (dataFrameOk_any (F k) _ (fitOf (HZ.out k hlt)) lk HL.out).mono ?_
   rintro e w2 ⟨rfl, hb⟩
   have hB2 : Below w.heap.size w w2 := hBV.trans (hb.mono hBV.size)
   clear hb hBV hB eV
   cases lk
   ·
    have HF : Hid (ok = false) := by
     rw [Hid, Bool.eq_false_iff]
     intro e
     exact absurd (HL.out.2 (HO.out.1 e k hlt)) (by simp)
    go_wp2_with fail
    go_ret
    exact ⟨ret_bool HF.out.symm, hB2⟩
   ·
    have HL2 : Hid ((F k).frOk) := HL.out.1 rfl
    clear HL
    go_wp2_with fail
    go_roundw
    case rel => exact ⟨k + 1, by omega, by go_num, fun i hi => by
     by_cases e : i = k
     ·
      subst e; exact HL2.out
     ·
      exact HA.out i (by omega), hB2⟩
    case measure => simp [intOf]; omega
  ·
   obtain rfl : k = n := by omega
   have HT : Hid (ok = true) := HO.out.2 HA.out
   go_wp2_with fail
   go_ret
   exact ⟨ret_bool HT.out.symm, hB⟩
set_option maxRecDepth 100000 in
set_option maxHeartbeats 4000000 in
theorem iHosts_any (F : Fab) (w : World) (hs : F.Small) (hr : RdFb w F) (ok : Bool) (hok : ok = true ↔ F.hostsOk) :
  Calls Tryz.prog 30 #[.agg F.cells] w fun e w' => e = .returned (.bool ok) ∧ Below w.heap.size w w' := by
 have HO : Hid (ok = true ↔ F.hostsOk) := hok
 have HR : Hid (RdFb w F) := hr
 have HSm : Hid F.Small := hs
 have hnH : F.nH ≤ 1048576 := hs.h
 have hB : Below (w.heap.size + 1) (w.alloc (.cells F.cells 49)) (w.alloc (.cells F.cells 49)) := Below.refl _ _
 have c17 : (w.alloc (.cells F.cells 49)).cell? ⟨w.heap.size, 17, none⟩ = some (.slice F.aH F.nH F.cH) := boxed hB 17
 have c0 : (w.alloc (.cells F.cells 49)).cell? ⟨w.heap.size, 0, none⟩ = some (.int .i64 F.S.C.p) := boxed hB 0
 clear hok hr hs
 by_cases hn : (F.nH : Int) = F.S.C.p
 ·
  have hn' : ((F.nH : Int) != F.S.C.p) = false := by simp [hn]
  have HN : Hid ((F.nH : Int) = F.S.C.p) := hn
  clear hn
  go_enter Tryz.func30, Tryz.ntmps30
  go_wp2_with fail
  clear hn' c17 c0
  go_loopw [16] (fun i wr => ∃ k : Nat, k ≤ F.nH ∧ i = .int .i64 k ∧ (∀ i, i < k → (F.H i).Ok) ∧ Below (w.heap.size + 1) (w.alloc (.cells F.cells 49)) wr) (fun i _ => F.nH - (intOf i).toNat)
  case atStart => exact ⟨0, Nat.zero_le _, rfl, fun i hi => by omega, hB⟩
  case round =>
   clear hB
   obtain ⟨k, hk, rfl, hall, hB⟩ := hrel
   have HA : Hid (∀ i, i < k → (F.H i).Ok) := hall
   clear hall
   by_cases hlt : k < F.nH
   ·
    have hlt' : (k : Int) < F.nH := by omega
    obtain ⟨g, o, ea, hc⟩ := (HR.out.up (under hB)).h.at hlt
    obtain ⟨V, eV⟩ : ∃ V, wr.alloc (.cells (F.H k).cells 73) = V := ⟨_, rfl⟩
    have hbV : Below wr.heap.size wr V := by rw [← eV]; exact (Below.refl _ _).alloc (Nat.le_refl _) _
    have kV : V.heap[wr.heap.size]? = some (.cells (F.H k).cells 73 (0, 0)) := by rw [← eV]; exact blk_new _ _
    have hBV := next hB hbV
    have HkV : Hid (V.heap[wr.heap.size]? = some (.cells (F.H k).cells 73 (0, 0))) := kV
    have v1 : V.cell? ⟨wr.heap.size, 1, none⟩ = some (.slice (F.H k).aO (F.H k).nO (F.H k).cO) := blk_cell kV 1
    have HSk : Hid (F.H k).Small := HSm.out.hs k hlt
    have HRk : Hid (RdHt V (F.H k)) := (HR.out.hs k hlt).up (under hBV)
    have HC : Hid (∀ j, j < 3 → wr.cell? ⟨g, o + k * 3 + j, none⟩ = (F.H k).cells[j]?) := hc
    rw [ea]
    clear ea kV hbV hc
    by_cases h40 : (F.H k).nO ≤ 40
    ·
     have h40' : ¬ (40 : Int) < (F.H k).nO := by omega
     have H40 : Hid ((F.H k).nO ≤ 40) := h40
     clear h40
     obtain ⟨lk, hlk⟩ := ok_decS (∀ i, i < (F.H k).nO → ((F.H k).O i).frOk)
     have HL : Hid (lk = true ↔ ∀ i, i < (F.H k).nO → ((F.H k).O i).frOk) := hlk
     obtain ⟨mk, hmk⟩ := ok_decS (∀ i, i < (F.H k).nG → ((F.H k).G i).frOk)
     have HM : Hid (mk = true ↔ ∀ i, i < (F.H k).nG → ((F.H k).G i).frOk) := hmk
     clear hlk hmk
     go_wp2_with (first | refine wpList_ldT rfl 73 3 _ Tryz.underlying73 rfl infoHt3 (.tmp 18) rfl g (o + k * 3) rfl (F.H k).cells rfl HC.out ?_ | refine wpList_stNew 73 3 infoHt3 rfl (.tmp 4) (.tmp 19) rfl (F.H k).cells _ rfl rfl rfl rfl rfl (Hst.oneH _) (eV ▸ ?_))
     clear HC v1
     refine (allData_any (F.H k).aO (F.H k).nO (F.H k).cO (F.H k).O _ HSk.out.o HSk.out.bo HRk.out.o lk HL.out).mono ?_
     rintro e w2 ⟨rfl, hb⟩
     have hB2 := next hBV hb
     replace HkV : Hid (w2.heap[wr.heap.size]? = some (.cells (F.H k).cells 73 (0, 0))) := (hb.block _ (blk_lt HkV.out)).trans HkV.out
     replace HRk : Hid (RdHt w2 (F.H k)) := HRk.out.up hb
     clear hb hBV hB eV
     cases lk
     ·
      have HF : Hid (ok = false) := by
       rw [Hid, Bool.eq_false_iff]
       intro e
       exact absurd (HL.out.2 ((HO.out.1 e).2 k hlt).o) (by simp)
      go_wp2_with fail
      go_ret
      exact ⟨ret_bool HF.out.symm, under hB2⟩
     ·
      have HL2 : Hid (∀ i, i < (F.H k).nO → ((F.H k).O i).frOk) := HL.out.1 rfl
      have v2 : w2.cell? ⟨wr.heap.size, 2, none⟩ = some (.slice (F.H k).aG (F.H k).nG (F.H k).cG) := blk_cell HkV.out 2
      clear HL
      go_wp2_with fail
      clear v2
      refine (allData_any (F.H k).aG (F.H k).nG (F.H k).cG (F.H k).G _ HSk.out.g HSk.out.bg HRk.out.g mk HM.out).mono ?_
      rintro e w3 ⟨rfl, hb⟩
      have hB3 := next hB2 hb
      clear hb hB2 HkV
      cases mk
      ·
       have HF : Hid (ok = false) := by
        rw [Hid, Bool.eq_false_iff]
        intro e
        exact absurd (HM.out.2 ((HO.out.1 e).2 k hlt).g) (by simp)
       go_wp2_with fail
       go_ret
       exact ⟨ret_bool HF.out.symm, under hB3⟩
      ·
       have HM2 : Hid (∀ i, i < (F.H k).nG → ((F.H k).G i).frOk) := HM.out.1 rfl
       clear HM
       go_wp2_with fail
       go_roundw
       case rel => exact ⟨k + 1, by omega, by go_num, fun i hi => by
        by_cases e : i = k
        ·
         subst e; exact ⟨H40.out, HL2.out, HM2.out⟩
        ·
         exact HA.out i (by omega), hB3⟩
       case measure => simp [intOf]; omega
    ·
     have h40' : (40 : Int) < (F.H k).nO := by omega
     have HF : Hid (ok = false) := by
      rw [Hid, Bool.eq_false_iff]
      intro e
      exact h40 ((HO.out.1 e).2 k hlt).le
     clear h40
     go_wp2_with (first | refine wpList_ldT rfl 73 3 _ Tryz.underlying73 rfl infoHt3 (.tmp 18) rfl g (o + k * 3) rfl (F.H k).cells rfl HC.out ?_ | refine wpList_stNew 73 3 infoHt3 rfl (.tmp 4) (.tmp 19) rfl (F.H k).cells _ rfl rfl rfl rfl rfl (Hst.oneH _) (eV ▸ ?_))
     go_ret
     exact ⟨ret_bool HF.out.symm, under hBV⟩
   ·
    obtain rfl : k = F.nH := by omega
    have hge : ¬ ((F.nH : Nat) : Int) < ((F.nH : Nat) : Int) := by omega
    have HT : Hid (ok = true) := HO.out.2 ⟨HN.out, HA.out⟩
    go_wp2_with fail
    go_ret
    exact ⟨ret_bool HT.out.symm, under hB⟩
 ·
  have hn' : ((F.nH : Int) != F.S.C.p) = true := by simp [hn]
  obtain rfl : ok = false := by
   rw [Bool.eq_false_iff]
   intro e
   exact hn (HO.out.1 e).1
  go_enter Tryz.func30, Tryz.ntmps30
  go_wp2_with fail
  go_ret
  exact ⟨rfl, under hB⟩
set_option maxRecDepth 100000 in
set_option maxHeartbeats 4000000 in
theorem flightsUp_any (S : Swg) (a : Option Addr) (n c : Nat) (U : Nat → Pkt) (w : World) (hn : n ≤ 1048576) (hb : ∀ i, i < n → (U i).b.size ≤ 1048576) (h1 : 0 ≤ S.C.p ∧ S.C.p ≤ 1000000) (h2 : 0 ≤ S.now ∧ S.now ≤ 1000000000) (h3 : 0 ≤ S.C.dl ∧ S.C.dl ≤ 1000000) (hr : RdV w a n U) (ok : Bool) (hok : ok = true ↔ n ≤ 1000 ∧ ∀ i, i < n → (U i).way S.C.p S.now S.C.dl ∧ (U i).frOk) :
  Calls Tryz.prog 31 #[.agg S.cells, .slice a n c, .func (.func 32) #[] #[]] w fun e w' => e = .returned (.bool ok) ∧ Below w.heap.size w w' := by
 have HO : Hid (ok = true ↔ n ≤ 1000 ∧ ∀ i, i < n → (U i).way S.C.p S.now S.C.dl ∧ (U i).frOk) := hok
 have HR : Hid (RdV w a n U) := hr
 have HZ : Hid (∀ i, i < n → (U i).b.size ≤ 1048576) := hb
 have hB : Below (w.heap.size + 1) (w.alloc (.cells S.cells 45)) (w.alloc (.cells S.cells 45)) := Below.refl _ _
 clear hok hr hb
 by_cases hle : n ≤ 1000
 ·
  have hle' : ¬ (1000 : Int) < n := by omega
  go_enter Tryz.func31, Tryz.ntmps31
  go_wp2_with fail
  clear hle'
  go_loopw [14] (fun i wr => ∃ k : Nat, k ≤ n ∧ i = .int .i64 k ∧ (∀ i, i < k → (U i).way S.C.p S.now S.C.dl ∧ (U i).frOk) ∧ Below (w.heap.size + 1) (w.alloc (.cells S.cells 45)) wr) (fun i _ => n - (intOf i).toNat)
  case atStart => exact ⟨0, Nat.zero_le _, rfl, fun i hi => by omega, hB⟩
  case round =>
   clear hB
   obtain ⟨k, hk, rfl, hall, hB⟩ := hrel
   have HA : Hid (∀ i, i < k → (U i).way S.C.p S.now S.C.dl ∧ (U i).frOk) := hall
   clear hall
   by_cases hlt : k < n
   ·
    have hlt' : (k : Int) < n := by omega
    obtain ⟨g, o, ea, hc⟩ := (HR.out.up (under hB)).at hlt
    obtain ⟨V, eV⟩ : ∃ V, wr.alloc (.cells (U k).flight 122) = V := ⟨_, rfl⟩
    have hbV : Below wr.heap.size wr V := by rw [← eV]; exact (Below.refl _ _).alloc (Nat.le_refl _) _
    have kV : V.heap[wr.heap.size]? = some (.cells (U k).flight 122 (0, 0)) := by rw [← eV]; exact blk_new _ _
    have hBV := next hB hbV
    have HkV : Hid (V.heap[wr.heap.size]? = some (.cells (U k).flight 122 (0, 0))) := kV
    have v0 : V.cell? ⟨wr.heap.size, 0, none⟩ = some (.int .i64 (U k).id) := blk_cell kV 0
    have HS : Hid (∀ j, j < 17 → V.cell? ⟨w.heap.size, 0 + j, none⟩ = S.cells[j]?) := blkT (kept1 hBV) 17
    have HC : Hid (∀ j, j < 7 → wr.cell? ⟨g, o + k * 7 + j, none⟩ = (U k).flight[j]?) := hc
    rw [ea]
    clear ea kV hbV hc
    go_wp2_with (first | refine wpList_ldT rfl 122 7 _ Tryz.underlying122 rfl infoFl7 (.tmp 16) rfl g (o + k * 7) rfl (U k).flight rfl HC.out ?_ | refine wpList_stNew 122 7 infoFl7 rfl (.tmp 8) (.tmp 17) rfl (U k).flight _ rfl rfl rfl rfl rfl (Pkt.oneV _) (eV ▸ ?_) | refine wpList_ldT rfl 45 17 _ Tryz.underlying45 rfl infoSg (.tmp 3) rfl w.heap.size 0 rfl S.cells rfl HS.out ?_)
    clear HC HS v0
    refine (hasPort_any S (U k).id _ (by omega) (by omega)).mono ?_
    rintro e w2 ⟨rfl, hb⟩
    have hB2 := next hBV hb
    replace HkV : Hid (w2.heap[wr.heap.size]? = some (.cells (U k).flight 122 (0, 0))) := (hb.block _ (blk_lt HkV.out)).trans HkV.out
    clear hb hBV hB eV
    by_cases hp : 0 ≤ (U k).id ∧ (U k).id ≤ S.C.p - 1
    ·
     rw [decide_eq_true hp]
     have HP : Hid (0 ≤ (U k).id ∧ (U k).id ≤ S.C.p - 1) := hp
     have v1 : w2.cell? ⟨wr.heap.size, 1, none⟩ = some (.int .i64 (U k).inn) := blk_cell HkV.out 1
     have s7 : w2.cell? ⟨w.heap.size, 7, none⟩ = some (.int .i64 S.now) := blk_cell (kept1 hB2) 7
     have s6 : w2.cell? ⟨w.heap.size, 6, none⟩ = some (.int .i64 S.C.dl) := blk_cell (kept1 hB2) 6
     clear hp
     go_wp2_with fail
     clear v1 s7 s6
     refine (isWithin_any (U k).inn (S.now + 1) (S.now + S.C.dl) _).mono ?_
     rintro e w3 ⟨rfl, rfl⟩
     by_cases ht : S.now + 1 ≤ (U k).inn ∧ (U k).inn ≤ S.now + S.C.dl
     ·
      rw [decide_eq_true ht]
      have HT : Hid (S.now + 1 ≤ (U k).inn ∧ (U k).inn ≤ S.now + S.C.dl) := ht
      have HFr : Hid (∀ j, j < 5 → w3.cell? ⟨wr.heap.size, 2 + j, none⟩ = (U k).frame[j]?) := blkV7 HkV.out
      clear ht
      obtain ⟨lk, hlk⟩ := ok_decS ((U k).frOk)
      have HL : Hid (lk = true ↔ (U k).frOk) := hlk
      clear hlk
      go_wp2_with (refine wpList_ldTg 110 5 _ Tryz.underlying110 rfl infoFr5 (.tmp 40) rfl (by kernel_rfl) wr.heap.size 2 rfl (U k).frame rfl HFr.out ?_)
      clear HFr
      refine (dataFrameOk_any (U k) _ (fitOf (HZ.out k hlt)) lk HL.out).mono ?_
      rintro e w4 ⟨rfl, hb⟩
      have hB3 := next hB2 hb
      clear hb hB2 HkV
      cases lk
      ·
       have HF : Hid (ok = false) := by
        rw [Hid, Bool.eq_false_iff]
        intro e
        exact absurd (HL.out.2 ((HO.out.1 e).2 k hlt).2) (by simp)
       go_wp2_with fail
       go_ret
       exact ⟨ret_bool HF.out.symm, under hB3⟩
      ·
       have HL2 : Hid ((U k).frOk) := HL.out.1 rfl
       clear HL
       go_wp2_with fail
       go_roundw
       case rel => exact ⟨k + 1, by omega, by go_num, fun i hi => by
        by_cases e : i = k
        ·
         subst e; exact ⟨⟨HP.out, HT.out⟩, HL2.out⟩
        ·
         exact HA.out i (by omega), hB3⟩
       case measure => simp [intOf]; omega
     ·
      rw [decide_eq_false ht]
      have HF : Hid (ok = false) := by
       rw [Hid, Bool.eq_false_iff]
       intro e
       exact ht ((HO.out.1 e).2 k hlt).1.2
      clear ht
      go_wp2_with fail
      go_ret
      exact ⟨ret_bool HF.out.symm, under hB2⟩
    ·
     rw [decide_eq_false hp]
     have HF : Hid (ok = false) := by
      rw [Hid, Bool.eq_false_iff]
      intro e
      exact hp ((HO.out.1 e).2 k hlt).1.1
     clear hp
     go_wp2_with fail
     go_ret
     exact ⟨ret_bool HF.out.symm, under hB2⟩
   ·
    obtain rfl : k = n := by omega
    have HT : Hid (ok = true) := HO.out.2 ⟨hle, HA.out⟩
    go_wp2_with fail
    go_ret
    exact ⟨ret_bool HT.out.symm, under hB⟩
 ·
  have hle' : (1000 : Int) < n := by omega
  obtain rfl : ok = false := by
   rw [Bool.eq_false_iff]
   intro e
   exact hle (HO.out.1 e).1
  go_enter Tryz.func31, Tryz.ntmps31
  go_wp2_with fail
  go_ret
  exact ⟨rfl, under hB⟩
set_option maxRecDepth 100000 in
set_option maxHeartbeats 4000000 in
theorem flightsDown_any (S : Swg) (a : Option Addr) (n c : Nat) (U : Nat → Pkt) (w : World) (hn : n ≤ 1048576) (hb : ∀ i, i < n → (U i).b.size ≤ 1048576) (h1 : 0 ≤ S.C.p ∧ S.C.p ≤ 1000000) (h2 : 0 ≤ S.now ∧ S.now ≤ 1000000000) (h3 : 0 ≤ S.C.dl ∧ S.C.dl ≤ 1000000) (hr : RdV w a n U) (ok : Bool) (hok : ok = true ↔ n ≤ 1000 ∧ ∀ i, i < n → (U i).way S.C.p S.now S.C.dl ∧ (U i).fOk) :
  Calls Tryz.prog 31 #[.agg S.cells, .slice a n c, .func (.func 33) #[] #[]] w fun e w' => e = .returned (.bool ok) ∧ Below w.heap.size w w' := by
 have HO : Hid (ok = true ↔ n ≤ 1000 ∧ ∀ i, i < n → (U i).way S.C.p S.now S.C.dl ∧ (U i).fOk) := hok
 have HR : Hid (RdV w a n U) := hr
 have HZ : Hid (∀ i, i < n → (U i).b.size ≤ 1048576) := hb
 have hB : Below (w.heap.size + 1) (w.alloc (.cells S.cells 45)) (w.alloc (.cells S.cells 45)) := Below.refl _ _
 clear hok hr hb
 by_cases hle : n ≤ 1000
 ·
  have hle' : ¬ (1000 : Int) < n := by omega
  go_enter Tryz.func31, Tryz.ntmps31
  go_wp2_with fail
  clear hle'
  go_loopw [14] (fun i wr => ∃ k : Nat, k ≤ n ∧ i = .int .i64 k ∧ (∀ i, i < k → (U i).way S.C.p S.now S.C.dl ∧ (U i).fOk) ∧ Below (w.heap.size + 1) (w.alloc (.cells S.cells 45)) wr) (fun i _ => n - (intOf i).toNat)
  case atStart => exact ⟨0, Nat.zero_le _, rfl, fun i hi => by omega, hB⟩
  case round =>
   clear hB
   obtain ⟨k, hk, rfl, hall, hB⟩ := hrel
   have HA : Hid (∀ i, i < k → (U i).way S.C.p S.now S.C.dl ∧ (U i).fOk) := hall
   clear hall
   by_cases hlt : k < n
   ·
    have hlt' : (k : Int) < n := by omega
    obtain ⟨g, o, ea, hc⟩ := (HR.out.up (under hB)).at hlt
    obtain ⟨V, eV⟩ : ∃ V, wr.alloc (.cells (U k).flight 122) = V := ⟨_, rfl⟩
    have hbV : Below wr.heap.size wr V := by rw [← eV]; exact (Below.refl _ _).alloc (Nat.le_refl _) _
    have kV : V.heap[wr.heap.size]? = some (.cells (U k).flight 122 (0, 0)) := by rw [← eV]; exact blk_new _ _
    have hBV := next hB hbV
    have HkV : Hid (V.heap[wr.heap.size]? = some (.cells (U k).flight 122 (0, 0))) := kV
    have v0 : V.cell? ⟨wr.heap.size, 0, none⟩ = some (.int .i64 (U k).id) := blk_cell kV 0
    have HS : Hid (∀ j, j < 17 → V.cell? ⟨w.heap.size, 0 + j, none⟩ = S.cells[j]?) := blkT (kept1 hBV) 17
    have HC : Hid (∀ j, j < 7 → wr.cell? ⟨g, o + k * 7 + j, none⟩ = (U k).flight[j]?) := hc
    rw [ea]
    clear ea kV hbV hc
    go_wp2_with (first | refine wpList_ldT rfl 122 7 _ Tryz.underlying122 rfl infoFl7 (.tmp 16) rfl g (o + k * 7) rfl (U k).flight rfl HC.out ?_ | refine wpList_stNew 122 7 infoFl7 rfl (.tmp 8) (.tmp 17) rfl (U k).flight _ rfl rfl rfl rfl rfl (Pkt.oneV _) (eV ▸ ?_) | refine wpList_ldT rfl 45 17 _ Tryz.underlying45 rfl infoSg (.tmp 3) rfl w.heap.size 0 rfl S.cells rfl HS.out ?_)
    clear HC HS v0
    refine (hasPort_any S (U k).id _ (by omega) (by omega)).mono ?_
    rintro e w2 ⟨rfl, hb⟩
    have hB2 := next hBV hb
    replace HkV : Hid (w2.heap[wr.heap.size]? = some (.cells (U k).flight 122 (0, 0))) := (hb.block _ (blk_lt HkV.out)).trans HkV.out
    clear hb hBV hB eV
    by_cases hp : 0 ≤ (U k).id ∧ (U k).id ≤ S.C.p - 1
    ·
     rw [decide_eq_true hp]
     have HP : Hid (0 ≤ (U k).id ∧ (U k).id ≤ S.C.p - 1) := hp
     have v1 : w2.cell? ⟨wr.heap.size, 1, none⟩ = some (.int .i64 (U k).inn) := blk_cell HkV.out 1
     have s7 : w2.cell? ⟨w.heap.size, 7, none⟩ = some (.int .i64 S.now) := blk_cell (kept1 hB2) 7
     have s6 : w2.cell? ⟨w.heap.size, 6, none⟩ = some (.int .i64 S.C.dl) := blk_cell (kept1 hB2) 6
     clear hp
     go_wp2_with fail
     clear v1 s7 s6
     refine (isWithin_any (U k).inn (S.now + 1) (S.now + S.C.dl) _).mono ?_
     rintro e w3 ⟨rfl, rfl⟩
     by_cases ht : S.now + 1 ≤ (U k).inn ∧ (U k).inn ≤ S.now + S.C.dl
     ·
      rw [decide_eq_true ht]
      have HT : Hid (S.now + 1 ≤ (U k).inn ∧ (U k).inn ≤ S.now + S.C.dl) := ht
      have HFr : Hid (∀ j, j < 5 → w3.cell? ⟨wr.heap.size, 2 + j, none⟩ = (U k).frame[j]?) := blkV7 HkV.out
      clear ht
      obtain ⟨lk, hlk⟩ := ok_decS ((U k).fOk)
      have HL : Hid (lk = true ↔ (U k).fOk) := hlk
      clear hlk
      go_wp2_with (refine wpList_ldTg 110 5 _ Tryz.underlying110 rfl infoFr5 (.tmp 40) rfl (by kernel_rfl) wr.heap.size 2 rfl (U k).frame rfl HFr.out ?_)
      clear HFr
      refine (iFrameOk_ok (U k) _ (fitOf (HZ.out k hlt)) lk HL.out).mono ?_
      rintro e w4 ⟨rfl, hb⟩
      have hB3 := next hB2 hb
      clear hb hB2 HkV
      cases lk
      ·
       have HF : Hid (ok = false) := by
        rw [Hid, Bool.eq_false_iff]
        intro e
        exact absurd (HL.out.2 ((HO.out.1 e).2 k hlt).2) (by simp)
       go_wp2_with fail
       go_ret
       exact ⟨ret_bool HF.out.symm, under hB3⟩
      ·
       have HL2 : Hid ((U k).fOk) := HL.out.1 rfl
       clear HL
       go_wp2_with fail
       go_roundw
       case rel => exact ⟨k + 1, by omega, by go_num, fun i hi => by
        by_cases e : i = k
        ·
         subst e; exact ⟨⟨HP.out, HT.out⟩, HL2.out⟩
        ·
         exact HA.out i (by omega), hB3⟩
       case measure => simp [intOf]; omega
     ·
      rw [decide_eq_false ht]
      have HF : Hid (ok = false) := by
       rw [Hid, Bool.eq_false_iff]
       intro e
       exact ht ((HO.out.1 e).2 k hlt).1.2
      clear ht
      go_wp2_with fail
      go_ret
      exact ⟨ret_bool HF.out.symm, under hB2⟩
    ·
     rw [decide_eq_false hp]
     have HF : Hid (ok = false) := by
      rw [Hid, Bool.eq_false_iff]
      intro e
      exact hp ((HO.out.1 e).2 k hlt).1.1
     clear hp
     go_wp2_with fail
     go_ret
     exact ⟨ret_bool HF.out.symm, under hB2⟩
   ·
    obtain rfl : k = n := by omega
    have HT : Hid (ok = true) := HO.out.2 ⟨hle, HA.out⟩
    go_wp2_with fail
    go_ret
    exact ⟨ret_bool HT.out.symm, under hB⟩
 ·
  have hle' : (1000 : Int) < n := by omega
  obtain rfl : ok = false := by
   rw [Bool.eq_false_iff]
   intro e
   exact hle (HO.out.1 e).1
  go_enter Tryz.func31, Tryz.ntmps31
  go_wp2_with fail
  go_ret
  exact ⟨rfl, under hB⟩
theorem Swg.Ok.nums9 {S : Swg} (h : S.Ok) : (0 ≤ S.C.p ∧ S.C.p ≤ 1000000) ∧ (0 ≤ S.now ∧ S.now ≤ 1000000000) ∧ (0 ≤ S.C.dl ∧ S.C.dl ≤ 1000000) := by
 have h1 := h.n.c.num.p
 have h2 := h.nums.now
 have h3 := h.n.c.num.dl
 omega
set_option maxRecDepth 100000 in
set_option maxHeartbeats 4000000 in
theorem iFabricOk_any (F : Fab) (w : World) (hs : F.Small) (hr : RdFb w F) (ok : Bool) (hok : ok = true ↔ F.Ok) :
  Calls Tryz.prog 8 #[.agg F.cells] w fun e w' => e = .returned (.bool ok) ∧ Below w.heap.size w w' := by
 have HO : Hid (ok = true ↔ F.Ok) := hok
 have HR : Hid (RdFb w F) := hr
 have HS : Hid F.Small := hs
 obtain ⟨W, eW⟩ : ∃ W, w.alloc (.cells F.cells 49) = W := ⟨_, rfl⟩
 have hB : Below (w.heap.size + 1) (w.alloc (.cells F.cells 49)) W := by rw [eW]; exact Below.refl _ _
 have HL : Hid (∀ j, j < 17 → W.cell? ⟨w.heap.size, 0 + j, none⟩ = F.S.cells[j]?) := blkSw (kept1 hB)
 have HB : Hid (Below (w.heap.size + 1) (w.alloc (.cells F.cells 49)) W) := hB
 clear hok hr hs hB
 obtain ⟨b0, h0⟩ := ok_decS (F.S.Ok)
 have G0 : Hid (b0 = true ↔ F.S.Ok) := h0
 clear h0
 obtain ⟨b1, h1⟩ := ok_decS (F.hostsOk)
 have G1 : Hid (b1 = true ↔ F.hostsOk) := h1
 clear h1
 obtain ⟨b2, h2⟩ := ok_decS (F.upOk)
 have G2 : Hid (b2 = true ↔ F.upOk) := h2
 clear h2
 obtain ⟨b3, h3⟩ := ok_decS (F.downOk)
 have G3 : Hid (b3 = true ↔ F.downOk) := h3
 clear h3
 go_enter Tryz.func8, Tryz.ntmps8
 go_wp2_with (refine wpList_ldT rfl 45 17 _ Tryz.underlying45 rfl infoSg (.tmp 3) rfl w.heap.size 0 rfl F.S.cells rfl HL.out ?_)
 clear eW HL
 refine (iSwitchOk_any F.S _ HS.out.s (HR.out.s.up (under HB.out)) b0 G0.out).mono ?_
 rintro e w1 ⟨rfl, hb⟩
 replace HB : Hid (Below (w.heap.size + 1) (w.alloc (.cells F.cells 49)) w1) := next HB.out hb
 clear hb
 cases b0
 ·
  have HF : Hid (ok = false) := by
   rw [Hid, Bool.eq_false_iff]
   intro e
   exact absurd (G0.out.2 (HO.out.1 e).s) (by simp)
  have B9 := under HB.out
  go_wp2_with fail
  go_ret
  exact ⟨ret_bool HF.out.symm, B9⟩
 have P0 : Hid F.S.Ok := G0.out.1 rfl
 have HL : Hid (∀ j, j < 20 → w1.cell? ⟨w.heap.size, 0 + j, none⟩ = F.cells[j]?) := blkT (kept1 HB.out) 20
 clear G0
 go_wp2_with (refine wpList_ldTg 49 20 _ Tryz.underlying49 rfl infoFb20 (.tmp 1) rfl (by kernel_rfl) w.heap.size 0 rfl F.cells rfl HL.out ?_)
 clear HL
 refine (iHosts_any F _ HS.out (HR.out.up (under HB.out)) b1 G1.out).mono ?_
 rintro e w2 ⟨rfl, hb⟩
 replace HB : Hid (Below (w.heap.size + 1) (w.alloc (.cells F.cells 49)) w2) := next HB.out hb
 clear hb
 cases b1
 ·
  have HF : Hid (ok = false) := by
   rw [Hid, Bool.eq_false_iff]
   intro e
   exact absurd (G1.out.2 (HO.out.1 e).h) (by simp)
  have B9 := under HB.out
  go_wp2_with fail
  go_ret
  exact ⟨ret_bool HF.out.symm, B9⟩
 have P1 : Hid (F.hostsOk) := G1.out.1 rfl
 have HL : Hid (∀ j, j < 17 → w2.cell? ⟨w.heap.size, 0 + j, none⟩ = F.S.cells[j]?) := blkSw (kept1 HB.out)
 have cc : w2.cell? ⟨w.heap.size, 18, none⟩ = some (.slice F.aU F.nU F.cU) := blk_cell (kept1 HB.out) 18
 clear G1
 go_wp2_with (refine wpList_ldTg 45 17 _ Tryz.underlying45 rfl infoSg (.tmp 11) rfl (by kernel_rfl) w.heap.size 0 rfl F.S.cells rfl HL.out ?_)
 clear HL cc
 refine (flightsUp_any F.S F.aU F.nU F.cU F.U _ HS.out.u HS.out.bu P0.out.nums9.1 P0.out.nums9.2.1 P0.out.nums9.2.2 (HR.out.u.up (under HB.out)) b2 G2.out).mono ?_
 rintro e w3 ⟨rfl, hb⟩
 replace HB : Hid (Below (w.heap.size + 1) (w.alloc (.cells F.cells 49)) w3) := next HB.out hb
 clear hb
 cases b2
 ·
  have HF : Hid (ok = false) := by
   rw [Hid, Bool.eq_false_iff]
   intro e
   exact absurd (G2.out.2 (HO.out.1 e).u) (by simp)
  have B9 := under HB.out
  go_wp2_with fail
  go_ret
  exact ⟨ret_bool HF.out.symm, B9⟩
 have P2 : Hid (F.upOk) := G2.out.1 rfl
 have HL : Hid (∀ j, j < 17 → w3.cell? ⟨w.heap.size, 0 + j, none⟩ = F.S.cells[j]?) := blkSw (kept1 HB.out)
 have cc : w3.cell? ⟨w.heap.size, 19, none⟩ = some (.slice F.aD F.nD F.cD) := blk_cell (kept1 HB.out) 19
 clear G2
 go_wp2_with (refine wpList_ldTg 45 17 _ Tryz.underlying45 rfl infoSg (.tmp 18) rfl (by kernel_rfl) w.heap.size 0 rfl F.S.cells rfl HL.out ?_)
 clear HL cc
 refine (flightsDown_any F.S F.aD F.nD F.cD F.D _ HS.out.d HS.out.bd P0.out.nums9.1 P0.out.nums9.2.1 P0.out.nums9.2.2 (HR.out.d.up (under HB.out)) b3 G3.out).mono ?_
 rintro e w4 ⟨rfl, hb⟩
 replace HB : Hid (Below (w.heap.size + 1) (w.alloc (.cells F.cells 49)) w4) := next HB.out hb
 clear hb
 cases b3
 ·
  have HF : Hid (ok = false) := by
   rw [Hid, Bool.eq_false_iff]
   intro e
   exact absurd (G3.out.2 (HO.out.1 e).d) (by simp)
  have B9 := under HB.out
  go_wp2_with fail
  go_ret
  exact ⟨ret_bool HF.out.symm, B9⟩
 have HT : Hid (ok = true) := HO.out.2 ⟨P0.out, P1.out, P2.out, G3.out.1 rfl⟩
 have B9 := under HB.out
 go_wp2_with fail
 go_ret
 exact ⟨ret_bool HT.out.symm, B9⟩
def lay (cur : Array Value) (o : Nat) (cs : Array Value) : Array Value := (cur.toList.take o ++ cs.toList ++ cur.toList.drop (o + cs.size)).toArray
theorem lay_size {cur cs : Array Value} {o : Nat} (h : o + cs.size ≤ cur.size) : (lay cur o cs).size = cur.size := by
 unfold lay
 simp
 omega
theorem lay_at {cur cs : Array Value} {o : Nat} (h : o + cs.size ≤ cur.size) (j : Nat) (hj : j < cs.size) : (lay cur o cs)[o + j]? = cs[j]? := by
 unfold lay
 simp only [List.getElem?_toArray]
 rw [List.append_assoc, List.getElem?_append_right (by simp; omega), List.getElem?_append_left (by simp; omega)]
 simp only [List.length_take, Array.length_toList, Array.getElem?_toList]
 congr 1
 omega
theorem lay_lo {cur cs : Array Value} {o : Nat} (h : o + cs.size ≤ cur.size) (j : Nat) (hj : j < o) : (lay cur o cs)[j]? = cur[j]? := by
 unfold lay
 simp only [List.getElem?_toArray]
 rw [List.append_assoc, List.getElem?_append_left (by simp; omega), List.getElem?_take, if_pos hj, Array.getElem?_toList]
structure Put (w W : World) (g : Nat) (cs : Array Value) (t : TypeId) : Prop where
 blk : W.heap[g]? = some (.cells cs t (0, 0))
 to : Touch [g] w W
 size : W.heap.size = w.heap.size
theorem Put.cast {w W : World} {g : Nat} {cs cs' : Array Value} {t : TypeId} (h : Put w W g cs t) (e : cs = cs') : Put w W g cs' t := e ▸ h
theorem put_setRow {w : World} {g : Nat} {cur : Array Value} {t : TypeId} (hg : w.heap[g]? = some (.cells cur t (0, 0))) (cs : Array Value) : Put w (w.setRow g cs) g cs t :=
 ⟨setRow_heap w g cur cs t (0, 0) hg, ⟨rfl, rfl, rfl, by simp, fun k _ hk => setRow_other w g k cs (by simpa using hk)⟩, by simp⟩
theorem run_storeVar_at (w : World) (g off : Nat) (t ty : TypeId) (cur : Array Value) (v : Value) (hg : w.heap[g]? = some (.cells cur t (0, 0))) (hi : (Tryz.prog.info? ty).map (·.size) = some v.cells.size) (hf : off + v.cells.size ≤ cur.size) (h1 : v.cells.all (·.oneCell') = true) :
  (storeVar ty ⟨g, off, none⟩ v).run Tryz.prog w = .ok () (w.setRow g (lay cur off v.cells)) := by
 have := run_storeCells_at (P := Tryz.prog) g off t v.cells.toList 0 cur w hg (by simpa using hf) (fun x hx => (Array.all_eq_true_iff_forall_mem.1 h1) x (by simpa using hx))
 simp only [Nat.add_zero, Array.length_toList] at this
 cases hq : Tryz.prog.info? ty with
 | none => simp [hq] at hi
 | some i =>
  have hs : v.cells.size = i.size := by simp [hq] at hi; omega
  simp [storeVar, sizeOf, typeInfo, hq, hs, this, lay]
theorem wpList_stA {ops : Array Oper} {rest : List Oper} {o : Oper} {a : Act} {w : World} {Q : Exit → Act → World → Prop} (hgd : o.guard = none) (ty : TypeId) (x y : Operand) (ho : o.op = .store ty x y) (g off : Nat) (hx : a.eval x = .pointer (some ⟨g, off, none⟩))
  (v : Value) (hy : a.eval y = v) (n : Nat) (hn : v.cells.size = n) (t : TypeId) (cur : Array Value) (hg : w.heap[g]? = some (.cells cur t (0, 0))) (hi : (Tryz.prog.info? ty).map (·.size) = some n) (hf : off + n ≤ cur.size) (h1 : v.cells.all (·.oneCell') = true)
  (h : ∀ W, Put w W g (lay cur off v.cells) t → wpList Tryz.prog ops Q rest (a.put o.dst undef) W) : wpList Tryz.prog ops Q (o :: rest) a w := by
 subst hn
 refine wpList_plain hgd fun _ hK => ?_
 unfold Oper.wp execOp
 simp only [ho, hx, hy, Instr.storeAt, Instr.sureAddr, Sem.run_bind, Sem.run_pure, Result.andThen_ok, run_storeVar_at w g off t ty cur v hg hi hf h1]
 exact hK _ _ (h _ (put_setRow hg _))
def RowG (t : TypeId) (g o n : Nat) (f : Nat → Value) (w : World) : Prop := ∃ arr : Array Value, w.heap[g]? = some (.cells arr t (0, 0)) ∧ o + n ≤ arr.size ∧ ∀ i, i < n → arr[o + i]? = some (f i)
theorem RowG.lt {t : TypeId} {g o n : Nat} {f : Nat → Value} {w : World} (h : RowG t g o n f w) : g < w.heap.size := by
 obtain ⟨arr, h1, _⟩ := h
 exact blk_lt h1
theorem RowG.keep {t : TypeId} {g o n : Nat} {f : Nat → Value} {w w' : World} (h : RowG t g o n f w) (hb : w'.heap[g]? = w.heap[g]?) : RowG t g o n f w' := by
 obtain ⟨arr, h1, h2⟩ := h
 exact ⟨arr, hb.trans h1, h2⟩
theorem RowG.read {t : TypeId} {g o n : Nat} {f : Nat → Value} {w : World} (h : RowG t g o n f w) : RdRow w (some ⟨g, o, none⟩) n f := fun i hi => by
 obtain ⟨arr, h1, h2, h3⟩ := h
 exact ⟨g, o, rfl, (blk_cell h1 _).trans (h3 i hi)⟩
theorem RowTo.g {g n : Nat} {t : TypeId} {f : Nat → Value} {w : World} (h : RowTo g t n f n w) : RowG t g 0 n f w := by
 obtain ⟨arr, h1, h2, h3⟩ := h
 exact ⟨arr, h1, by omega, fun i hi => by rw [Nat.zero_add]; exact h3 i hi⟩
def VG (t : TypeId) (w : World) (base : Nat) (a : Option Addr) (n : Nat) (f : Nat → Value) : Prop := n = 0 ∨ ∃ g o, a = some ⟨g, o, none⟩ ∧ base ≤ g ∧ RowG t g o n f w
section
variable {t : TypeId} {w w' : World} {base base' : Nat} {a : Option Addr} {n : Nat} {f : Nat → Value} {S : List Nat}
theorem VG.read (h : VG t w base a n f) : RdRow w a n f := by
 rcases h with rfl | ⟨g, o, rfl, _, hr⟩
 ·
  exact RdRow.nil _ _ _
 ·
  exact hr.read
theorem VG.up (h : VG t w base a n f) (hb : Below w.heap.size w w') : VG t w' base a n f :=
 h.imp id (by rintro ⟨g, o, ha, hg, hr⟩; exact ⟨g, o, ha, hg, hr.keep (hb.block _ hr.lt)⟩)
theorem VG.mono (h : VG t w base a n f) (hb : base' ≤ base) : VG t w base' a n f :=
 h.imp id (by rintro ⟨g, o, ha, hg, hr⟩; exact ⟨g, o, ha, by omega, hr⟩)
theorem blkG_mem {g o n : Nat} (h : n ≠ 0) : g ∈ blkV (some ⟨g, o, none⟩) n := by unfold blkV; rw [if_neg h]; simp
theorem VG.touchS (h : VG t w base a n f) (ht : Touch S w w') (hp : ∀ x ∈ blkV a n, x ∉ S) : VG t w' base a n f := by
 rcases h with h | ⟨g, o, rfl, hg, hr⟩
 ·
  exact .inl h
 ·
  by_cases h0 : n = 0
  ·
   exact .inl h0
  exact .inr ⟨g, o, rfl, hg, hr.keep (ht.block g hr.lt (hp g (blkG_mem h0)))⟩
theorem VG.blk (h : VG t w base a n f) : ∀ x ∈ blkV a n, base ≤ x ∧ x < w.heap.size := by
 intro x hx
 unfold blkV at hx
 split at hx
 ·
  simp at hx
 ·
  rcases h with h | ⟨g, o, rfl, hg, hr⟩
  ·
   contradiction
  ·
   simp at hx; subst hx; exact ⟨hg, hr.lt⟩
theorem VG.low (h : VG t w base a n f) (ht : Touch S w w') (hS : ∀ x ∈ S, x < base) : VG t w' base a n f :=
 h.touchS ht (fun x hx hy => by have := (h.blk x hx).1; have := hS x hy; omega)
end
theorem VT.g {t : TypeId} {w : World} {base : Nat} {a : Option Addr} {n : Nat} {f : Nat → Value} (h : VT t w base a n f) : VG t w base a n f :=
 h.imp id (by rintro ⟨g, ha, hg, hr⟩; exact ⟨g, 0, ha, hg, hr.g⟩)
theorem RowTo.vg {t : TypeId} {w : World} {base g n : Nat} {f : Nat → Value} (h : RowTo g t n f n w) (hb : base ≤ g) : VG t w base (some ⟨g, 0, none⟩) n f := .inr ⟨g, 0, rfl, hb, h.g⟩
def flatK (K : Nat → Pkt) (j : Nat) : Value := ((K (j / 8)).cells[j % 8]?).getD (.bool false)
theorem flatK_at (K : Nat → Pkt) (i j : Nat) (h : j < 8) : some (flatK K (i * 8 + j)) = (K i).cells[j]? := by
 unfold flatK
 rw [show (i * 8 + j) / 8 = i by omega, show (i * 8 + j) % 8 = j by omega]
 rw [Array.getElem?_eq_getElem (by rw [Pkt.cells_size]; exact h)]
 rfl
def flatG (L : Nat → Lng) (j : Nat) : Value := ((L (j / 8)).cells[j % 8]?).getD (.bool false)
theorem flatG_at (L : Nat → Lng) (i j : Nat) (h : j < 8) : some (flatG L (i * 8 + j)) = (L i).cells[j]? := by
 unfold flatG
 rw [show (i * 8 + j) / 8 = i by omega, show (i * 8 + j) % 8 = j by omega]
 rw [Array.getElem?_eq_getElem (by rw [Lng.cells_size]; exact h)]
 rfl
theorem VG.ents {t : TypeId} {w : World} {base : Nat} {a : Option Addr} {n : Nat} {f : Nat → Ent} (h : VG t w base a (n * 3) (flat f)) : RdEnt w a n f := by
 intro i hi
 obtain ⟨g, o, ha, h0⟩ := h.read (i * 3) (by omega)
 obtain ⟨g1, o1, ha1, h1⟩ := h.read (i * 3 + 1) (by omega)
 obtain ⟨g2, o2, ha2, h2⟩ := h.read (i * 3 + 2) (by omega)
 rw [ha] at ha1 ha2
 cases ha1
 cases ha2
 rw [flat0] at h0
 rw [flat1] at h1
 rw [flat2] at h2
 exact ⟨g, o, ha, h0, h1, h2⟩
theorem VG.pks {t : TypeId} {w : World} {base : Nat} {a : Option Addr} {n : Nat} {K : Nat → Pkt} (h : VG t w base a (n * 8) (flatK K)) : RdPk w a n K := by
 intro i hi
 obtain ⟨g, o, ha, h0⟩ := h.read (i * 8) (by omega)
 refine ⟨g, o, ha, fun j hj => ?_⟩
 obtain ⟨g1, o1, ha1, h1⟩ := h.read (i * 8 + j) (by omega)
 rw [ha] at ha1
 cases ha1
 rw [flatK_at K i j hj] at h1
 rw [Nat.add_assoc]
 exact h1
theorem VG.lns {t : TypeId} {w : World} {base : Nat} {a : Option Addr} {n : Nat} {L : Nat → Lng} (h : VG t w base a (n * 8) (flatG L)) : RdLs w a n L := by
 intro i hi
 obtain ⟨g, o, ha, h0⟩ := h.read (i * 8) (by omega)
 refine ⟨g, o, ha, fun j hj => ?_⟩
 obtain ⟨g1, o1, ha1, h1⟩ := h.read (i * 8 + j) (by omega)
 rw [ha] at ha1
 cases ha1
 rw [flatG_at L i j hj] at h1
 rw [Nat.add_assoc]
 exact h1
def blkS (n : Nat) (A : Nat → Option Addr) (L : Nat → Nat) : List Nat := (List.range n).flatMap fun i => blkV (A i) (L i)
theorem blkS_mem {n : Nat} {A : Nat → Option Addr} {L : Nat → Nat} {x : Nat} : x ∈ blkS n A L ↔ ∃ i, i < n ∧ x ∈ blkV (A i) (L i) := by
 unfold blkS
 simp
def Lng.blks (l : Lng) : List Nat := blkV l.aT l.nT ++ (blkS l.nU l.uA l.uL ++ (blkV l.R.aQ l.R.nQ ++ (blkV l.R.aD l.R.nD ++ blkS l.R.nS l.R.A l.R.L)))
structure OwnLg (w : World) (base : Nat) (l : Lng) : Prop where
 t : VG 2 w base l.aT l.nT fun i => .int .i64 (l.t i)
 u : VG 25 w base l.aU l.nU fun i => .slice (l.uA i) (l.uL i) (l.uC i)
 z : ∀ i, i < l.nU → VG 2 w base (l.uA i) (l.uL i) fun j => .int .i64 (l.uz i j)
 q : VG 2 w base l.R.aQ l.R.nQ fun i => .int .i64 (l.R.q i)
 d : VG 2 w base l.R.aD l.R.nD fun i => .int .i64 (l.R.d i)
 s : VG 25 w base l.R.aS l.R.nS fun i => .slice (l.R.A i) (l.R.L i) (l.R.C i)
 y : ∀ i, i < l.R.nS → VG 2 w base (l.R.A i) (l.R.L i) fun j => .int .i64 (l.R.z i j)
 nd : l.blks.Nodup
theorem OwnLg.rd {w : World} {base : Nat} {l : Lng} (h : OwnLg w base l) : RdLg w l := ⟨h.t.read, h.u.read, fun i hi => (h.z i hi).read, ⟨h.q.read, h.d.read, h.s.read, fun i hi => (h.y i hi).read⟩⟩
theorem OwnLg.up {w w' : World} {base : Nat} {l : Lng} (h : OwnLg w base l) (hb : Below w.heap.size w w') : OwnLg w' base l :=
 ⟨h.t.up hb, h.u.up hb, fun i hi => (h.z i hi).up hb, h.q.up hb, h.d.up hb, h.s.up hb, fun i hi => (h.y i hi).up hb, h.nd⟩
theorem OwnLg.mono {w : World} {base base' : Nat} {l : Lng} (h : OwnLg w base l) (hb : base' ≤ base) : OwnLg w base' l :=
 ⟨h.t.mono hb, h.u.mono hb, fun i hi => (h.z i hi).mono hb, h.q.mono hb, h.d.mono hb, h.s.mono hb, fun i hi => (h.y i hi).mono hb, h.nd⟩
theorem OwnLg.low {w w' : World} {base : Nat} {l : Lng} {S : List Nat} (h : OwnLg w base l) (ht : Touch S w w') (hS : ∀ x ∈ S, x < base) : OwnLg w' base l :=
 ⟨h.t.low ht hS, h.u.low ht hS, fun i hi => (h.z i hi).low ht hS, h.q.low ht hS, h.d.low ht hS, h.s.low ht hS, fun i hi => (h.y i hi).low ht hS, h.nd⟩
theorem OwnLg.blk {w : World} {base : Nat} {l : Lng} (h : OwnLg w base l) : ∀ x ∈ l.blks, base ≤ x ∧ x < w.heap.size := by
 intro x hx
 unfold Lng.blks at hx
 simp only [List.mem_append, blkS_mem] at hx
 rcases hx with hx | ⟨i, hi, hx⟩ | hx | hx | ⟨i, hi, hx⟩
 ·
  exact h.t.blk x hx
 ·
  exact (h.z i hi).blk x hx
 ·
  exact h.q.blk x hx
 ·
  exact h.d.blk x hx
 ·
  exact (h.y i hi).blk x hx
structure AlikeL (a b : Lng) : Prop where
 st : b.st = a.st
 nT : b.nT = a.nT
 t : b.t = a.t
 nU : b.nU = a.nU
 l : b.uL = a.uL
 z : b.uz = a.uz
 r : Alike a.R b.R
theorem AlikeL.symm {a b : Lng} (h : AlikeL a b) : AlikeL b a := ⟨h.st.symm, h.nT.symm, h.t.symm, h.nU.symm, h.l.symm, h.z.symm, h.r.symm⟩
theorem AlikeL.trans {a b c : Lng} (h : AlikeL a b) (k : AlikeL b c) : AlikeL a c := ⟨k.st.trans h.st, k.nT.trans h.nT, k.t.trans h.t, k.nU.trans h.nU, k.l.trans h.l, k.z.trans h.z, h.r.trans k.r⟩
structure AlikeG (A B : Swg) : Prop where
 c : B.C = A.C
 now : B.now = A.now
 nx : B.nx = A.nx
 nE : B.nE = A.nE
 e : B.e = A.e
 n : AlikeC A.N B.N
 nK : B.nK = A.nK
 k : B.K = A.K
 nL : B.nL = A.nL
 l : ∀ i, i < A.nL → AlikeL (A.L i) (B.L i)
 dr : B.dr = A.dr
 lst : B.lst = A.lst
theorem AlikeG.symm {A B : Swg} (h : AlikeG A B) : AlikeG B A := ⟨h.c.symm, h.now.symm, h.nx.symm, h.nE.symm, h.e.symm, h.n.symm, h.nK.symm, h.k.symm, h.nL.symm, fun i hi => (h.l i (by rw [← h.nL]; exact hi)).symm, h.dr.symm, h.lst.symm⟩
theorem AlikeG.trans {A B C : Swg} (h : AlikeG A B) (k : AlikeG B C) : AlikeG A C := ⟨k.c.trans h.c, k.now.trans h.now, k.nx.trans h.nx, k.nE.trans h.nE, k.e.trans h.e, h.n.trans k.n, k.nK.trans h.nK, k.k.trans h.k, k.nL.trans h.nL, fun i hi => (h.l i hi).trans (k.l i (by rw [h.nL]; exact hi)), k.dr.trans h.dr, k.lst.trans h.lst⟩
theorem AlikeL.small {a b : Lng} (h : AlikeL a b) (hs : a.Small) : b.Small :=
 ⟨by rw [h.nT]; exact hs.t, by rw [h.nU]; exact hs.u, by rw [h.nU, h.l]; exact hs.z, ⟨by rw [h.r.nQ]; exact hs.r.q, by rw [h.r.nD]; exact hs.r.d, by rw [h.r.nS]; exact hs.r.s, by rw [h.r.nS, h.r.l]; exact hs.r.l⟩⟩
theorem AlikeG.small {A B : Swg} (h : AlikeG A B) (hs : A.Small) : B.Small :=
 ⟨by rw [h.nE]; exact hs.e, h.n.small hs.n, by rw [h.nK]; exact hs.k, by rw [h.nK, h.k]; exact hs.b, by rw [h.nL]; exact hs.l, fun i hi => by rw [h.nL] at hi; exact (h.l i hi).small (hs.ls i hi)⟩
theorem Alike.ok1 {a b : Rnd} (h : Alike a b) (k : a.Ok) : b.Ok := by
 obtain ⟨aQ, nQ, cQ, q, aD, nD, cD, d, turn, fresh, aS, nS, cS, A, L, C, z⟩ := a
 obtain ⟨aQ', nQ', cQ', q', aD', nD', cD', d', turn', fresh', aS', nS', cS', A', L', C', z'⟩ := b
 obtain ⟨h1, h2, h3, h4, h5, h6, h7, h8, h9⟩ := h
 dsimp only at h1 h2 h3 h4 h5 h6 h7 h8 h9
 subst h1 h2 h3 h4 h5 h6 h7 h8 h9
 exact ⟨k.n, k.d, k.s, k.t, k.c⟩
theorem AlikeL.ok1 {a b : Lng} {m : Nat} {K : Nat → Pkt} (h : AlikeL a b) (k : LgOk m K a) : LgOk m K b :=
 ⟨h.r.ok1 k.r, by rw [h.r.nQ]; exact k.n, by rw [h.r.q]; exact k.q0, by rw [h.r.q]; exact k.q1, by rw [h.nU]; exact k.u, fun c hc => by
  rw [h.l, h.z, h.r.l, h.r.z]; exact k.z c hc, by rw [h.nT, h.t]; exact k.t⟩
theorem occU_alike {a b : Lng} (h : AlikeL a b) (x : Int) : ∀ c, occU b x c = occU a x c := by
 intro c
 induction c with
 | zero => rfl
 | succ c ih =>
  show occU b x c + occ (b.uz c) x (b.uL c) = occU a x c + occ (a.uz c) x (a.uL c)
  rw [ih, h.z, h.l]
theorem occL_alike {A B : Nat → Lng} {n : Nat} (h : ∀ i, i < n → AlikeL (A i) (B i)) (x : Int) : ∀ i, i ≤ n → occL B x i = occL A x i := by
 intro i
 induction i with
 | zero => intro _; rfl
 | succ i ih =>
  intro hi
  have hl := h i (by omega)
  show occL B x i + (occ (B i).t x (B i).nT + occU (B i) x (B i).nU) = occL A x i + (occ (A i).t x (A i).nT + occU (A i) x (A i).nU)
  rw [ih (by omega), hl.t, hl.nT, hl.nU, occU_alike hl]
theorem AlikeG.ok1 {A B : Swg} (h : AlikeG A B) (k : A.Ok) : B.Ok := by
 refine ⟨by rw [h.c]; exact h.n.ok.2 k.n, ⟨by rw [h.now]; exact k.nums.now, by rw [h.nx]; exact k.nums.nx, by rw [h.dr]; exact k.nums.dr, by rw [h.lst]; exact k.nums.lst⟩, ?_, by rw [h.nx, h.c, h.nK, h.k]; exact k.k, by rw [h.nL, h.c]; exact k.nl, fun i hi => ?_, fun j hj => ?_, ?_⟩
 ·
  unfold Swg.seen
  rw [h.nE, h.e, h.c, h.now]
  exact k.seen
 ·
  rw [h.nL] at hi
  rw [h.nK, h.k]
  exact (h.l i hi).ok1 (k.l i hi)
 ·
  rw [h.nK] at hj
  rw [h.k, h.nL, occL_alike h.l _ _ (Nat.le_refl _)]
  exact k.refs j hj
 ·
  unfold Swg.heldP
  rw [h.n.lo, h.k, h.nK, h.n.nU, h.n.u]
  exact k.held
theorem VT.low {t : TypeId} {w w' : World} {base : Nat} {a : Option Addr} {n : Nat} {f : Nat → Value} {S : List Nat} (h : VT t w base a n f) (ht : Touch S w w') (hS : ∀ x ∈ S, x < base) : VT t w' base a n f :=
 h.touchS ht (fun x hx hy => by have := (h.blk x hx).1; have := hS x hy; omega)
structure OwnSg (w : World) (base : Nat) (S : Swg) : Prop where
 e : VT 109 w base S.aE (S.nE * 3) (flat S.e)
 u : VT 2 w base S.N.aU S.N.nU fun i => .int .i64 (S.N.u i)
 p : VT 4 w base S.N.aP S.N.nP fun i => .bool (S.N.p i)
 k : VT 112 w base S.aK (S.nK * 8) (flatK S.K)
 l : VT 118 w base S.aL (S.nL * 8) (flatG S.L)
 ls : ∀ i, i < S.nL → OwnLg w base (S.L i)
 nd : (blkV S.N.aU S.N.nU ++ (List.range S.nL).flatMap fun i => (S.L i).blks).Nodup
theorem OwnSg.rd {w : World} {base : Nat} {S : Swg} (h : OwnSg w base S) : RdSg w S := ⟨h.e.g.ents, ⟨h.u.read, h.p.read⟩, h.k.g.pks, h.l.g.lns, fun i hi => (h.ls i hi).rd⟩
theorem OwnSg.mono {w : World} {base base' : Nat} {S : Swg} (h : OwnSg w base S) (hb : base' ≤ base) : OwnSg w base' S :=
 ⟨h.e.mono hb, h.u.mono hb, h.p.mono hb, h.k.mono hb, h.l.mono hb, fun i hi => (h.ls i hi).mono hb, h.nd⟩
theorem OwnSg.low {w w' : World} {base : Nat} {S : Swg} {T : List Nat} (h : OwnSg w base S) (ht : Touch T w w') (hS : ∀ x ∈ T, x < base) : OwnSg w' base S :=
 ⟨h.e.low ht hS, h.u.low ht hS, h.p.low ht hS, h.k.low ht hS, h.l.low ht hS, fun i hi => (h.ls i hi).low ht hS, h.nd⟩
theorem nodup_app {a b : List Nat} (ha : a.Nodup) (hb : b.Nodup) (m : Nat) (h1 : ∀ x ∈ a, x < m) (h2 : ∀ x ∈ b, m ≤ x) : (a ++ b).Nodup :=
 List.nodup_append.2 ⟨ha, hb, fun x hx y hy e => by have := h1 x hx; have := h2 y hy; omega⟩
theorem blkV_nodup (a : Option Addr) (n : Nat) : (blkV a n).Nodup := by
 unfold blkV
 split
 ·
  exact List.nodup_nil
 ·
  cases a <;> simp
end Go.Proofs.YtfkpncopkgidfaaGreat
