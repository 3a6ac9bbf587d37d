/- Lanes: rows of them, two held against each other. -/
import Derived.Test.YtclibohnmjkliaaRnMkR
import Derived.Maps.AppendAt
import Derived.Room.AppendFits
namespace Go.Proofs.Ytclibohnmjkliaa
open Go.RowKit
set_option linter.unusedVariables false
set_option linter.unusedSimpArgs false

structure Ln where
  st : Bool
  aU : Option Addr
  cU : Nat
  R : Rnd
def Ln.cells (l : Ln) : Array Value := #[.bool l.st, .slice none 0 0, .slice l.aU 2 l.cU, .slice l.R.aQ l.R.nQ l.R.cQ, .slice l.R.aD l.R.nD l.R.cD, .int .i64 l.R.turn, .bool l.R.fresh, .slice l.R.aS l.R.nS l.R.cS]
theorem Ln.cells_size (l : Ln) : l.cells.size = 8 := rfl
def flatL (L : Nat → Ln) (j : Nat) : Value := ((L (j / 8)).cells[j % 8]?).getD (.bool false)
theorem flatL_at (L : Nat → Ln) (i j : Nat) (h : j < 8) : some (flatL L (i * 8 + j)) = (L i).cells[j]? := by
  unfold flatL
  rw [show (i * 8 + j) / 8 = i by omega, show (i * 8 + j) % 8 = j by omega]
  have : j < (L i).cells.size := by rw [Ln.cells_size]; exact h
  simp [this]
/-- a slice of n lanes -/
def RdLn (w : World) (a : Option Addr) (n : Nat) (L : Nat → Ln) : Prop := ∀ i, i < n → ∃ g o, a = some ⟨g, o, none⟩ ∧ ∀ j, j < 8 → w.cell? ⟨g, o + i * 8 + j, none⟩ = (L i).cells[j]?
theorem RdLn.nil (w : World) (a : Option Addr) (L : Nat → Ln) : RdLn w a 0 L := fun i hi => by omega
theorem RdLn.up {w w2 : World} {a : Option Addr} {n : Nat} {L : Nat → Ln} (h : RdLn w a n L) (hb : Below w.heap.size w w2) : RdLn w2 a n L := by
  intro i hi
  obtain ⟨g, o, ha, hc⟩ := h i hi
  refine ⟨g, o, ha, fun j hj => ?_⟩
  have h2 := hc j hj
  have h3 : j < (L i).cells.size := by rw [Ln.cells_size]; exact hj
  rw [Array.getElem?_eq_getElem h3] at h2
  exact ((hb.cell (p := ⟨g, o + i * 8 + j, none⟩) (cellLt h2)).trans h2).trans (Array.getElem?_eq_getElem h3).symm
theorem RowTo.lanes {g n : Nat} {t : TypeId} {L : Nat → Ln} {w : World} (h : RowTo g t (n * 8) (flatL L) (n * 8) w) : RdLn w (some ⟨g, 0, none⟩) n L := by
  intro i hi
  refine ⟨g, 0, rfl, fun j hj => ?_⟩
  rw [Nat.zero_add, h.at (i * 8 + j) (by omega), flatL_at L i j hj]
/-- two lanes that read alike -/
structure EqL (w : World) (l1 l2 : Ln) : Prop where
  st : l2.st = l1.st
  u1 : RdRow w l1.aU 2 fun _ => .slice none 0 0
  u2 : RdRow w l2.aU 2 fun _ => .slice none 0 0
  hs : l1.R.Small
  h1 : RdRnd w l1.R
  h2 : RdRnd w l2.R
  ha : Alike l1.R l2.R
theorem EqL.up {w w2 : World} {l1 l2 : Ln} (h : EqL w l1 l2) (hb : Below w.heap.size w w2) : EqL w2 l1 l2 := ⟨h.st, h.u1.up hb, h.u2.up hb, h.hs, h.h1.up hb, h.h2.up hb, h.ha⟩
set_option maxHeartbeats 1000000 in
theorem eqLane_any (l1 l2 : Ln) (w : World) (h : EqL w l1 l2) :
    Calls Try.prog 36 #[.agg l1.cells, .agg l2.cells] w fun e w' => e = .returned (.bool true) ∧ Below w.heap.size w w' := by
  obtain ⟨st, aU, cU, R1⟩ := l1
  obtain ⟨st2, aU2, cU2, R2⟩ := l2
  obtain rfl : st2 = st := h.st
  have HE : Hid (EqL w ⟨st2, aU, cU, R1⟩ ⟨st2, aU2, cU2, R2⟩) := h
  have hbb : (st2 != st2) = false := by cases st2 <;> rfl
  clear h
  have HA : Hid (∀ o1 o2, Below w.heap.size w ((w.alloc o1).alloc o2)) := fun o1 o2 => (((Below.refl _ _).alloc (Nat.le_refl _) _).alloc (by simp) _)
  unfold Ln.cells
  dsimp only
  go_enter Try.func36, Try.ntmps36
  go_wp2_with fail
  refine (eqInts_any none none 0 0 0 (fun _ => 0) _ (by omega) (fun i hi => by omega) (fun i hi => by omega)).mono ?_
  rintro e w1 ⟨rfl, hS1⟩
  have c1 := fun (b : Nat) (i : Nat) => hS1.cell ⟨b, i, none⟩
  have b1 := (HA.out _ _).trans (hS1.below _)
  go_wp2_with fail
  refine (eqIntss_any aU aU2 2 cU cU2 (fun _ => none) (fun _ => none) (fun _ => 0) (fun _ => 0) (fun _ => 0) (fun _ _ => 0) _ (by omega) (fun _ _ => by omega) (HE.out.u1.up b1) (HE.out.u2.up b1) (fun i hi => RdRow.nil _ _ _) (fun i hi => RdRow.nil _ _ _)).mono ?_
  rintro e w2 ⟨rfl, hS2⟩
  have c2 := fun (b : Nat) (i : Nat) => hS2.cell ⟨b, i, none⟩
  have b2 := b1.trans (hS2.below _)
  go_wp2_with fail
  have HG := HE.out.ha
  refine (eqRound_any R1 R2 _ HE.out.hs (HE.out.h1.up b2) (HE.out.h2.up b2) HG.nQ HG.q HG.nD HG.d HG.t HG.f HG.nS HG.l HG.z).mono ?_
  rintro e w3 ⟨rfl, hb⟩
  have b3 := b2.trans (hb.mono b2.size)
  clear hb c1 c2
  go_wp2_with fail
  go_ret
  exact ⟨rfl, b3⟩
set_option maxHeartbeats 4000000 in
theorem eqLanes_any (a1 a2 : Option Addr) (n c1 c2 : Nat) (L1 L2 : Nat → Ln) (w : World) (hn : n ≤ 1048576) (h1 : RdLn w a1 n L1) (h2 : RdLn w a2 n L2) (he : ∀ i, i < n → EqL w (L1 i) (L2 i)) :
    Calls Try.prog 18 #[.slice a1 n c1, .slice a2 n c2] w fun e w' => e = .returned (.bool true) ∧ Below w.heap.size w w' := by
  have H1 : Hid (RdLn w a1 n L1) := h1
  have H2 : Hid (RdLn w a2 n L2) := h2
  have HE : Hid (∀ i, i < n → EqL w (L1 i) (L2 i)) := he
  clear h1 h2 he
  go_enter Try.func18, Try.ntmps18
  go_wp2_with fail
  go_loopw [5] (fun i wr => ∃ k : Nat, k ≤ n ∧ i = .int .i64 k ∧ Below w.heap.size w wr) (fun i _ => n - (intOf i).toNat)
  case atStart => exact ⟨0, Nat.zero_le _, rfl, Below.refl _ _⟩
  case round =>
    obtain ⟨k, hk, rfl, hB⟩ := hrel
    by_cases hlt : k < n
    · have hlt' : (k : Int) < n := by omega
      obtain ⟨g, o, rfl, C⟩ := (H1.out.up hB) k hlt
      obtain ⟨g2, o2, rfl, D⟩ := (H2.out.up hB) k hlt
      have HE2 : Hid (EqL wr.drew (L1 k) (L2 k)) := (HE.out k hlt).up hB.drew
      generalize L1 k = l1 at *
      generalize L2 k = l2 at *
      have c0 : wr.cell? ⟨g, o + k * 8, none⟩ = some (.bool l1.st) := C 0 (by omega)
      have d0 : wr.cell? ⟨g2, o2 + k * 8, none⟩ = some (.bool l2.st) := D 0 (by omega)
      have c1 : wr.cell? ⟨g, o + k * 8 + 1, none⟩ = some (.slice none 0 0) := C 1 (by omega)
      have d1 : wr.cell? ⟨g2, o2 + k * 8 + 1, none⟩ = some (.slice none 0 0) := D 1 (by omega)
      have c2 : wr.cell? ⟨g, o + k * 8 + 2, none⟩ = some (.slice l1.aU 2 l1.cU) := C 2 (by omega)
      have d2 : wr.cell? ⟨g2, o2 + k * 8 + 2, none⟩ = some (.slice l2.aU 2 l2.cU) := D 2 (by omega)
      have c3 : wr.cell? ⟨g, o + k * 8 + 3, none⟩ = some (.slice l1.R.aQ l1.R.nQ l1.R.cQ) := C 3 (by omega)
      have d3 : wr.cell? ⟨g2, o2 + k * 8 + 3, none⟩ = some (.slice l2.R.aQ l2.R.nQ l2.R.cQ) := D 3 (by omega)
      have c4 : wr.cell? ⟨g, o + k * 8 + 4, none⟩ = some (.slice l1.R.aD l1.R.nD l1.R.cD) := C 4 (by omega)
      have d4 : wr.cell? ⟨g2, o2 + k * 8 + 4, none⟩ = some (.slice l2.R.aD l2.R.nD l2.R.cD) := D 4 (by omega)
      have c5 : wr.cell? ⟨g, o + k * 8 + 5, none⟩ = some (.int .i64 l1.R.turn) := C 5 (by omega)
      have d5 : wr.cell? ⟨g2, o2 + k * 8 + 5, none⟩ = some (.int .i64 l2.R.turn) := D 5 (by omega)
      have c6 : wr.cell? ⟨g, o + k * 8 + 6, none⟩ = some (.bool l1.R.fresh) := C 6 (by omega)
      have d6 : wr.cell? ⟨g2, o2 + k * 8 + 6, none⟩ = some (.bool l2.R.fresh) := D 6 (by omega)
      have c7 : wr.cell? ⟨g, o + k * 8 + 7, none⟩ = some (.slice l1.R.aS l1.R.nS l1.R.cS) := C 7 (by omega)
      have d7 : wr.cell? ⟨g2, o2 + k * 8 + 7, none⟩ = some (.slice l2.R.aS l2.R.nS l2.R.cS) := D 7 (by omega)
      clear C D
      go_wp2_with fail
      refine wp_region_held_drew (S := fun w' => w'.cell? ⟨g, o + k * 8, none⟩ = some (.bool l1.st) ∧ w'.cell? ⟨g, o + k * 8 + 1, none⟩ = some (.slice none 0 0) ∧ w'.cell? ⟨g, o + k * 8 + 2, none⟩ = some (.slice l1.aU 2 l1.cU) ∧ w'.cell? ⟨g, o + k * 8 + 3, none⟩ = some (.slice l1.R.aQ l1.R.nQ l1.R.cQ) ∧ w'.cell? ⟨g, o + k * 8 + 4, none⟩ = some (.slice l1.R.aD l1.R.nD l1.R.cD) ∧ w'.cell? ⟨g, o + k * 8 + 5, none⟩ = some (.int .i64 l1.R.turn) ∧ w'.cell? ⟨g, o + k * 8 + 6, none⟩ = some (.bool l1.R.fresh) ∧ w'.cell? ⟨g, o + k * 8 + 7, none⟩ = some (.slice l1.R.aS l1.R.nS l1.R.cS) ∧ w'.cell? ⟨g2, o2 + k * 8, none⟩ = some (.bool l2.st) ∧ w'.cell? ⟨g2, o2 + k * 8 + 1, none⟩ = some (.slice none 0 0) ∧ w'.cell? ⟨g2, o2 + k * 8 + 2, none⟩ = some (.slice l2.aU 2 l2.cU) ∧ w'.cell? ⟨g2, o2 + k * 8 + 3, none⟩ = some (.slice l2.R.aQ l2.R.nQ l2.R.cQ) ∧ w'.cell? ⟨g2, o2 + k * 8 + 4, none⟩ = some (.slice l2.R.aD l2.R.nD l2.R.cD) ∧ w'.cell? ⟨g2, o2 + k * 8 + 5, none⟩ = some (.int .i64 l2.R.turn) ∧ w'.cell? ⟨g2, o2 + k * 8 + 6, none⟩ = some (.bool l2.R.fresh) ∧ w'.cell? ⟨g2, o2 + k * 8 + 7, none⟩ = some (.slice l2.R.aS l2.R.nS l2.R.cS)) (by kernel_rfl) ⟨c0, c1, c2, c3, c4, c5, c6, c7, d0, d1, d2, d3, d4, d5, d6, d7⟩ (fun hHeld => ?_)
      refine takeD (i := 0) (some 17) (v := ?_) rfl rfl (by kernel_rfl) (by kernel_rfl) (by kernel_rfl) (fun _ _ _ h => h) (by kernel_rfl) ?_ (by assumption) ?_
      rotate_left
      · intro wx hSw
        obtain ⟨hS1, hS2, hS3, hS4, hS5, hS6, hS7, hS8, hS9, hS10, hS11, hS12, hS13, hS14, hS15, hS16⟩ := hSw
        go_simp
        try (with_reducible rfl)
      try simp only [Act.put, List.setIfInBounds_toArray, List.set_cons_zero, List.set_cons_succ]
      refine takeD (i := 1) (some 18) (v := ?_) rfl rfl (by kernel_rfl) (by kernel_rfl) (by kernel_rfl) (fun _ _ _ h => h) (by kernel_rfl) ?_ (by assumption) ?_
      rotate_left
      · intro wx hSw
        obtain ⟨hS1, hS2, hS3, hS4, hS5, hS6, hS7, hS8, hS9, hS10, hS11, hS12, hS13, hS14, hS15, hS16⟩ := hSw
        go_simp
        try (with_reducible rfl)
      try simp only [Act.put, List.setIfInBounds_toArray, List.set_cons_zero, List.set_cons_succ]
      refine takeD (i := 2) (some 19) (v := ?_) rfl rfl (by kernel_rfl) (by kernel_rfl) (by kernel_rfl) (fun _ _ _ h => h) (by kernel_rfl) ?_ (by assumption) ?_
      rotate_left
      · intro wx hSw
        obtain ⟨hS1, hS2, hS3, hS4, hS5, hS6, hS7, hS8, hS9, hS10, hS11, hS12, hS13, hS14, hS15, hS16⟩ := hSw
        go_simp
        try (with_reducible rfl)
      try simp only [Act.put, List.setIfInBounds_toArray, List.set_cons_zero, List.set_cons_succ]
      refine takeD (i := 3) (some 20) (v := ?_) rfl rfl (by kernel_rfl) (by kernel_rfl) (by kernel_rfl) (fun _ _ _ h => h) (by kernel_rfl) ?_ (by assumption) ?_
      rotate_left
      · intro wx hSw
        obtain ⟨hS1, hS2, hS3, hS4, hS5, hS6, hS7, hS8, hS9, hS10, hS11, hS12, hS13, hS14, hS15, hS16⟩ := hSw
        go_simp
        try (with_reducible rfl)
      try simp only [Act.put, List.setIfInBounds_toArray, List.set_cons_zero, List.set_cons_succ]
      refine takeD (i := 4) (some 21) (v := ?_) rfl rfl (by kernel_rfl) (by kernel_rfl) (by kernel_rfl) (fun _ _ _ h => h) (by kernel_rfl) ?_ (by assumption) ?_
      rotate_left
      · intro wx hSw
        obtain ⟨hS1, hS2, hS3, hS4, hS5, hS6, hS7, hS8, hS9, hS10, hS11, hS12, hS13, hS14, hS15, hS16⟩ := hSw
        go_simp
        try (with_reducible rfl)
      try simp only [Act.put, List.setIfInBounds_toArray, List.set_cons_zero, List.set_cons_succ]
      refine takeD (i := 5) (some 22) (v := ?_) rfl rfl (by kernel_rfl) (by kernel_rfl) (by kernel_rfl) (fun _ _ _ h => h) (by kernel_rfl) ?_ (by assumption) ?_
      rotate_left
      · intro wx hSw
        obtain ⟨hS1, hS2, hS3, hS4, hS5, hS6, hS7, hS8, hS9, hS10, hS11, hS12, hS13, hS14, hS15, hS16⟩ := hSw
        go_simp
        try (with_reducible rfl)
      try simp only [Act.put, List.setIfInBounds_toArray, List.set_cons_zero, List.set_cons_succ]
      refine takeD (i := 6) (some 23) (v := ?_) rfl rfl (by kernel_rfl) (by kernel_rfl) (by kernel_rfl) (fun _ _ _ h => h) (by kernel_rfl) ?_ (by assumption) ?_
      rotate_left
      · intro wx hSw
        obtain ⟨hS1, hS2, hS3, hS4, hS5, hS6, hS7, hS8, hS9, hS10, hS11, hS12, hS13, hS14, hS15, hS16⟩ := hSw
        go_simp
        try (with_reducible rfl)
      try simp only [Act.put, List.setIfInBounds_toArray, List.set_cons_zero, List.set_cons_succ]
      refine takeD (i := 7) (some 24) (v := ?_) rfl rfl (by kernel_rfl) (by kernel_rfl) (by kernel_rfl) (fun _ _ _ h => h) (by kernel_rfl) ?_ (by assumption) ?_
      rotate_left
      · intro wx hSw
        obtain ⟨hS1, hS2, hS3, hS4, hS5, hS6, hS7, hS8, hS9, hS10, hS11, hS12, hS13, hS14, hS15, hS16⟩ := hSw
        go_simp
        try (with_reducible rfl)
      try simp only [Act.put, List.setIfInBounds_toArray, List.set_cons_zero, List.set_cons_succ]
      refine wpAnyH_ready (rs := [8]) (by kernel_rfl) (by simp) ?_
      refine AllReadyH.cons rfl (fun K hK => ?_) AllReadyH.nil
      go_simp
      refine (eqLane_any l1 l2 wr.drew HE2.out).mono ?_
      rintro e w1 ⟨rfl, hb1⟩
      have b1 : Below wr.heap.size wr w1 := (Below.refl wr.heap.size wr).drew.trans hb1
      have c0 := (b1.cell (p := ⟨g, o + k * 8, none⟩) (cellLt c0)).trans c0
      have d0 := (b1.cell (p := ⟨g2, o2 + k * 8, none⟩) (cellLt d0)).trans d0
      have c1 := (b1.cell (p := ⟨g, o + k * 8 + 1, none⟩) (cellLt c1)).trans c1
      have d1 := (b1.cell (p := ⟨g2, o2 + k * 8 + 1, none⟩) (cellLt d1)).trans d1
      have c2 := (b1.cell (p := ⟨g, o + k * 8 + 2, none⟩) (cellLt c2)).trans c2
      have d2 := (b1.cell (p := ⟨g2, o2 + k * 8 + 2, none⟩) (cellLt d2)).trans d2
      have c3 := (b1.cell (p := ⟨g, o + k * 8 + 3, none⟩) (cellLt c3)).trans c3
      have d3 := (b1.cell (p := ⟨g2, o2 + k * 8 + 3, none⟩) (cellLt d3)).trans d3
      have c4 := (b1.cell (p := ⟨g, o + k * 8 + 4, none⟩) (cellLt c4)).trans c4
      have d4 := (b1.cell (p := ⟨g2, o2 + k * 8 + 4, none⟩) (cellLt d4)).trans d4
      have c5 := (b1.cell (p := ⟨g, o + k * 8 + 5, none⟩) (cellLt c5)).trans c5
      have d5 := (b1.cell (p := ⟨g2, o2 + k * 8 + 5, none⟩) (cellLt d5)).trans d5
      have c6 := (b1.cell (p := ⟨g, o + k * 8 + 6, none⟩) (cellLt c6)).trans c6
      have d6 := (b1.cell (p := ⟨g2, o2 + k * 8 + 6, none⟩) (cellLt d6)).trans d6
      have c7 := (b1.cell (p := ⟨g, o + k * 8 + 7, none⟩) (cellLt c7)).trans c7
      have d7 := (b1.cell (p := ⟨g2, o2 + k * 8 + 7, none⟩) (cellLt d7)).trans d7
      go_wp2_with fail
      refine hK.out _ _ ⟨c0, c1, c2, c3, c4, c5, c6, c7, d0, d1, d2, d3, d4, d5, d6, d7⟩ (fun hHeld => ?_)
      clear hK K
      try simp only [Act.put, List.setIfInBounds_toArray, List.set_cons_zero, List.set_cons_succ]
      refine takeD (i := 9) (some 26) (v := ?_) rfl rfl (by kernel_rfl) (by kernel_rfl) (by kernel_rfl) (fun _ _ _ h => h) (by kernel_rfl) ?_ (by assumption) ?_
      rotate_left
      · intro wx hSw
        obtain ⟨hS1, hS2, hS3, hS4, hS5, hS6, hS7, hS8, hS9, hS10, hS11, hS12, hS13, hS14, hS15, hS16⟩ := hSw
        go_simp
        try (with_reducible rfl)
      try simp only [Act.put, List.setIfInBounds_toArray, List.set_cons_zero, List.set_cons_succ]
      refine wpAnyH_done (by kernel_rfl) ?_ _
      have HB : Hid (Below w.heap.size w w1) := hB.trans (b1.mono hB.size)
      clear b1 hb1 hB c0 c1 c2 c3 c4 c5 c6 c7 d0 d1 d2 d3 d4 d5 d6 d7 hHeld
      go_wp2_with fail
      go_roundw
      case rel => exact ⟨k + 1, by omega, by go_num, HB.out⟩
      case measure => simp [intOf]; omega
    · obtain rfl : k = n := by omega
      go_wp2_with fail
      go_ret
      exact ⟨rfl, hB⟩
end Go.Proofs.Ytclibohnmjkliaa
