/- Switches that know nothing and have nothing: their cells, two held against each other, marked and looked at again. -/
import Derived.Test.YtclibohnmjkliaaLnM
import Derived.Test.YtclibohnmjkliaaLnC
import Derived.Test.YtclibohnmjkliaaCnMk
import Derived.Test.YtclibohnmjkliaaCnNew
namespace Go.Proofs.Ytclibohnmjkliaa
open Go.RowKit
set_option linter.unusedVariables false
set_option linter.unusedSimpArgs false

structure Sw where
  C : Cfg
  nx : Int
  N : Cnt
  aL : Option Addr
  nL : Nat
  cL : Nat
  L : Nat → Ln
def Sw.cells (S : Sw) : Array Value := #[.int .i64 S.C.p, .int .i64 S.C.c, .int .i64 S.C.xo, .int .i64 S.C.xn, .int .i64 S.C.hd, .int .i64 S.C.lo, .int .i64 S.C.dl, .int .i64 0, .int .i64 S.nx, .slice none 0 0, .slice S.N.aU S.N.nU S.N.cU, .int .i64 S.N.lo, .slice S.N.aP S.N.nP S.N.cP, .slice none 0 0, .slice S.aL S.nL S.cL, .int .i64 0, .int .i64 0]
structure RdSw (w : World) (S : Sw) : Prop where
  n : RdCnt w S.N
  l : RdLn w S.aL S.nL S.L
  u : ∀ i, i < S.nL → RdRow w (S.L i).aU 2 fun _ => .slice none 0 0
  r : ∀ i, i < S.nL → RdRnd w (S.L i).R
theorem RdSw.up {w w' : World} {S : Sw} (h : RdSw w S) (hb : Below w.heap.size w w') : RdSw w' S := ⟨h.n.up hb, h.l.up hb, fun i hi => (h.u i hi).up hb, fun i hi => (h.r i hi).up hb⟩
structure AlikeS (A B : Sw) : Prop where
  c : B.C = A.C
  x : B.nx = A.nx
  n : AlikeC A.N B.N
  k : B.nL = A.nL
  l : ∀ i, i < A.nL → (B.L i).st = (A.L i).st ∧ Alike (A.L i).R (B.L i).R
structure Sw.Small (S : Sw) : Prop where
  n : S.N.Small
  k : S.nL ≤ 4
  r : ∀ i, i < S.nL → (S.L i).R.Small
theorem eqConfig_any (C : Cfg) (w : World) :
    Calls Try.prog 14 #[.agg C.cells, .agg C.cells] w fun e w' => e = .returned (.bool true) ∧ Below w.heap.size w w' := by
  unfold Cfg.cells
  go_enter Try.func14, Try.ntmps14
  go_wp2_with fail
  go_ret
  exact ⟨rfl, by go_grown⟩
theorem eqNoEntries_any (w : World) : Calls Try.prog 15 #[.slice none 0 0, .slice none 0 0] w fun e w' => e = .returned (.bool true) ∧ w = w' := by
  go_enter Try.func15, Try.ntmps15
  go_wp2_with fail
  go_loop [5] (fun i => i = .int .i64 0) (fun _ => 0)
  case atStart => rfl
  case round =>
    obtain rfl := hrel
    go_wp2_with fail
    go_ret
    exact ⟨rfl, rfl⟩
theorem eqNoPackets_any (w : World) : Calls Try.prog 17 #[.slice none 0 0, .slice none 0 0] w fun e w' => e = .returned (.bool true) ∧ w = w' := by
  go_enter Try.func17, Try.ntmps17
  go_wp2_with fail
  go_loop [5] (fun i => i = .int .i64 0) (fun _ => 0)
  case atStart => rfl
  case round =>
    obtain rfl := hrel
    go_wp2_with fail
    go_ret
    exact ⟨rfl, rfl⟩
set_option maxRecDepth 100000 in
theorem markNoEntries_any (m : Nat) (w : World) : Calls Try.prog 19 #[.slice none 0 0, .int .i64 m] w fun e w' => e = .returned (.int .i64 m) ∧ w = w' := by
  go_enter Try.func19, Try.ntmps19
  go_wp2_with fail
  go_loop [1, 5] (fun x i => x = .int .i64 m ∧ i = .int .i64 0) (fun _ _ => 0)
  case atStart => exact ⟨rfl, rfl⟩
  case round =>
    obtain ⟨rfl, rfl⟩ := hrel
    go_wp2_with fail
    go_ret
    exact ⟨rfl, rfl⟩
set_option maxRecDepth 100000 in
theorem markNoPackets_any (m : Nat) (w : World) : Calls Try.prog 21 #[.slice none 0 0, .int .i64 m] w fun e w' => e = .returned (.int .i64 m) ∧ w = w' := by
  go_enter Try.func21, Try.ntmps21
  go_wp2_with fail
  go_loop [1, 5] (fun x i => x = .int .i64 m ∧ i = .int .i64 0) (fun _ _ => 0)
  case atStart => exact ⟨rfl, rfl⟩
  case round =>
    obtain ⟨rfl, rfl⟩ := hrel
    go_wp2_with fail
    go_ret
    exact ⟨rfl, rfl⟩
set_option maxRecDepth 100000 in
theorem heldNoEntries_any (m : Nat) (w : World) : Calls Try.prog 23 #[.slice none 0 0, .int .i64 m] w fun e w' => e = .returned (.int .i64 m) ∧ w = w' := by
  go_enter Try.func23, Try.ntmps23
  go_wp2_with fail
  go_loop [1, 5] (fun x i => x = .int .i64 m ∧ i = .int .i64 0) (fun _ _ => 0)
  case atStart => exact ⟨rfl, rfl⟩
  case round =>
    obtain ⟨rfl, rfl⟩ := hrel
    go_wp2_with fail
    go_ret
    exact ⟨rfl, rfl⟩
set_option maxRecDepth 100000 in
theorem heldNoPackets_any (m : Nat) (w : World) : Calls Try.prog 25 #[.slice none 0 0, .int .i64 m] w fun e w' => e = .returned (.int .i64 m) ∧ w = w' := by
  go_enter Try.func25, Try.ntmps25
  go_wp2_with fail
  go_loop [1, 5] (fun x i => x = .int .i64 m ∧ i = .int .i64 0) (fun _ _ => 0)
  case atStart => exact ⟨rfl, rfl⟩
  case round =>
    obtain ⟨rfl, rfl⟩ := hrel
    go_wp2_with fail
    go_ret
    exact ⟨rfl, rfl⟩
theorem mkEqL {w : World} {A B : Sw} (hs : A.Small) (hA : RdSw w A) (hB : RdSw w B) (h : AlikeS A B) : ∀ i, i < A.nL → EqL w (A.L i) (B.L i) :=
  fun i hi => ⟨(h.l i hi).1, hA.u i hi, hB.u i (by rw [h.k]; exact hi), hs.r i hi, hA.r i hi, hB.r i (by rw [h.k]; exact hi), (h.l i hi).2⟩
set_option maxRecDepth 100000 in
set_option maxHeartbeats 4000000 in
theorem eqSwitch_any (A B : Sw) (w : World) (hs : A.Small) (hA : RdSw w A) (hB : RdSw w B) (h : AlikeS A B) :
    Calls Try.prog 7 #[.agg A.cells, .agg B.cells] w fun e w' => e = .returned (.bool true) ∧ Below w.heap.size w w' := by
  have HE : Hid (∀ i, i < A.nL → EqL w (A.L i) (B.L i)) := mkEqL hs hA hB h
  obtain ⟨C, nx, N, aL, nL, cL, L⟩ := A
  obtain ⟨C2, nx2, N2, aL2, nL2, cL2, L2⟩ := B
  obtain ⟨e1, e2, e3, e4, e5⟩ := h
  dsimp only at e1 e2 e3 e4 e5 HE
  subst e1 e2 e4
  have HNs : Hid N.Small := hs.n
  have HN1 : Hid (RdCnt w N) := hA.n
  have HN2 : Hid (RdCnt w N2) := hB.n
  have HNA : Hid (AlikeC N N2) := e3
  have HL1 : Hid (RdLn w aL nL2 L) := hA.l
  have HL2 : Hid (RdLn w aL2 nL2 L2) := hB.l
  have hk4 : nL2 ≤ 4 := hs.k
  clear hs hA hB e3 e5
  have hB : Below (w.heap.size + 2) ((w.alloc (.cells #[.int .i64 C2.p, .int .i64 C2.c, .int .i64 C2.xo, .int .i64 C2.xn, .int .i64 C2.hd, .int .i64 C2.lo, .int .i64 C2.dl, .int .i64 0, .int .i64 nx2, .slice none 0 0, .slice N.aU N.nU N.cU, .int .i64 N.lo, .slice N.aP N.nP N.cP, .slice none 0 0, .slice aL nL2 cL, .int .i64 0, .int .i64 0] 33)).alloc (.cells #[.int .i64 C2.p, .int .i64 C2.c, .int .i64 C2.xo, .int .i64 C2.xn, .int .i64 C2.hd, .int .i64 C2.lo, .int .i64 C2.dl, .int .i64 0, .int .i64 nx2, .slice none 0 0, .slice N2.aU N2.nU N2.cU, .int .i64 N2.lo, .slice N2.aP N2.nP N2.cP, .slice none 0 0, .slice aL2 nL2 cL2, .int .i64 0, .int .i64 0] 33)) ((w.alloc (.cells #[.int .i64 C2.p, .int .i64 C2.c, .int .i64 C2.xo, .int .i64 C2.xn, .int .i64 C2.hd, .int .i64 C2.lo, .int .i64 C2.dl, .int .i64 0, .int .i64 nx2, .slice none 0 0, .slice N.aU N.nU N.cU, .int .i64 N.lo, .slice N.aP N.nP N.cP, .slice none 0 0, .slice aL nL2 cL, .int .i64 0, .int .i64 0] 33)).alloc (.cells #[.int .i64 C2.p, .int .i64 C2.c, .int .i64 C2.xo, .int .i64 C2.xn, .int .i64 C2.hd, .int .i64 C2.lo, .int .i64 C2.dl, .int .i64 0, .int .i64 nx2, .slice none 0 0, .slice N2.aU N2.nU N2.cU, .int .i64 N2.lo, .slice N2.aP N2.nP N2.cP, .slice none 0 0, .slice aL2 nL2 cL2, .int .i64 0, .int .i64 0] 33)) := Below.refl _ _
  have cb := boxed2 hB
  unfold Sw.cells
  dsimp only
  go_enter Try.func7, Try.ntmps7
  go_wp2_with fail
  refine (eqConfig_any C2 _).mono ?_
  rintro e w1 ⟨rfl, hb⟩
  replace hB := next2 hB hb
  replace cb := boxed2 hB
  clear hb
  go_wp2_with fail
  refine (eqNoEntries_any _).mono ?_
  rintro e w2 ⟨rfl, rfl⟩
  go_wp2_with fail
  refine (eqCounts_any N N2 _ HNs.out (HN1.out.up (under2 hB)) (HN2.out.up (under2 hB)) HNA.out).mono ?_
  rintro e w3 ⟨rfl, hb⟩
  replace hB := next2 hB hb
  replace cb := boxed2 hB
  clear hb
  go_wp2_with fail
  refine (eqNoPackets_any _).mono ?_
  rintro e w4 ⟨rfl, rfl⟩
  go_wp2_with fail
  refine (eqLanes_any aL aL2 nL2 cL cL2 L L2 _ (by omega) (HL1.out.up (under2 hB)) (HL2.out.up (under2 hB)) (fun i hi => (HE.out i hi).up (under2 hB))).mono ?_
  rintro e w5 ⟨rfl, hb⟩
  replace hB := next2 hB hb
  replace cb := boxed2 hB
  clear hb
  go_wp2_with fail
  go_ret
  exact ⟨rfl, under2 hB⟩
/-- a switch that owns what it holds: its counts lie ahead of its lanes -/
structure OwnSw (w : World) (base : Nat) (g : Nat) (b : Nat → Nat) (S : Sw) : Prop where
  n : OwnCn w base S.N
  bb : base ≤ b 0
  l : Lanes w S.nL b g S.L
  a : S.aL = some ⟨g, 0, none⟩
  z : ∀ x ∈ rowsT S.N, x < b 0
theorem OwnSw.up {w w' : World} {base g : Nat} {b : Nat → Nat} {S : Sw} (h : OwnSw w base g b S) (hb : Below w.heap.size w w') : OwnSw w' base g b S := ⟨h.n.up hb, h.bb, h.l.up hb, h.a, h.z⟩
theorem OwnSw.rd {w : World} {base g : Nat} {b : Nat → Nat} {S : Sw} (h : OwnSw w base g b S) : RdSw w S := ⟨h.n.rd, by rw [h.a]; exact h.l.row.lanes, fun i hi => (h.l.u i hi).read, fun i hi => (h.l.own i hi).rd⟩
def Sw.marked (S : Sw) (m : Nat) : Sw := { S with N := S.N.marked m, L := marksL (S.N.total m) S.nL S.L }
def Sw.total (S : Sw) (m : Nat) : Nat := S.N.total m + 7 * S.nL
def rowsS (S : Sw) (g : Nat) : List Nat := rowsT S.N ++ rowsL S.nL g S.L
theorem OwnCn.off {w w' : World} {base : Nat} {N : Cnt} {T : List Nat} (h : OwnCn w base N) (ht : Touch T w w') (hT : ∀ x ∈ rowsT N, x ∉ T) : OwnCn w' base N :=
  ⟨h.u.touchS ht (fun x hx => hT x (List.mem_append_left _ hx)), h.p.touchS ht (fun x hx => hT x (List.mem_append_right _ hx))⟩
theorem Lanes.lo {w : World} {n : Nat} {b : Nat → Nat} {g : Nat} {L : Nat → Ln} (h : Lanes w n b g L) : ∀ x ∈ rowsL n g L, b 0 ≤ x ∧ x < w.heap.size := by
  intro x hx
  rcases rowsL_inv hx with rfl | ⟨i, hi, hx⟩
  · exact ⟨h.gb, h.row.lt⟩
  · have h1 := h.blk hi x hx
    have h2 := h.mono (i := 0) (j := i) (by omega) (by omega)
    refine ⟨by omega, ?_⟩
    rcases List.mem_append.1 hx with hx | hx
    · exact ((h.own i hi).q.blk x hx).2
    · exact ((h.own i hi).d.blk x hx).2
theorem OwnSw.rows {w : World} {base g : Nat} {b : Nat → Nat} {S : Sw} (h : OwnSw w base g b S) : ∀ x ∈ rowsS S g, base ≤ x ∧ x < w.heap.size := by
  intro x hx
  rcases List.mem_append.1 hx with hx | hx
  · exact h.n.tbl x hx
  · have := h.l.lo x hx
    have := h.bb
    omega
theorem rowsT_marked (N : Cnt) (m : Nat) : rowsT (N.marked m) = rowsT N := rfl
set_option maxRecDepth 100000 in
set_option maxHeartbeats 4000000 in
theorem markSwitch_any (S : Sw) (m base g : Nat) (b : Nat → Nat) (w : World) (h : OwnSw w base g b S) (hs : S.Small) (hm : m ≤ 10) (hz : S.N.total m ≤ 100) (hb0 : base ≤ w.heap.size) :
    Calls Try.prog 8 #[.agg S.cells, .int .i64 m] w fun e w' => e = .returned (.int .i64 (S.total m : Nat)) ∧ OwnSw w' base g b (S.marked m) ∧ Touch (rowsS S g) w w' := by
  obtain ⟨C, nx, N, aL, n, cL, L⟩ := S
  obtain rfl : aL = some ⟨g, 0, none⟩ := h.a
  obtain ⟨wb, hwb⟩ : ∃ wb, wb = w.alloc (.cells #[.int .i64 C.p, .int .i64 C.c, .int .i64 C.xo, .int .i64 C.xn, .int .i64 C.hd, .int .i64 C.lo, .int .i64 C.dl, .int .i64 0, .int .i64 nx, .slice none 0 0, .slice N.aU N.nU N.cU, .int .i64 N.lo, .slice N.aP N.nP N.cP, .slice none 0 0, .slice (some ⟨g, 0, none⟩) n cL, .int .i64 0, .int .i64 0] 33) := ⟨_, rfl⟩
  have HB : Hid (Below w.heap.size w wb) := by rw [Hid, hwb]; exact (Below.refl _ _).alloc (Nat.le_refl _) _
  have H0 : Hid (OwnSw wb base g b ⟨C, nx, N, some ⟨g, 0, none⟩, n, cL, L⟩) := h.up HB.out
  have HR : Hid (∀ x ∈ rowsS ⟨C, nx, N, some ⟨g, 0, none⟩, n, cL, L⟩ g, base ≤ x ∧ x < w.heap.size) := h.rows
  have HX0 : Hid (wb.heap[w.heap.size]? = some (.cells #[.int .i64 C.p, .int .i64 C.c, .int .i64 C.xo, .int .i64 C.xn, .int .i64 C.hd, .int .i64 C.lo, .int .i64 C.dl, .int .i64 0, .int .i64 nx, .slice none 0 0, .slice N.aU N.nU N.cU, .int .i64 N.lo, .slice N.aP N.nP N.cP, .slice none 0 0, .slice (some ⟨g, 0, none⟩) n cL, .int .i64 0, .int .i64 0] 33 (0, 0))) := by rw [Hid, hwb]; exact blk_new _ _
  have cX := blk_cell HX0.out
  have HNs : Hid N.Small := hs.n
  have hn4 : n ≤ 4 := hs.k
  have HZ : Hid (N.total m ≤ 100) := hz
  clear h hs hz
  unfold Sw.cells
  dsimp only
  go_enter Try.func8, Try.ntmps8
  go_wp2_with fail
  rw [← hwb]
  clear hwb
  refine (markNoEntries_any m _).mono ?_
  rintro e w1 ⟨rfl, rfl⟩
  go_wp2_with fail
  refine (markCountsT_any N m base _ H0.out.n HNs.out (by omega) (by have := HB.out.size; omega)).mono ?_
  rintro e w2 ⟨rfl, hN, ht⟩
  have HN2 : Hid (OwnCn w2 base (N.marked m)) := hN
  have HL2 : Hid (Lanes w2 n b g L) := H0.out.l.touchLo ht H0.out.z
  have HX2 : Hid (w2.heap[w.heap.size]? = some (.cells #[.int .i64 C.p, .int .i64 C.c, .int .i64 C.xo, .int .i64 C.xn, .int .i64 C.hd, .int .i64 C.lo, .int .i64 C.dl, .int .i64 0, .int .i64 nx, .slice none 0 0, .slice N.aU N.nU N.cU, .int .i64 N.lo, .slice N.aP N.nP N.cP, .slice none 0 0, .slice (some ⟨g, 0, none⟩) n cL, .int .i64 0, .int .i64 0] 33 (0, 0))) := (ht.block _ (blk_lt HX0.out) (fun hx => by have := (HR.out _ (List.mem_append_left _ hx)).2; omega)).trans HX0.out
  have HT2 : Hid (Touch (rowsS ⟨C, nx, N, some ⟨g, 0, none⟩, n, cL, L⟩ g) w w2) := (Touch.ofBelow HB.out).trans (ht.mono (fun x hx => List.mem_append_left _ hx))
  have HZ0 : Hid (∀ x ∈ rowsT N, x < b 0) := H0.out.z
  have HBB : Hid (base ≤ b 0) := H0.out.bb
  clear hN ht HX0 H0 cX
  have cX := blk_cell HX2.out
  go_wp2_with fail
  refine (markNoPackets_any (N.total m) _).mono ?_
  rintro e w3 ⟨rfl, rfl⟩
  go_wp2_with fail
  refine (markLanes_any g n cL (N.total m) b L _ HL2.out hn4 (by have := HZ.out; omega)).mono ?_
  rintro e w4 ⟨rfl, hL, ht⟩
  have HF : Hid (OwnSw w4 base g b (Sw.marked ⟨C, nx, N, some ⟨g, 0, none⟩, n, cL, L⟩ m)) :=
    ⟨HN2.out.off ht (fun x hx hy => by have := HZ0.out x hx; have := (HL2.out.lo x hy).1; omega), HBB.out, hL, rfl, HZ0.out⟩
  have HT : Hid (Touch (rowsS ⟨C, nx, N, some ⟨g, 0, none⟩, n, cL, L⟩ g) w w4) := HT2.out.trans (ht.mono (fun x hx => List.mem_append_right _ hx))
  clear hL ht HT2 HX2 cX HN2 HL2
  go_wp2_with fail
  go_ret
  exact ⟨rfl, HF.out, HT.out⟩
set_option maxRecDepth 100000 in
set_option maxHeartbeats 4000000 in
theorem heldSwitch_any (S : Sw) (m base g : Nat) (b : Nat → Nat) (w : World) (h : OwnSw w base g b (S.marked m)) (hs : S.Small) (hm : m ≤ 10) (hz : S.N.total m ≤ 100) :
    Calls Try.prog 9 #[.agg S.cells, .int .i64 m] w fun e w' => e = .returned (.int .i64 (S.total m : Nat)) ∧ Below w.heap.size w w' := by
  obtain ⟨C, nx, N, aL, n, cL, L⟩ := S
  obtain rfl : aL = some ⟨g, 0, none⟩ := h.a
  have H0 : Hid (OwnSw w base g b (Sw.marked ⟨C, nx, N, some ⟨g, 0, none⟩, n, cL, L⟩ m)) := h
  have hB : Below (w.heap.size + 1) (w.alloc (.cells #[.int .i64 C.p, .int .i64 C.c, .int .i64 C.xo, .int .i64 C.xn, .int .i64 C.hd, .int .i64 C.lo, .int .i64 C.dl, .int .i64 0, .int .i64 nx, .slice none 0 0, .slice N.aU N.nU N.cU, .int .i64 N.lo, .slice N.aP N.nP N.cP, .slice none 0 0, .slice (some ⟨g, 0, none⟩) n cL, .int .i64 0, .int .i64 0] 33)) (w.alloc (.cells #[.int .i64 C.p, .int .i64 C.c, .int .i64 C.xo, .int .i64 C.xn, .int .i64 C.hd, .int .i64 C.lo, .int .i64 C.dl, .int .i64 0, .int .i64 nx, .slice none 0 0, .slice N.aU N.nU N.cU, .int .i64 N.lo, .slice N.aP N.nP N.cP, .slice none 0 0, .slice (some ⟨g, 0, none⟩) n cL, .int .i64 0, .int .i64 0] 33)) := Below.refl _ _
  have cb := boxed hB
  have HNs : Hid N.Small := hs.n
  have hn4 : n ≤ 4 := hs.k
  have HZ : Hid (N.total m ≤ 100) := hz
  have hk1 : ¬ ((m : Nat) : Int) < 0 := by omega
  have hk2 : ¬ ((N.total m : Nat) : Int) < 0 := by omega
  have hk3 : ¬ ((N.total m + 7 * n : Nat) : Int) < 0 := by omega
  clear h hs hz
  unfold Sw.cells
  dsimp only
  go_enter Try.func9, Try.ntmps9
  go_wp2_with fail
  refine (heldNoEntries_any m _).mono ?_
  rintro e w1 ⟨rfl, rfl⟩
  go_wp2_with fail
  refine (heldCounts_any N m base _ (H0.out.n.up (under hB)) HNs.out (by omega)).mono ?_
  rintro e w2 ⟨rfl, hb⟩
  replace hB := next hB hb
  replace cb := boxed hB
  clear hb
  go_wp2_with fail
  refine (heldNoPackets_any (N.total m) _).mono ?_
  rintro e w3 ⟨rfl, rfl⟩
  go_wp2_with fail
  refine (heldLanes_any g n cL (N.total m) b L _ (H0.out.l.up (under hB)) hn4 (by have := HZ.out; omega)).mono ?_
  rintro e w4 ⟨rfl, rfl⟩
  go_wp2_with fail
  go_ret
  exact ⟨rfl, under hB⟩
end Go.Proofs.Ytclibohnmjkliaa
