/- SwitchOk of a new switch. -/
import Derived.Test.YtaiodombphpcgaaSwN
import Derived.Test.YtaiodombphpcgaaSwD1
import Derived.Test.YtaiodombphpcgaaLnNew
import Derived.Test.YtaiodombphpcgaaCnF
namespace Go.Proofs.Ytaiodombphpcgaa
open Go.RowKit
set_option linter.unusedVariables false
set_option linter.unusedSimpArgs false

structure Fresh (w : World) (S : Sw) : Prop where
  c : S.C.Ok
  x : S.nx = 1
  k : (S.nL : Int) = S.C.p
  n4 : S.nL ≤ 4
  n : AlikeC (newC S.nL true) S.N
  f : ∀ i, i < S.nL → freshL (S.L i)
  r : RdSw w S
theorem Fresh.up {w w' : World} {S : Sw} (h : Fresh w S) (hb : Below w.heap.size w w') : Fresh w' S := ⟨h.c, h.x, h.k, h.n4, h.n, h.f, h.r.up hb⟩
theorem Fresh.counts {w : World} {S : Sw} (h : Fresh w S) : Cnt.Ok S.C S.N := by
  refine (h.n.ok).2 ⟨h.c, h.k, h.k, ⟨Int.le_refl _, ?_⟩, fun i _ => ⟨Int.le_refl _, ?_⟩⟩
  · exact h.c.num.lo.1
  · show (0 : Int) ≤ S.C.xo + S.C.hd
    have := h.c.num.xo
    have := h.c.num.hd
    omega
theorem Alike.okR {A B : Rnd} (h : Alike A B) (ha : A.Ok) : B.Ok := by
  obtain ⟨aQ, nQ, cQ, q, aD, nD, cD, d, turn, fresh, aS, nS, cS, A, L, C, z⟩ := A
  obtain ⟨aQ2, nQ2, cQ2, q2, aD2, nD2, cD2, d2, turn2, fresh2, aS2, nS2, cS2, A2, L2, C2, z2⟩ := B
  obtain ⟨eQ, eq, eD, ed, et, ef, eS, eL, ez⟩ := h
  dsimp only at eQ eq eD ed et ef eS eL ez
  subst eQ eq eD ed et ef eS eL ez
  exact ⟨ha.n, ha.d, ha.s, ha.t, ha.c⟩
theorem freshL.ok {l : Ln} (h : freshL l) : l.R.Ok := h.2.okR qf_ok
set_option maxRecDepth 100000 in
set_option maxHeartbeats 4000000 in
theorem numbers_new (S : Sw) (w : World) (h : Fresh w S) :
    Calls Try.prog 24 #[.agg S.cells] w fun e w' => e = .returned (.bool true) ∧ Below w.heap.size w w' := by
  obtain ⟨C, nx, N, aL, nL, cL, L⟩ := S
  obtain rfl : nx = 1 := h.x
  have HF : Hid (Fresh w ⟨C, 1, N, aL, nL, cL, L⟩) := h
  have hB : Below (w.heap.size + 1) (w.alloc (.cells #[.int .i64 C.p, .int .i64 C.c, .int .i64 C.xo, .int .i64 C.xn, .int .i64 C.hd, .int .i64 C.lo, .int .i64 C.dl, .int .i64 0, .int .i64 1, .slice none 0 0, .slice N.aU N.nU N.cU, .int .i64 N.lo, .slice N.aP N.nP N.cP, .slice none 0 0, .slice aL nL cL, .int .i64 0, .int .i64 0] 35)) (w.alloc (.cells #[.int .i64 C.p, .int .i64 C.c, .int .i64 C.xo, .int .i64 C.xn, .int .i64 C.hd, .int .i64 C.lo, .int .i64 C.dl, .int .i64 0, .int .i64 1, .slice none 0 0, .slice N.aU N.nU N.cU, .int .i64 N.lo, .slice N.aP N.nP N.cP, .slice none 0 0, .slice aL nL cL, .int .i64 0, .int .i64 0] 35)) := Below.refl _ _
  have cb := boxed hB
  clear h
  unfold Sw.cells
  dsimp only
  go_enter Try.func24, Try.ntmps24
  go_wp2_with fail
  refine (isTime_zero _).mono ?_
  rintro e w1 ⟨rfl, rfl⟩
  go_wp2_with fail
  refine (isWithin_any 1 1 1000000000 _).mono ?_
  rintro e w1 ⟨rfl, rfl⟩
  rw [decide_eq_true (show (1 : Int) ≤ 1 ∧ (1 : Int) ≤ 1000000000 by omega)]
  go_wp2_with fail
  refine (isTime_zero _).mono ?_
  rintro e w2 ⟨rfl, rfl⟩
  go_wp2_with fail
  refine (isTime_zero _).mono ?_
  rintro e w3 ⟨rfl, rfl⟩
  go_wp2_with fail
  go_ret
  exact ⟨rfl, under hB⟩
set_option maxRecDepth 100000 in
set_option maxHeartbeats 4000000 in
theorem seen_new (S : Sw) (w : World) (h : Fresh w S) :
    Calls Try.prog 25 #[.agg S.cells] w fun e w' => e = .returned (.bool true) ∧ Below w.heap.size w w' := by
  obtain ⟨C, nx, N, aL, nL, cL, L⟩ := S
  obtain rfl : nx = 1 := h.x
  have HF : Hid (Fresh w ⟨C, 1, N, aL, nL, cL, L⟩) := h
  have hB : Below (w.heap.size + 1) (w.alloc (.cells #[.int .i64 C.p, .int .i64 C.c, .int .i64 C.xo, .int .i64 C.xn, .int .i64 C.hd, .int .i64 C.lo, .int .i64 C.dl, .int .i64 0, .int .i64 1, .slice none 0 0, .slice N.aU N.nU N.cU, .int .i64 N.lo, .slice N.aP N.nP N.cP, .slice none 0 0, .slice aL nL cL, .int .i64 0, .int .i64 0] 35)) (w.alloc (.cells #[.int .i64 C.p, .int .i64 C.c, .int .i64 C.xo, .int .i64 C.xn, .int .i64 C.hd, .int .i64 C.lo, .int .i64 C.dl, .int .i64 0, .int .i64 1, .slice none 0 0, .slice N.aU N.nU N.cU, .int .i64 N.lo, .slice N.aP N.nP N.cP, .slice none 0 0, .slice aL nL cL, .int .i64 0, .int .i64 0] 35)) := Below.refl _ _
  have cb := boxed hB
  clear h
  unfold Sw.cells
  dsimp only
  go_enter Try.func25, Try.ntmps25
  go_wp2_with fail
  refine (tableNil_any _).mono ?_
  rintro e w1 ⟨rfl, rfl⟩
  go_wp2_with fail
  go_loop [12] (fun i => i = .int .i64 0) (fun _ => 0)
  case atStart => rfl
  case round =>
    obtain rfl := hrel
    go_wp2_with fail
    go_ret
    exact ⟨rfl, under hB⟩
set_option maxRecDepth 100000 in
set_option maxHeartbeats 4000000 in
theorem packets_new (S : Sw) (w : World) (h : Fresh w S) :
    Calls Try.prog 26 #[.agg S.cells] w fun e w' => e = .returned (.bool true) ∧ Below w.heap.size w w' := by
  obtain ⟨C, nx, N, aL, nL, cL, L⟩ := S
  obtain rfl : nx = 1 := h.x
  have HF : Hid (Fresh w ⟨C, 1, N, aL, nL, cL, L⟩) := h
  have hB : Below (w.heap.size + 1) (w.alloc (.cells #[.int .i64 C.p, .int .i64 C.c, .int .i64 C.xo, .int .i64 C.xn, .int .i64 C.hd, .int .i64 C.lo, .int .i64 C.dl, .int .i64 0, .int .i64 1, .slice none 0 0, .slice N.aU N.nU N.cU, .int .i64 N.lo, .slice N.aP N.nP N.cP, .slice none 0 0, .slice aL nL cL, .int .i64 0, .int .i64 0] 35)) (w.alloc (.cells #[.int .i64 C.p, .int .i64 C.c, .int .i64 C.xo, .int .i64 C.xn, .int .i64 C.hd, .int .i64 C.lo, .int .i64 C.dl, .int .i64 0, .int .i64 1, .slice none 0 0, .slice N.aU N.nU N.cU, .int .i64 N.lo, .slice N.aP N.nP N.cP, .slice none 0 0, .slice aL nL cL, .int .i64 0, .int .i64 0] 35)) := Below.refl _ _
  have cb := boxed hB
  clear h
  unfold Sw.cells
  dsimp only
  go_enter Try.func26, Try.ntmps26
  go_wp2_with fail
  go_loop [12] (fun i => i = .int .i64 0) (fun _ => 0)
  case atStart => rfl
  case round =>
    obtain rfl := hrel
    go_wp2_with fail
    go_ret
    exact ⟨rfl, under hB⟩
set_option maxRecDepth 100000 in
set_option maxHeartbeats 4000000 in
theorem cellsHeld_new (S : Sw) (w : World) (h : Fresh w S) :
    Calls Try.prog 29 #[.agg S.cells] w fun e w' => e = .returned (.bool true) ∧ Below w.heap.size w w' := by
  obtain ⟨C, nx, ⟨aU, nU, cU, u, lo, aP, nP, cP, p⟩, aL, nL, cL, L⟩ := S
  obtain rfl : nx = 1 := h.x
  obtain rfl : lo = 0 := h.n.lo
  obtain rfl : u = fun _ => 0 := h.n.u
  have hn4 : nU ≤ 4 := by
    have e : nU = nL := h.n.nU
    have := h.n4
    rw [e]; exact this
  have HU : Hid (RdRow w aU nU fun _ => .int .i64 0) := h.r.n.u
  have mk : ∀ W, _ := make_ints nU (by omega)
  have hB : Below (w.heap.size + 1) (w.alloc (.cells #[.int .i64 C.p, .int .i64 C.c, .int .i64 C.xo, .int .i64 C.xn, .int .i64 C.hd, .int .i64 C.lo, .int .i64 C.dl, .int .i64 0, .int .i64 1, .slice none 0 0, .slice aU nU cU, .int .i64 0, .slice aP nP cP, .slice none 0 0, .slice aL nL cL, .int .i64 0, .int .i64 0] 35)) (((w.alloc (.cells #[.int .i64 C.p, .int .i64 C.c, .int .i64 C.xo, .int .i64 C.xn, .int .i64 C.hd, .int .i64 C.lo, .int .i64 C.dl, .int .i64 0, .int .i64 1, .slice none 0 0, .slice aU nU cU, .int .i64 0, .slice aP nP cP, .slice none 0 0, .slice aL nL cL, .int .i64 0, .int .i64 0] 35)).alloc (.cells (zInts nU) 2)).alloc (.cells #[.slice (some ⟨w.heap.size + 1, 0, none⟩) nU nU, .int .i64 0, .slice none 0 0] 31)) := ((Below.refl _ _).alloc (by simp) _).alloc (by simp) _
  have hBw := under hB
  have kU0 : ((w.alloc (.cells #[.int .i64 C.p, .int .i64 C.c, .int .i64 C.xo, .int .i64 C.xn, .int .i64 C.hd, .int .i64 C.lo, .int .i64 C.dl, .int .i64 0, .int .i64 1, .slice none 0 0, .slice aU nU cU, .int .i64 0, .slice aP nP cP, .slice none 0 0, .slice aL nL cL, .int .i64 0, .int .i64 0] 35)).alloc (.cells (zInts nU) 2)).heap[w.heap.size + 1]? = some (.cells (zInts nU) 2 (0, 0)) := by
    have := blk_new (w.alloc (.cells #[.int .i64 C.p, .int .i64 C.c, .int .i64 C.xo, .int .i64 C.xn, .int .i64 C.hd, .int .i64 C.lo, .int .i64 C.dl, .int .i64 0, .int .i64 1, .slice none 0 0, .slice aU nU cU, .int .i64 0, .slice aP nP cP, .slice none 0 0, .slice aL nL cL, .int .i64 0, .int .i64 0] 35)) (.cells (zInts nU) 2)
    simpa using this
  have kU : (((w.alloc (.cells #[.int .i64 C.p, .int .i64 C.c, .int .i64 C.xo, .int .i64 C.xn, .int .i64 C.hd, .int .i64 C.lo, .int .i64 C.dl, .int .i64 0, .int .i64 1, .slice none 0 0, .slice aU nU cU, .int .i64 0, .slice aP nP cP, .slice none 0 0, .slice aL nL cL, .int .i64 0, .int .i64 0] 35)).alloc (.cells (zInts nU) 2)).alloc (.cells #[.slice (some ⟨w.heap.size + 1, 0, none⟩) nU nU, .int .i64 0, .slice none 0 0] 31)).heap[w.heap.size + 1]? = some (.cells (zInts nU) 2 (0, 0)) := (blk_old _ (blk_lt kU0)).trans kU0
  have kC : (((w.alloc (.cells #[.int .i64 C.p, .int .i64 C.c, .int .i64 C.xo, .int .i64 C.xn, .int .i64 C.hd, .int .i64 C.lo, .int .i64 C.dl, .int .i64 0, .int .i64 1, .slice none 0 0, .slice aU nU cU, .int .i64 0, .slice aP nP cP, .slice none 0 0, .slice aL nL cL, .int .i64 0, .int .i64 0] 35)).alloc (.cells (zInts nU) 2)).alloc (.cells #[.slice (some ⟨w.heap.size + 1, 0, none⟩) nU nU, .int .i64 0, .slice none 0 0] 31)).heap[w.heap.size + 1 + 1]? = some (.cells #[.slice (some ⟨w.heap.size + 1, 0, none⟩) nU nU, .int .i64 0, .slice none 0 0] 31 (0, 0)) := by
    have := blk_new ((w.alloc (.cells #[.int .i64 C.p, .int .i64 C.c, .int .i64 C.xo, .int .i64 C.xn, .int .i64 C.hd, .int .i64 C.lo, .int .i64 C.dl, .int .i64 0, .int .i64 1, .slice none 0 0, .slice aU nU cU, .int .i64 0, .slice aP nP cP, .slice none 0 0, .slice aL nL cL, .int .i64 0, .int .i64 0] 35)).alloc (.cells (zInts nU) 2)) (.cells #[.slice (some ⟨w.heap.size + 1, 0, none⟩) nU nU, .int .i64 0, .slice none 0 0] 31)
    simpa using this
  have HZ : Hid (RdRow (((w.alloc (.cells #[.int .i64 C.p, .int .i64 C.c, .int .i64 C.xo, .int .i64 C.xn, .int .i64 C.hd, .int .i64 C.lo, .int .i64 C.dl, .int .i64 0, .int .i64 1, .slice none 0 0, .slice aU nU cU, .int .i64 0, .slice aP nP cP, .slice none 0 0, .slice aL nL cL, .int .i64 0, .int .i64 0] 35)).alloc (.cells (zInts nU) 2)).alloc (.cells #[.slice (some ⟨w.heap.size + 1, 0, none⟩) nU nU, .int .i64 0, .slice none 0 0] 31)) (some ⟨w.heap.size + 1, 0, none⟩) nU fun _ => .int .i64 0) := (zInts_row kU).read
  have cC := blk_cell kC
  have cb := boxed hB
  have cb1 := boxed (wi := ((w.alloc (.cells #[.int .i64 C.p, .int .i64 C.c, .int .i64 C.xo, .int .i64 C.xn, .int .i64 C.hd, .int .i64 C.lo, .int .i64 C.dl, .int .i64 0, .int .i64 1, .slice none 0 0, .slice aU nU cU, .int .i64 0, .slice aP nP cP, .slice none 0 0, .slice aL nL cL, .int .i64 0, .int .i64 0] 35)).alloc (.cells (zInts nU) 2))) (C := #[.int .i64 C.p, .int .i64 C.c, .int .i64 C.xo, .int .i64 C.xn, .int .i64 C.hd, .int .i64 C.lo, .int .i64 C.dl, .int .i64 0, .int .i64 1, .slice none 0 0, .slice aU nU cU, .int .i64 0, .slice aP nP cP, .slice none 0 0, .slice aL nL cL, .int .i64 0, .int .i64 0]) (t := 35) ((Below.refl _ _).alloc (by simp) _)
  have cb0 := boxed (wi := (w.alloc (.cells #[.int .i64 C.p, .int .i64 C.c, .int .i64 C.xo, .int .i64 C.xn, .int .i64 C.hd, .int .i64 C.lo, .int .i64 C.dl, .int .i64 0, .int .i64 1, .slice none 0 0, .slice aU nU cU, .int .i64 0, .slice aP nP cP, .slice none 0 0, .slice aL nL cL, .int .i64 0, .int .i64 0] 35))) (C := #[.int .i64 C.p, .int .i64 C.c, .int .i64 C.xo, .int .i64 C.xn, .int .i64 C.hd, .int .i64 C.lo, .int .i64 C.dl, .int .i64 0, .int .i64 1, .slice none 0 0, .slice aU nU cU, .int .i64 0, .slice aP nP cP, .slice none 0 0, .slice aL nL cL, .int .i64 0, .int .i64 0]) (t := 35) (Below.refl _ _)
  clear h kU0 kU kC hB
  unfold Sw.cells
  dsimp only
  go_enter Try.func29, Try.ntmps29
  go_wp2_with fail
  generalize (((w.alloc (.cells #[.int .i64 C.p, .int .i64 C.c, .int .i64 C.xo, .int .i64 C.xn, .int .i64 C.hd, .int .i64 C.lo, .int .i64 C.dl, .int .i64 0, .int .i64 1, .slice none 0 0, .slice aU nU cU, .int .i64 0, .slice aP nP cP, .slice none 0 0, .slice aL nL cL, .int .i64 0, .int .i64 0] 35)).alloc (.cells (zInts nU) 2)).alloc (.cells #[.slice (some ⟨w.heap.size + 1, 0, none⟩) nU nU, .int .i64 0, .slice none 0 0] 31)) = W at *
  clear cb0 cb1 mk
  go_loop [15] (fun i => i = .int .i64 0) (fun _ => 0)
  case atStart => rfl
  case round =>
    obtain rfl := hrel
    go_wp2_with fail
    refine (equal_any (some ⟨w.heap.size + 1, 0, none⟩) aU nU nU cU (fun _ => 0) _ (by omega) HZ.out (HU.out.up hBw)).mono ?_
    rintro e w3 ⟨rfl, hSm⟩
    have B := hBw.trans ((hSm.below W.heap.size).mono hBw.size)
    clear hSm cC cb
    go_wp2_with fail
    go_ret
    exact ⟨rfl, B⟩
set_option maxRecDepth 100000 in
set_option maxHeartbeats 4000000 in
theorem laneOk_new (l : Ln) (w : World) (hF : freshL l) (hu : RdRow w l.aU 2 fun _ => .slice none 0 0) (hr : RdRnd w l.R) :
    Calls Try.prog 45 #[.agg l.cells, .slice none 0 0] w fun e w' => e = .returned (.bool true) ∧ Below w.heap.size w w' := by
  obtain ⟨st, aU, cU, R⟩ := l
  obtain ⟨aQ, nQ, cQ, q, aD, nD, cD, d, turn, fresh, aS, nS, cS, A, L, Cc, z⟩ := R
  obtain ⟨e0, eQ, eq, eD, ed, et, ef, eS, eL, ez⟩ := hF
  obtain rfl : st = false := e0
  obtain rfl : nQ = 2 := eQ
  obtain rfl : q = qf := eq
  obtain rfl : nD = 2 := eD
  obtain rfl : d = fun _ => 0 := ed
  obtain rfl : turn = 0 := et
  obtain rfl : fresh = true := ef
  obtain rfl : nS = 2 := eS
  obtain rfl : L = fun _ => 0 := eL
  obtain rfl : z = fun _ _ => 0 := ez
  have HOk : Hid (Rnd.Ok ⟨aQ, 2, cQ, qf, aD, 2, cD, fun _ => 0, 0, true, aS, 2, cS, A, fun _ => 0, Cc, fun _ _ => 0⟩) := freshL.ok (l := ⟨false, aU, cU, ⟨aQ, 2, cQ, qf, aD, 2, cD, fun _ => 0, 0, true, aS, 2, cS, A, fun _ => 0, Cc, fun _ _ => 0⟩⟩) ⟨rfl, rfl, rfl, rfl, rfl, rfl, rfl, rfl, rfl, rfl⟩
  have HSm : Hid (Rnd.Small ⟨aQ, 2, cQ, qf, aD, 2, cD, fun _ => 0, 0, true, aS, 2, cS, A, fun _ => 0, Cc, fun _ _ => 0⟩) := ⟨by show (2 : Nat) ≤ 1048576; omega, by show (2 : Nat) ≤ 1048576; omega, by show (2 : Nat) ≤ 1048576; omega, fun i _ => Nat.zero_le _⟩
  have HRd : Hid (RdRnd w ⟨aQ, 2, cQ, qf, aD, 2, cD, fun _ => 0, 0, true, aS, 2, cS, A, fun _ => 0, Cc, fun _ _ => 0⟩) := hr
  have HU : Hid (RdRow w aU 2 fun _ => .slice none 0 0) := hu
  have hB : Below (w.heap.size + 1) (w.alloc (.cells #[.bool false, .slice none 0 0, .slice aU 2 cU, .slice aQ 2 cQ, .slice aD 2 cD, .int .i64 0, .bool true, .slice aS 2 cS] 51)) (w.alloc (.cells #[.bool false, .slice none 0 0, .slice aU 2 cU, .slice aQ 2 cQ, .slice aD 2 cD, .int .i64 0, .bool true, .slice aS 2 cS] 51)) := Below.refl _ _
  have cb := boxed hB
  clear hr hu
  unfold Ln.cells
  dsimp only
  go_enter Try.func45, Try.ntmps45
  go_wp2_with fail
  refine wp_region_held_drew (S := fun w' => ∀ o, w'.cell? ⟨w.heap.size, o, none⟩ = (#[.bool false, .slice none 0 0, .slice aU 2 cU, .slice aQ 2 cQ, .slice aD 2 cD, .int .i64 0, .bool true, .slice aS 2 cS] : Array Value)[o]?) (by kernel_rfl) (boxed hB.drew) (fun hHeld => ?_)
  refine takeD (i := 0) (some 7) (v := ?_) rfl rfl (by kernel_rfl) (by kernel_rfl) (by kernel_rfl) (fun _ _ _ h => h) (by kernel_rfl) ?_ (by assumption) ?_
  rotate_left
  · intro wx hSw
    try dsimp only at hSw
    go_simp
    try (with_reducible rfl)
  try simp only [Act.put, List.setIfInBounds_toArray, List.set_cons_zero, List.set_cons_succ]
  refine takeD (i := 1) (some 8) (v := ?_) rfl rfl (by kernel_rfl) (by kernel_rfl) (by kernel_rfl) (fun _ _ _ h => h) (by kernel_rfl) ?_ (by assumption) ?_
  rotate_left
  · intro wx hSw
    try dsimp only at hSw
    go_simp
    try (with_reducible rfl)
  try simp only [Act.put, List.setIfInBounds_toArray, List.set_cons_zero, List.set_cons_succ]
  refine wpAnyH_ready (rs := [2]) (by kernel_rfl) (by simp) ?_
  refine AllReadyH.cons rfl (fun K hK => ?_) AllReadyH.nil
  go_simp
  refine (iRoundOk_any ⟨aQ, 2, cQ, qf, aD, 2, cD, fun _ => 0, 0, true, aS, 2, cS, A, fun _ => 0, Cc, fun _ _ => 0⟩ _ (small_fit HSm.out) (HRd.out.up (under hB.drew)) true ⟨fun _ => HOk.out, fun _ => rfl⟩).mono ?_
  rintro e w1 ⟨rfl, hb⟩
  have hB1 := next hB.drew hb
  have cb1 := boxed hB1
  clear hb
  go_wp2_with fail
  refine hK.out _ _ cb1 (fun hHeld => ?_)
  clear hK K
  try simp only [Act.put, List.setIfInBounds_toArray, List.set_cons_zero, List.set_cons_succ]
  refine takeD (i := 3) (some 10) (v := ?_) rfl rfl (by kernel_rfl) (by kernel_rfl) (by kernel_rfl) (fun _ _ _ h => h) (by kernel_rfl) ?_ (by assumption) ?_
  rotate_left
  · intro wx hSw
    try dsimp only at hSw
    go_simp
    try (with_reducible rfl)
  try simp only [Act.put, List.setIfInBounds_toArray, List.set_cons_zero, List.set_cons_succ]
  refine takeD (i := 4) (some 11) (v := ?_) rfl rfl (by kernel_rfl) (by kernel_rfl) (by kernel_rfl) (fun _ _ _ h => h) (by kernel_rfl) ?_ (by assumption) ?_
  rotate_left
  · intro wx hSw
    try dsimp only at hSw
    go_simp
    try (with_reducible rfl)
  try simp only [Act.put, List.setIfInBounds_toArray, List.set_cons_zero, List.set_cons_succ]
  refine takeD (i := 5) (some 12) (v := ?_) rfl rfl (by kernel_rfl) (by kernel_rfl) (by kernel_rfl) (fun _ _ _ h => h) (by kernel_rfl) ?_ (by assumption) ?_
  rotate_left
  · intro wx hSw
    try dsimp only at hSw
    go_simp
    try (with_reducible rfl)
  try simp only [Act.put, List.setIfInBounds_toArray, List.set_cons_zero, List.set_cons_succ]
  refine takeD (i := 6) (some 13) (v := ?_) rfl rfl (by kernel_rfl) (by kernel_rfl) (by kernel_rfl) (fun _ _ _ h => h) (by kernel_rfl) ?_ (by assumption) ?_
  rotate_left
  · intro wx hSw
    try dsimp only at hSw
    go_simp
    try (with_reducible rfl)
  try simp only [Act.put, List.setIfInBounds_toArray, List.set_cons_zero, List.set_cons_succ]
  refine takeD (i := 7) (some 14) (v := ?_) rfl rfl (by kernel_rfl) (by kernel_rfl) (by kernel_rfl) (fun _ _ _ h => h) (by kernel_rfl) ?_ (by assumption) ?_
  rotate_left
  · intro wx hSw
    try dsimp only at hSw
    go_simp
    try (with_reducible rfl)
  try simp only [Act.put, List.setIfInBounds_toArray, List.set_cons_zero, List.set_cons_succ]
  refine wpAnyH_ready (rs := [8]) (by kernel_rfl) (by simp) ?_
  refine AllReadyH.cons rfl (fun K hK => ?_) AllReadyH.nil
  go_simp
  refine (laneQuanta_any w1).mono ?_
  rintro e w2 ⟨rfl, rfl⟩
  have hA := (Below.refl w1.heap.size w1).alloc (Nat.le_refl _) (.cells #[.int .i64 2, .int .i64 4] 2)
  have hB2 := next hB1 hA
  have cb2 := boxed hB2
  have hq := two_row w1
  clear hA
  go_wp2_with fail
  refine hK.out _ _ cb2 (fun hHeld => ?_)
  clear hK K
  try simp only [Act.put, List.setIfInBounds_toArray, List.set_cons_zero, List.set_cons_succ]
  refine wpAnyH_ready (rs := [9]) (by kernel_rfl) (by simp) ?_
  refine AllReadyH.cons rfl (fun K hK => ?_) AllReadyH.nil
  go_simp
  refine (equal_any aQ (some ⟨w1.heap.size, 0, none⟩) 2 cQ 2 qf _ (by omega) (HRd.out.q.up (under hB2)) hq).mono ?_
  rintro e w3 ⟨rfl, hSm⟩
  have hB3 := next hB2 (hSm.below _)
  have cb3 := boxed hB3
  clear hSm hq
  go_wp2_with fail
  refine hK.out _ _ cb3 (fun hHeld => ?_)
  clear hK K
  try simp only [Act.put, List.setIfInBounds_toArray, List.set_cons_zero, List.set_cons_succ]
  refine takeD (i := 10) (some 17) (v := ?_) rfl rfl (by kernel_rfl) (by kernel_rfl) (by kernel_rfl) (fun _ _ _ h => h) (by kernel_rfl) ?_ (by assumption) ?_
  rotate_left
  · intro wx hSw
    try dsimp only at hSw
    go_simp
    try (with_reducible rfl)
  try simp only [Act.put, List.setIfInBounds_toArray, List.set_cons_zero, List.set_cons_succ]
  refine takeD (i := 11) (some 18) (v := ?_) rfl rfl (by kernel_rfl) (by kernel_rfl) (by kernel_rfl) (fun _ _ _ h => h) (by kernel_rfl) ?_ (by assumption) ?_
  rotate_left
  · intro wx hSw
    try dsimp only at hSw
    go_simp
    try (with_reducible rfl)
  try simp only [Act.put, List.setIfInBounds_toArray, List.set_cons_zero, List.set_cons_succ]
  refine takeD (i := 12) (some 19) (v := ?_) rfl rfl (by kernel_rfl) (by kernel_rfl) (by kernel_rfl) (fun _ _ _ h => h) (by kernel_rfl) ?_ (by assumption) ?_
  rotate_left
  · intro wx hSw
    try dsimp only at hSw
    go_simp
    try (with_reducible rfl)
  try simp only [Act.put, List.setIfInBounds_toArray, List.set_cons_zero, List.set_cons_succ]
  refine takeD (i := 13) (some 20) (v := ?_) rfl rfl (by kernel_rfl) (by kernel_rfl) (by kernel_rfl) (fun _ _ _ h => h) (by kernel_rfl) ?_ (by assumption) ?_
  rotate_left
  · intro wx hSw
    try dsimp only at hSw
    go_simp
    try (with_reducible rfl)
  try simp only [Act.put, List.setIfInBounds_toArray, List.set_cons_zero, List.set_cons_succ]
  refine takeD (i := 14) (some 21) (v := ?_) rfl rfl (by kernel_rfl) (by kernel_rfl) (by kernel_rfl) (fun _ _ _ h => h) (by kernel_rfl) ?_ (by assumption) ?_
  rotate_left
  · intro wx hSw
    try dsimp only at hSw
    go_simp
    try (with_reducible rfl)
  try simp only [Act.put, List.setIfInBounds_toArray, List.set_cons_zero, List.set_cons_succ]
  refine takeD (i := 15) (some 22) (v := ?_) rfl rfl (by kernel_rfl) (by kernel_rfl) (by kernel_rfl) (fun _ _ _ h => h) (by kernel_rfl) ?_ (by assumption) ?_
  rotate_left
  · intro wx hSw
    try dsimp only at hSw
    go_simp
    try (with_reducible rfl)
  try simp only [Act.put, List.setIfInBounds_toArray, List.set_cons_zero, List.set_cons_succ]
  refine takeD (i := 16) (some 23) (v := ?_) rfl rfl (by kernel_rfl) (by kernel_rfl) (by kernel_rfl) (fun _ _ _ h => h) (by kernel_rfl) ?_ (by assumption) ?_
  rotate_left
  · intro wx hSw
    try dsimp only at hSw
    go_simp
    try (with_reducible rfl)
  try simp only [Act.put, List.setIfInBounds_toArray, List.set_cons_zero, List.set_cons_succ]
  refine takeD (i := 17) (some 24) (v := ?_) rfl rfl (by kernel_rfl) (by kernel_rfl) (by kernel_rfl) (fun _ _ _ h => h) (by kernel_rfl) ?_ (by assumption) ?_
  rotate_left
  · intro wx hSw
    try dsimp only at hSw
    go_simp
    try (with_reducible rfl)
  try simp only [Act.put, List.setIfInBounds_toArray, List.set_cons_zero, List.set_cons_succ]
  refine takeD (i := 18) (some 25) (v := ?_) rfl rfl (by kernel_rfl) (by kernel_rfl) (by kernel_rfl) (fun _ _ _ h => h) (by kernel_rfl) ?_ (by assumption) ?_
  rotate_left
  · intro wx hSw
    try dsimp only at hSw
    go_simp
    try (with_reducible rfl)
  try simp only [Act.put, List.setIfInBounds_toArray, List.set_cons_zero, List.set_cons_succ]
  refine takeD (i := 19) (some 26) (v := ?_) rfl rfl (by kernel_rfl) (by kernel_rfl) (by kernel_rfl) (fun _ _ _ h => h) (by kernel_rfl) ?_ (by assumption) ?_
  rotate_left
  · intro wx hSw
    try dsimp only at hSw
    go_simp
    try (with_reducible rfl)
  try simp only [Act.put, List.setIfInBounds_toArray, List.set_cons_zero, List.set_cons_succ]
  refine takeD (i := 20) (some 27) (v := ?_) rfl rfl (by kernel_rfl) (by kernel_rfl) (by kernel_rfl) (fun _ _ _ h => h) (by kernel_rfl) ?_ (by assumption) ?_
  rotate_left
  · intro wx hSw
    try dsimp only at hSw
    go_simp
    try (with_reducible rfl)
  try simp only [Act.put, List.setIfInBounds_toArray, List.set_cons_zero, List.set_cons_succ]
  refine takeD (i := 21) (some 28) (v := ?_) rfl rfl (by kernel_rfl) (by kernel_rfl) (by kernel_rfl) (fun _ _ _ h => h) (by kernel_rfl) ?_ (by assumption) ?_
  rotate_left
  · intro wx hSw
    try dsimp only at hSw
    go_simp
    try (with_reducible rfl)
  try simp only [Act.put, List.setIfInBounds_toArray, List.set_cons_zero, List.set_cons_succ]
  refine wpAnyH_done (by kernel_rfl) ?_ _
  have hBn : Below (w.heap.size + 1) (w.alloc (.cells #[.bool false, .slice none 0 0, .slice aU 2 cU, .slice aQ 2 cQ, .slice aD 2 cD, .int .i64 0, .bool true, .slice aS 2 cS] 51)) w3 := hB3
  clear hB3 cb3 hB2 cb2 hB1 cb1 hB cb hHeld
  have cb := boxed hBn
  go_wp2_with fail
  go_loopw [32] (fun i wr => ∃ k : Nat, k ≤ 2 ∧ i = .int .i64 k ∧ Below (w.heap.size + 1) (w.alloc (.cells #[.bool false, .slice none 0 0, .slice aU 2 cU, .slice aQ 2 cQ, .slice aD 2 cD, .int .i64 0, .bool true, .slice aS 2 cS] 51)) wr) (fun i _ => 2 - (intOf i).toNat)
  case atStart => exact ⟨0, by omega, rfl, hBn⟩
  case round =>
    clear hBn cb
    obtain ⟨k, hk, rfl, hB⟩ := hrel
    have cb := boxed hB
    by_cases hlt : k < 2
    · have hlt' : (k : Int) < 2 := by omega
      obtain ⟨gu, ou, rfl, u1⟩ := (HU.out.up (under hB)) k hlt
      obtain ⟨g, o, rfl, s1⟩ := (HRd.out.s.up (under hB.drew)) k hlt
      dsimp only at s1
      go_wp2_with fail
      refine wp_region_held_drew (S := fun w' => (∀ oo, w'.cell? ⟨w.heap.size, oo, none⟩ = (#[.bool false, .slice none 0 0, .slice (some ⟨gu, ou, none⟩) 2 cU, .slice aQ 2 cQ, .slice aD 2 cD, .int .i64 0, .bool true, .slice (some ⟨g, o, none⟩) 2 cS] : Array Value)[oo]?) ∧ w'.cell? ⟨g, o + k, none⟩ = some (.slice (A k) 0 (Cc k))) (by kernel_rfl) ⟨boxed hB.drew, s1⟩ (fun hHeld => ?_)
      refine takeD (i := 0) (some 37) (v := ?_) rfl rfl (by kernel_rfl) (by kernel_rfl) (by kernel_rfl) (fun _ _ _ h => h) (by kernel_rfl) ?_ (by assumption) ?_
      rotate_left
      · intro wx hSw
        obtain ⟨hS1, hS2⟩ := hSw
        go_simp
        try (with_reducible rfl)
      try simp only [Act.put, List.setIfInBounds_toArray, List.set_cons_zero, List.set_cons_succ]
      refine takeD (i := 1) (some 38) (v := ?_) rfl rfl (by kernel_rfl) (by kernel_rfl) (by kernel_rfl) (fun _ _ _ h => h) (by kernel_rfl) ?_ (by assumption) ?_
      rotate_left
      · intro wx hSw
        obtain ⟨hS1, hS2⟩ := hSw
        go_simp
        try (with_reducible rfl)
      try simp only [Act.put, List.setIfInBounds_toArray, List.set_cons_zero, List.set_cons_succ]
      refine takeD (i := 2) (some 39) (v := ?_) rfl rfl (by kernel_rfl) (by kernel_rfl) (by kernel_rfl) (fun _ _ _ h => h) (by kernel_rfl) ?_ (by assumption) ?_
      rotate_left
      · intro wx hSw
        obtain ⟨hS1, hS2⟩ := hSw
        go_simp
        try (with_reducible rfl)
      try simp only [Act.put, List.setIfInBounds_toArray, List.set_cons_zero, List.set_cons_succ]
      refine wpAnyH_ready (rs := [3]) (by kernel_rfl) (by simp) ?_
      refine AllReadyH.cons rfl (fun K hK => ?_) AllReadyH.nil
      go_simp
      refine (idsNil_any none 0 (k : Int) _).mono ?_
      rintro e w1 ⟨rfl, rfl⟩
      go_wp2_with fail
      refine hK.out _ _ ⟨boxed hB.drew, s1⟩ (fun hHeld => ?_)
      clear hK K
      try simp only [Act.put, List.setIfInBounds_toArray, List.set_cons_zero, List.set_cons_succ]
      refine takeD (i := 4) (some 41) (v := ?_) rfl rfl (by kernel_rfl) (by kernel_rfl) (by kernel_rfl) (fun _ _ _ h => h) (by kernel_rfl) ?_ (by assumption) ?_
      rotate_left
      · intro wx hSw
        obtain ⟨hS1, hS2⟩ := hSw
        go_simp
        try (with_reducible rfl)
      try simp only [Act.put, List.setIfInBounds_toArray, List.set_cons_zero, List.set_cons_succ]
      refine takeD (i := 5) (some 42) (v := ?_) rfl rfl (by kernel_rfl) (by kernel_rfl) (by kernel_rfl) (fun _ _ _ h => h) (by kernel_rfl) ?_ (by assumption) ?_
      rotate_left
      · intro wx hSw
        obtain ⟨hS1, hS2⟩ := hSw
        go_simp
        try (with_reducible rfl)
      try simp only [Act.put, List.setIfInBounds_toArray, List.set_cons_zero, List.set_cons_succ]
      refine takeD (i := 6) (some 43) (v := ?_) rfl rfl (by kernel_rfl) (by kernel_rfl) (by kernel_rfl) (fun _ _ _ h => h) (by kernel_rfl) ?_ (by assumption) ?_
      rotate_left
      · intro wx hSw
        obtain ⟨hS1, hS2⟩ := hSw
        go_simp
        try (with_reducible rfl)
      try simp only [Act.put, List.setIfInBounds_toArray, List.set_cons_zero, List.set_cons_succ]
      refine takeD (i := 7) (some 44) (v := ?_) rfl rfl (by kernel_rfl) (by kernel_rfl) (by kernel_rfl) (fun _ _ _ h => h) (by kernel_rfl) ?_ (by assumption) ?_
      rotate_left
      · intro wx hSw
        obtain ⟨hS1, hS2⟩ := hSw
        go_simp
        try (with_reducible rfl)
      try simp only [Act.put, List.setIfInBounds_toArray, List.set_cons_zero, List.set_cons_succ]
      refine takeD (i := 8) (some 45) (v := ?_) rfl rfl (by kernel_rfl) (by kernel_rfl) (by kernel_rfl) (fun _ _ _ h => h) (by kernel_rfl) ?_ (by assumption) ?_
      rotate_left
      · intro wx hSw
        obtain ⟨hS1, hS2⟩ := hSw
        go_simp
        try (with_reducible rfl)
      try simp only [Act.put, List.setIfInBounds_toArray, List.set_cons_zero, List.set_cons_succ]
      refine takeD (i := 9) (some 46) (v := ?_) rfl rfl (by kernel_rfl) (by kernel_rfl) (by kernel_rfl) (fun _ _ _ h => h) (by kernel_rfl) ?_ (by assumption) ?_
      rotate_left
      · intro wx hSw
        obtain ⟨hS1, hS2⟩ := hSw
        go_simp
        try (with_reducible rfl)
      try simp only [Act.put, List.setIfInBounds_toArray, List.set_cons_zero, List.set_cons_succ]
      refine takeD (i := 10) (some 47) (v := ?_) rfl rfl (by kernel_rfl) (by kernel_rfl) (by kernel_rfl) (fun _ _ _ h => h) (by kernel_rfl) ?_ (by assumption) ?_
      rotate_left
      · intro wx hSw
        obtain ⟨hS1, hS2⟩ := hSw
        go_simp
        try (with_reducible rfl)
      try simp only [Act.put, List.setIfInBounds_toArray, List.set_cons_zero, List.set_cons_succ]
      refine takeD (i := 11) (some 48) (v := ?_) rfl rfl (by kernel_rfl) (by kernel_rfl) (by kernel_rfl) (fun _ _ _ h => h) (by kernel_rfl) ?_ (by assumption) ?_
      rotate_left
      · intro wx hSw
        obtain ⟨hS1, hS2⟩ := hSw
        go_simp
        try (with_reducible rfl)
      try simp only [Act.put, List.setIfInBounds_toArray, List.set_cons_zero, List.set_cons_succ]
      refine takeD (i := 12) (some 49) (v := ?_) rfl rfl (by kernel_rfl) (by kernel_rfl) (by kernel_rfl) (fun _ _ _ h => h) (by kernel_rfl) ?_ (by assumption) ?_
      rotate_left
      · intro wx hSw
        obtain ⟨hS1, hS2⟩ := hSw
        go_simp
        try (with_reducible rfl)
      try simp only [Act.put, List.setIfInBounds_toArray, List.set_cons_zero, List.set_cons_succ]
      refine takeD (i := 13) (some 50) (v := ?_) rfl rfl (by kernel_rfl) (by kernel_rfl) (by kernel_rfl) (fun _ _ _ h => h) (by kernel_rfl) ?_ (by assumption) ?_
      rotate_left
      · intro wx hSw
        obtain ⟨hS1, hS2⟩ := hSw
        go_simp
        try (with_reducible rfl)
      try simp only [Act.put, List.setIfInBounds_toArray, List.set_cons_zero, List.set_cons_succ]
      refine wpAnyH_ready (rs := [14]) (by kernel_rfl) (by simp) ?_
      refine AllReadyH.cons rfl (fun K hK => ?_) AllReadyH.nil
      go_simp
      refine (cellsNil_any none 0 _).mono ?_
      rintro e w2 ⟨rfl, rfl⟩
      go_wp2_with fail
      refine hK.out _ _ ⟨boxed hB.drew, s1⟩ (fun hHeld => ?_)
      clear hK K
      try simp only [Act.put, List.setIfInBounds_toArray, List.set_cons_zero, List.set_cons_succ]
      refine wpAnyH_ready (rs := [15]) (by kernel_rfl) (by simp) ?_
      refine AllReadyH.cons rfl (fun K hK => ?_) AllReadyH.nil
      go_simp
      refine (equal_any (A k) none 0 (Cc k) 0 (fun _ => 0) _ (by omega) (RdRow.nil _ _ _) (RdRow.nil _ _ _)).mono ?_
      rintro e w3 ⟨rfl, hSm⟩
      have hB3 := next hB.drew (hSm.below _)
      have cb3 := boxed hB3
      have s3 := (hSm.cell ⟨g, o + k, none⟩).trans s1
      clear hSm
      go_wp2_with fail
      refine hK.out _ _ ⟨cb3, s3⟩ (fun hHeld => ?_)
      clear hK K
      try simp only [Act.put, List.setIfInBounds_toArray, List.set_cons_zero, List.set_cons_succ]
      refine takeD (i := 16) (some 53) (v := ?_) rfl rfl (by kernel_rfl) (by kernel_rfl) (by kernel_rfl) (fun _ _ _ h => h) (by kernel_rfl) ?_ (by assumption) ?_
      rotate_left
      · intro wx hSw
        obtain ⟨hS1, hS2⟩ := hSw
        go_simp
        try (with_reducible rfl)
      try simp only [Act.put, List.setIfInBounds_toArray, List.set_cons_zero, List.set_cons_succ]
      refine takeD (i := 17) (some 54) (v := ?_) rfl rfl (by kernel_rfl) (by kernel_rfl) (by kernel_rfl) (fun _ _ _ h => h) (by kernel_rfl) ?_ (by assumption) ?_
      rotate_left
      · intro wx hSw
        obtain ⟨hS1, hS2⟩ := hSw
        go_simp
        try (with_reducible rfl)
      try simp only [Act.put, List.setIfInBounds_toArray, List.set_cons_zero, List.set_cons_succ]
      refine wpAnyH_done (by kernel_rfl) ?_ _
      have HB : Hid (Below (w.heap.size + 1) (w.alloc (.cells #[.bool false, .slice none 0 0, .slice (some ⟨gu, ou, none⟩) 2 cU, .slice aQ 2 cQ, .slice aD 2 cD, .int .i64 0, .bool true, .slice (some ⟨g, o, none⟩) 2 cS] 51)) w3) := hB3
      clear hB3 cb3 hB cb u1 s1 s3 hHeld
      go_wp2_with fail
      go_roundw
      case rel => exact ⟨k + 1, by omega, by go_num, HB.out⟩
      case measure => simp [intOf]; omega
    · obtain rfl : k = 2 := by omega
      go_wp2_with fail
      refine (idsNil_any none 0 2 _).mono ?_
      rintro e w1 ⟨rfl, rfl⟩
      go_wp2_with fail
      go_ret
      exact ⟨rfl, under hB⟩
set_option maxRecDepth 100000 in
set_option maxHeartbeats 4000000 in
theorem lanes_new (S : Sw) (w : World) (h : Fresh w S) :
    Calls Try.prog 27 #[.agg S.cells] w fun e w' => e = .returned (.bool true) ∧ Below w.heap.size w w' := by
  obtain ⟨C, nx, N, aL, nL, cL, L⟩ := S
  obtain rfl : nx = 1 := h.x
  have HF : Hid (Fresh w ⟨C, 1, N, aL, nL, cL, L⟩) := h
  have HL : Hid (RdLn w aL nL L) := h.r.l
  have hnp : ((nL : Int) != C.p) = false := by have := h.k; dsimp only at this; simp [this]
  have hn4 : nL ≤ 4 := h.n4
  have hB : Below (w.heap.size + 1) (w.alloc (.cells #[.int .i64 C.p, .int .i64 C.c, .int .i64 C.xo, .int .i64 C.xn, .int .i64 C.hd, .int .i64 C.lo, .int .i64 C.dl, .int .i64 0, .int .i64 1, .slice none 0 0, .slice N.aU N.nU N.cU, .int .i64 N.lo, .slice N.aP N.nP N.cP, .slice none 0 0, .slice aL nL cL, .int .i64 0, .int .i64 0] 35)) (w.alloc (.cells #[.int .i64 C.p, .int .i64 C.c, .int .i64 C.xo, .int .i64 C.xn, .int .i64 C.hd, .int .i64 C.lo, .int .i64 C.dl, .int .i64 0, .int .i64 1, .slice none 0 0, .slice N.aU N.nU N.cU, .int .i64 N.lo, .slice N.aP N.nP N.cP, .slice none 0 0, .slice aL nL cL, .int .i64 0, .int .i64 0] 35)) := Below.refl _ _
  have cb := boxed hB
  clear h
  unfold Sw.cells
  dsimp only
  go_enter Try.func27, Try.ntmps27
  go_wp2_with fail
  go_loopw [15] (fun i wr => ∃ k : Nat, k ≤ nL ∧ i = .int .i64 k ∧ Below (w.heap.size + 1) (w.alloc (.cells #[.int .i64 C.p, .int .i64 C.c, .int .i64 C.xo, .int .i64 C.xn, .int .i64 C.hd, .int .i64 C.lo, .int .i64 C.dl, .int .i64 0, .int .i64 1, .slice none 0 0, .slice N.aU N.nU N.cU, .int .i64 N.lo, .slice N.aP N.nP N.cP, .slice none 0 0, .slice aL nL cL, .int .i64 0, .int .i64 0] 35)) wr) (fun i _ => nL - (intOf i).toNat)
  case atStart => exact ⟨0, Nat.zero_le _, rfl, hB⟩
  case round =>
    clear hB cb
    obtain ⟨k, hk, rfl, hB⟩ := hrel
    by_cases hlt : k < nL
    · have hlt' : (k : Int) < nL := by omega
      obtain ⟨g, o, rfl, Ca⟩ := (HL.out.up (under hB)) k hlt
      have HFr : Hid (freshL (L k)) := HF.out.f k hlt
      have HUu : Hid (RdRow w (L k).aU 2 fun _ => .slice none 0 0) := HF.out.r.u k hlt
      have HRr : Hid (RdRnd w (L k).R) := HF.out.r.r k hlt
      generalize L k = l1 at *
      have c0 : wr.cell? ⟨g, o + k * 8, none⟩ = some (.bool l1.st) := Ca 0 (by omega)
      have c1 : wr.cell? ⟨g, o + k * 8 + 1, none⟩ = some (.slice none 0 0) := Ca 1 (by omega)
      have c2 : wr.cell? ⟨g, o + k * 8 + 2, none⟩ = some (.slice l1.aU 2 l1.cU) := Ca 2 (by omega)
      have c3 : wr.cell? ⟨g, o + k * 8 + 3, none⟩ = some (.slice l1.R.aQ l1.R.nQ l1.R.cQ) := Ca 3 (by omega)
      have c4 : wr.cell? ⟨g, o + k * 8 + 4, none⟩ = some (.slice l1.R.aD l1.R.nD l1.R.cD) := Ca 4 (by omega)
      have c5 : wr.cell? ⟨g, o + k * 8 + 5, none⟩ = some (.int .i64 l1.R.turn) := Ca 5 (by omega)
      have c6 : wr.cell? ⟨g, o + k * 8 + 6, none⟩ = some (.bool l1.R.fresh) := Ca 6 (by omega)
      have c7 : wr.cell? ⟨g, o + k * 8 + 7, none⟩ = some (.slice l1.R.aS l1.R.nS l1.R.cS) := Ca 7 (by omega)
      clear Ca
      have hA := (Below.refl wr.heap.size wr).alloc (Nat.le_refl _) (.cells #[.bool l1.st, .slice none 0 0, .slice l1.aU 2 l1.cU, .slice l1.R.aQ l1.R.nQ l1.R.cQ, .slice l1.R.aD l1.R.nD l1.R.cD, .int .i64 l1.R.turn, .bool l1.R.fresh, .slice l1.R.aS l1.R.nS l1.R.cS] 51)
      have hBn := next hB hA
      have cb := boxed hBn
      clear hA hB
      go_wp2_with fail
      refine (laneOk_new l1 _ HFr.out (HUu.out.up (under hBn)) (HRr.out.up (under hBn))).mono ?_
      rintro e w1 ⟨rfl, hb⟩
      have HB : Hid (Below (w.heap.size + 1) (w.alloc (.cells #[.int .i64 C.p, .int .i64 C.c, .int .i64 C.xo, .int .i64 C.xn, .int .i64 C.hd, .int .i64 C.lo, .int .i64 C.dl, .int .i64 0, .int .i64 1, .slice none 0 0, .slice N.aU N.nU N.cU, .int .i64 N.lo, .slice N.aP N.nP N.cP, .slice none 0 0, .slice (some ⟨g, o, none⟩) nL cL, .int .i64 0, .int .i64 0] 35)) w1) := next hBn hb
      clear hBn hb cb c0 c1 c2 c3 c4 c5 c6 c7
      go_wp2_with fail
      go_roundw
      case rel => exact ⟨k + 1, by omega, by go_num, HB.out⟩
      case measure => simp [intOf]; omega
    · obtain rfl : k = nL := by omega
      have hkk : ¬ ((k : Nat) : Int) < ((k : Nat) : Int) := by omega
      have cb := boxed hB
      go_wp2_with fail
      go_ret
      exact ⟨rfl, under hB⟩
end Go.Proofs.Ytaiodombphpcgaa
