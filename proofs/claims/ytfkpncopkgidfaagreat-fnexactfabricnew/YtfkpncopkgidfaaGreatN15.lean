import Derived.Test.YtfkpncopkgidfaaGreatN04
import Derived.Test.YtfkpncopkgidfaaGreatN12
import Derived.Test.YtfkpncopkgidfaaGreatN13
import Derived.Test.YtfkpncopkgidfaaGreatN14
import Derived.Lib.AppendZeros
import Derived.Maps.OwnSet
import Derived.Maps.Views
import Derived.Room.AppendFits
namespace Go.Proofs.YtfkpncopkgidfaaGreat
open Go.RowKit
set_option linter.unusedVariables false
set_option linter.unusedSimpArgs false
theorem boxed2 {w wi : World} {A B : Array Value} {t s : TypeId} (h : Below (w.heap.size + 2) ((w.alloc (.cells A t)).alloc (.cells B s)) wi) : (∀ o, wi.cell? ⟨w.heap.size, o, none⟩ = A[o]?) ∧ ∀ o, wi.cell? ⟨w.heap.size + 1, o, none⟩ = B[o]? := by
 have k1 : wi.heap[w.heap.size]? = some (.cells A t (0, 0)) := (h.block _ (by omega)).trans ((blk_old _ (by simp)).trans (blk_new _ _))
 have k2 : wi.heap[w.heap.size + 1]? = some (.cells B s (0, 0)) := by
  refine (h.block _ (by omega)).trans ?_
  have := blk_new (w.alloc (.cells A t)) (.cells B s)
  simpa using this
 exact ⟨blk_cell k1, blk_cell k2⟩
theorem under2 {w wi : World} {o o' : Obj} (h : Below (w.heap.size + 2) ((w.alloc o).alloc o') wi) : Below w.heap.size w wi :=
 (((Below.refl _ _).alloc (Nat.le_refl _) o).alloc (by simp) o').trans (h.mono (by omega))
theorem upper2 {w wi : World} {o o' : Obj} (h : Below (w.heap.size + 2) ((w.alloc o).alloc o') wi) : w.heap.size + 2 ≤ wi.heap.size := by
 have := h.size
 simpa using this
theorem next2 {w wi wj : World} {o o' : Obj} (h : Below (w.heap.size + 2) ((w.alloc o).alloc o') wi) (k : Below wi.heap.size wi wj) : Below (w.heap.size + 2) ((w.alloc o).alloc o') wj :=
 h.trans (k.mono (upper2 h))
theorem lossyHeld_any (N : Cnt) (w : World) :
  Calls Tryz.prog 199 #[.agg #[], .agg N.cells] w fun e w' => e = .returned (.int .i64 N.lo) ∧ Below w.heap.size w w' := by
 have HA : Hid (∀ o o', Below w.heap.size w ((w.alloc o).alloc o')) := fun o o' => ((Below.refl _ _).alloc (Nat.le_refl _) _).alloc (by simp) _
 unfold Cnt.cells
 go_enter Tryz.func199, Tryz.ntmps199
 go_wp2_with fail
 go_ret
 exact ⟨rfl, HA.out _ _⟩
theorem portHeld_any (N : Cnt) (i : Nat) (w : World) (hf : N.Fit) (hi : i < N.nU) (h : RdCnt w N) :
  Calls Tryz.prog 202 #[.agg #[.int .i64 i], .agg N.cells] w fun e w' => e = .returned (.int .i64 (N.u i)) ∧ Below w.heap.size w w' := by
 have HA : Hid (∀ o o', Below w.heap.size w ((w.alloc o).alloc o')) := fun o o' => ((Below.refl _ _).alloc (Nat.le_refl _) _).alloc (by simp) _
 obtain ⟨aU, nU, cU, u, lo, aP, nP, cP, p⟩ := N
 have hi' : i < nU := hi
 have hi2 : (i : Int) < nU := by omega
 have hU : RdRow w aU nU fun i => .int .i64 (u i) := h.u
 have hm : nU ≤ maxLen := hf.u
 obtain ⟨g, o, rfl, hc⟩ := hU i hi'
 have hc2 : ∀ ob ob', ((w.alloc ob).alloc ob').cell? ⟨g, o + i, none⟩ = some (.int .i64 (u i)) := fun ob ob' => ((HA.out ob ob').cell (p := ⟨g, o + i, none⟩) (cellLt hc)).trans hc
 clear h hf hi hU hc
 unfold Cnt.cells
 go_enter Tryz.func202, Tryz.ntmps202
 go_wp2_with fail
 go_ret
 exact ⟨rfl, HA.out _ _⟩
set_option maxHeartbeats 4000000 in
theorem sCountsOk_any (C : Cfg) (N : Cnt) (w : World) (hf : N.Fit) (h : RdCnt w N) (ok : Bool) (hok : ok = true ↔ Cnt.Ok C N) :
  Calls Tryz.prog 56 #[.agg C.cells, .agg N.cells] w fun e w' => e = .returned (.bool ok) ∧ Below w.heap.size w w' := by
 obtain ⟨b, hb⟩ := ok_decC C.Ok
 have HO : Hid (ok = true ↔ Cnt.Ok C N) := hok
 have HR : Hid (RdCnt w N) := h
 have HF : Hid N.Fit := hf
 have HCb : Hid (b = true ↔ C.Ok) := hb
 have hU3 : (N.nU : Int) ≤ 9223372036854775807 := by have := hf.u; unfold maxLen at this; omega
 have hP3 : (N.nP : Int) ≤ 9223372036854775807 := by have := hf.p; unfold maxLen at this; omega
 have HB0 : Hid (Below (w.heap.size + 2) ((w.alloc (.cells #[.int .i64 C.p, .int .i64 C.c, .int .i64 C.xo, .int .i64 C.xn, .int .i64 C.hd, .int .i64 C.lo, .int .i64 C.dl] 39)).alloc (.cells #[.slice N.aU N.nU N.cU, .int .i64 N.lo, .slice N.aP N.nP N.cP] 41)) ((w.alloc (.cells #[.int .i64 C.p, .int .i64 C.c, .int .i64 C.xo, .int .i64 C.xn, .int .i64 C.hd, .int .i64 C.lo, .int .i64 C.dl] 39)).alloc (.cells #[.slice N.aU N.nU N.cU, .int .i64 N.lo, .slice N.aP N.nP N.cP] 41))) := Below.refl _ _
 clear hok h hf hb
 unfold Cfg.cells Cnt.cells
 go_enter Tryz.func56, Tryz.ntmps56
 go_wp2_with fail
 refine (sConfigOk_any C _ b HCb.out).mono ?_
 rintro e w1 ⟨rfl, hb1⟩
 have hB := next2 HB0.out hb1
 have cb := (boxed2 hB).1
 have cn := (boxed2 hB).2
 clear hb1
 cases b
 ·
  have HE : Hid (ok = false) := by
   show ok = false
   rw [Bool.eq_false_iff]
   intro e
   have := HCb.out.2 (HO.out.1 e).c
   cases this
  have B := under2 hB
  go_wp2_with fail
  go_ret
  exact ⟨ret_bool HE.out.symm, B⟩
 have HC : Hid C.Ok := HCb.out.1 rfl
 clear HCb
 by_cases hU : (N.nU : Int) = C.p
 rotate_left
 ·
  have HE : Hid (ok = false) := by
   show ok = false
   rw [Bool.eq_false_iff]
   intro e
   exact hU (HO.out.1 e).nU
  have hU' : ((N.nU : Int) != C.p) = true := by simpa using hU
  have B := under2 hB
  clear hU
  go_wp2_with fail
  go_ret
  exact ⟨ret_bool HE.out.symm, B⟩
 have hU' : ((N.nU : Int) != C.p) = false := by simpa using hU
 have HU : Hid ((N.nU : Int) = C.p) := hU
 clear hU
 by_cases hP : (N.nP : Int) = C.p
 rotate_left
 ·
  have HE : Hid (ok = false) := by
   show ok = false
   rw [Bool.eq_false_iff]
   intro e
   exact hP (HO.out.1 e).nP
  have hP' : ((N.nP : Int) != C.p) = true := by simpa using hP
  have B := under2 hB
  clear hP
  go_wp2_with fail
  go_ret
  exact ⟨ret_bool HE.out.symm, B⟩
 have hP' : ((N.nP : Int) != C.p) = false := by simpa using hP
 have HP : Hid ((N.nP : Int) = C.p) := hP
 clear hP
 go_wp2_with fail
 refine (l1In_any _ _ _ _).mono ?_
 rintro e w' ⟨rfl, hw⟩
 rw [hw]
 clear hw w'
 by_cases hL : 0 ≤ N.lo ∧ N.lo ≤ C.lo
 rotate_left
 ·
  have HE : Hid (ok = false) := by
   show ok = false
   rw [Bool.eq_false_iff]
   intro e
   exact hL (HO.out.1 e).lo
  have B := under2 hB
  rw [decide_eq_false hL]
  clear hL
  go_wp2_with fail
  go_ret
  exact ⟨ret_bool HE.out.symm, B⟩
 rw [decide_eq_true hL]
 have HL : Hid (0 ≤ N.lo ∧ N.lo ≤ C.lo) := hL
 clear hL
 go_wp2_with fail
 have e4 : IntKind.i64.wrap (C.xo + C.hd) = C.xo + C.hd := wrapC _ (by have := HC.out.num.xo; have := HC.out.num.hd; omega) (by have := HC.out.num.xo; have := HC.out.num.hd; omega)
 go_loopw [5] (fun i wr => ∃ k : Nat, k ≤ N.nU ∧ i = .int .i64 k ∧ (∀ j, j < k → 0 ≤ N.u j ∧ N.u j ≤ C.xo + C.hd) ∧ Below w1.heap.size w1 wr) (fun i _ => N.nU - (intOf i).toNat)
 case atStart => exact ⟨0, Nat.zero_le _, rfl, fun j hj => by omega, Below.refl _ _⟩
 case round =>
  obtain ⟨k, hk, rfl, hall, hBr⟩ := hrel
  have HA : Hid (∀ j, j < k → 0 ≤ N.u j ∧ N.u j ≤ C.xo + C.hd) := hall
  clear hall cb cn
  have hB2 := next2 hB hBr
  have cb := (boxed2 hB2).1
  have cn := (boxed2 hB2).2
  by_cases hlt : k < N.nU
  ·
   have hlt' : (k : Int) < N.nU := by omega
   obtain ⟨g, o, ea, c0⟩ := (HR.out.u.up (under2 hB2)) k hlt
   dsimp only at c0
   rw [ea] at cn
   clear ea
   have hz9 : (k : Int) ≤ 9223372036854775807 := by omega
   by_cases hz : 0 ≤ N.u k ∧ N.u k ≤ C.xo + C.hd
   ·
    go_wp2_with fail
    refine wp_region_held_drew (S := fun w' => (∀ o, w'.cell? ⟨w.heap.size, o, none⟩ = (#[.int .i64 C.p, .int .i64 C.c, .int .i64 C.xo, .int .i64 C.xn, .int .i64 C.hd, .int .i64 C.lo, .int .i64 C.dl] : Array Value)[o]?) ∧ (∀ o', w'.cell? ⟨w.heap.size + 1, o', none⟩ = (#[.slice (some ⟨g, o, none⟩) N.nU N.cU, .int .i64 N.lo, .slice N.aP N.nP N.cP] : Array Value)[o']?) ∧ w'.cell? ⟨g, o + k, none⟩ = some (.int .i64 (N.u k))) (by kernel_rfl) ⟨cb, cn, c0⟩ (fun hHeld => ?_)
    refine tC 0 40 (v := ?_) ?_ ?_
    rotate_left
    ·
     intro wx hSw
     obtain ⟨hS1, hS2, hS3⟩ := hSw
     go_simp
     try with_reducible rfl
    try simp only [Act.put, PZ]
    refine tC 1 41 (v := ?_) ?_ ?_
    rotate_left
    ·
     intro wx hSw
     obtain ⟨hS1, hS2, hS3⟩ := hSw
     go_simp
     try with_reducible rfl
    try simp only [Act.put, PZ]
    refine tC 2 42 (v := ?_) ?_ ?_
    rotate_left
    ·
     intro wx hSw
     obtain ⟨hS1, hS2, hS3⟩ := hSw
     go_simp
     try with_reducible rfl
    try simp only [Act.put, PZ]
    refine tC 3 43 (v := ?_) ?_ ?_
    rotate_left
    ·
     intro wx hSw
     obtain ⟨hS1, hS2, hS3⟩ := hSw
     go_simp
     try with_reducible rfl
    try simp only [Act.put, PZ]
    refine tC 4 44 (v := ?_) ?_ ?_
    rotate_left
    ·
     intro wx hSw
     obtain ⟨hS1, hS2, hS3⟩ := hSw
     go_simp
     try with_reducible rfl
    try simp only [Act.put, PZ]
    refine tC 5 45 (v := ?_) ?_ ?_
    rotate_left
    ·
     intro wx hSw
     obtain ⟨hS1, hS2, hS3⟩ := hSw
     go_simp
     try with_reducible rfl
    try simp only [Act.put, PZ]
    refine tC 6 46 (v := ?_) ?_ ?_
    rotate_left
    ·
     intro wx hSw
     obtain ⟨hS1, hS2, hS3⟩ := hSw
     go_simp
     try with_reducible rfl
    try simp only [Act.put, PZ]
    refine tC 7 47 (v := ?_) ?_ ?_
    rotate_left
    ·
     intro wx hSw
     obtain ⟨hS1, hS2, hS3⟩ := hSw
     go_simp
     try with_reducible rfl
    try simp only [Act.put, PZ]
    refine tC 8 48 (v := ?_) ?_ ?_
    rotate_left
    ·
     intro wx hSw
     obtain ⟨hS1, hS2, hS3⟩ := hSw
     go_simp
     try with_reducible rfl
    try simp only [Act.put, PZ]
    refine tC 9 49 (v := ?_) ?_ ?_
    rotate_left
    ·
     intro wx hSw
     obtain ⟨hS1, hS2, hS3⟩ := hSw
     go_simp
     try with_reducible rfl
    try simp only [Act.put, PZ]
    refine r1 10 (fun K hK => ?_)
    go_simp
    refine (l1In_any _ _ _ _).mono ?_
    rintro e w' ⟨rfl, hw⟩
    rw [hw]
    clear hw w'
    rw [decide_eq_true hz]
    go_wp2_with fail
    refine hK.out _ _ ⟨cb, cn, c0⟩ (fun hHeld => ?_)
    clear hK K
    try simp only [Act.put, PZ]
    refine tC 11 51 (v := ?_) ?_ ?_
    rotate_left
    ·
     intro wx hSw
     obtain ⟨hS1, hS2, hS3⟩ := hSw
     go_simp
     try with_reducible rfl
    try simp only [Act.put, PZ]
    refine dn ?_
    have HZ : Hid (0 ≤ N.u k ∧ N.u k ≤ C.xo + C.hd) := hz
    clear hz
    go_wp2_with fail
    go_roundw
    case rel => exact ⟨k + 1, by omega, by go_num, fun j hj => by
     by_cases e : j = k
     ·
      subst e; exact HZ.out
     ·
      exact HA.out j (by omega), hBr.drew⟩
    case measure => simp [intOf]; omega
   ·
    have HE : Hid (ok = false) := by
     show ok = false
     rw [Bool.eq_false_iff]
     intro e
     exact hz ((HO.out.1 e).u k hlt)
    go_wp2_with fail
    refine wp_region_held_drew (S := fun w' => (∀ o, w'.cell? ⟨w.heap.size, o, none⟩ = (#[.int .i64 C.p, .int .i64 C.c, .int .i64 C.xo, .int .i64 C.xn, .int .i64 C.hd, .int .i64 C.lo, .int .i64 C.dl] : Array Value)[o]?) ∧ (∀ o', w'.cell? ⟨w.heap.size + 1, o', none⟩ = (#[.slice (some ⟨g, o, none⟩) N.nU N.cU, .int .i64 N.lo, .slice N.aP N.nP N.cP] : Array Value)[o']?) ∧ w'.cell? ⟨g, o + k, none⟩ = some (.int .i64 (N.u k))) (by kernel_rfl) ⟨cb, cn, c0⟩ (fun hHeld => ?_)
    refine tC 0 40 (v := ?_) ?_ ?_
    rotate_left
    ·
     intro wx hSw
     obtain ⟨hS1, hS2, hS3⟩ := hSw
     go_simp
     try with_reducible rfl
    try simp only [Act.put, PZ]
    refine tC 1 41 (v := ?_) ?_ ?_
    rotate_left
    ·
     intro wx hSw
     obtain ⟨hS1, hS2, hS3⟩ := hSw
     go_simp
     try with_reducible rfl
    try simp only [Act.put, PZ]
    refine tC 2 42 (v := ?_) ?_ ?_
    rotate_left
    ·
     intro wx hSw
     obtain ⟨hS1, hS2, hS3⟩ := hSw
     go_simp
     try with_reducible rfl
    try simp only [Act.put, PZ]
    refine tC 3 43 (v := ?_) ?_ ?_
    rotate_left
    ·
     intro wx hSw
     obtain ⟨hS1, hS2, hS3⟩ := hSw
     go_simp
     try with_reducible rfl
    try simp only [Act.put, PZ]
    refine tC 4 44 (v := ?_) ?_ ?_
    rotate_left
    ·
     intro wx hSw
     obtain ⟨hS1, hS2, hS3⟩ := hSw
     go_simp
     try with_reducible rfl
    try simp only [Act.put, PZ]
    refine tC 5 45 (v := ?_) ?_ ?_
    rotate_left
    ·
     intro wx hSw
     obtain ⟨hS1, hS2, hS3⟩ := hSw
     go_simp
     try with_reducible rfl
    try simp only [Act.put, PZ]
    refine tC 6 46 (v := ?_) ?_ ?_
    rotate_left
    ·
     intro wx hSw
     obtain ⟨hS1, hS2, hS3⟩ := hSw
     go_simp
     try with_reducible rfl
    try simp only [Act.put, PZ]
    refine tC 7 47 (v := ?_) ?_ ?_
    rotate_left
    ·
     intro wx hSw
     obtain ⟨hS1, hS2, hS3⟩ := hSw
     go_simp
     try with_reducible rfl
    try simp only [Act.put, PZ]
    refine tC 8 48 (v := ?_) ?_ ?_
    rotate_left
    ·
     intro wx hSw
     obtain ⟨hS1, hS2, hS3⟩ := hSw
     go_simp
     try with_reducible rfl
    try simp only [Act.put, PZ]
    refine tC 9 49 (v := ?_) ?_ ?_
    rotate_left
    ·
     intro wx hSw
     obtain ⟨hS1, hS2, hS3⟩ := hSw
     go_simp
     try with_reducible rfl
    try simp only [Act.put, PZ]
    refine r1 10 (fun K hK => ?_)
    go_simp
    refine (l1In_any _ _ _ _).mono ?_
    rintro e w' ⟨rfl, hw⟩
    rw [hw]
    clear hw w'
    rw [decide_eq_false hz]
    go_wp2_with fail
    refine hK.out _ _ ⟨cb, cn, c0⟩ (fun hHeld => ?_)
    clear hK K
    try simp only [Act.put, PZ]
    refine tC 11 51 (v := ?_) ?_ ?_
    rotate_left
    ·
     intro wx hSw
     obtain ⟨hS1, hS2, hS3⟩ := hSw
     go_simp
     try with_reducible rfl
    try simp only [Act.put, PZ]
    refine dn ?_
    have B := (under2 hB2).drew
    go_wp2_with fail
    go_ret
    exact ⟨ret_bool HE.out.symm, B⟩
  ·
   obtain rfl : k = N.nU := by omega
   have HT : Hid (ok = true) := HO.out.2 ⟨HC.out, HU.out, HP.out, HL.out, HA.out⟩
   have B := under2 hB2
   go_wp2_with fail
   go_ret
   exact ⟨ret_bool HT.out.symm, B⟩
theorem laid2 {w wi : World} {o o' : Obj} (h : Below (w.heap.size + 2) ((w.alloc o).alloc o') wi) : wi.heap[w.heap.size]? = some o ∧ wi.heap[w.heap.size + 1]? = some o' := by
 refine ⟨(h.block _ (by omega)).trans ((blk_old _ (by simp)).trans (blk_new _ _)), (h.block _ (by omega)).trans ?_⟩
 have := blk_new (w.alloc o) o'
 simpa using this
def zeroC : Cnt := ⟨none, 0, 0, fun _ => 0, 0, none, 0, 0, fun _ => false⟩
def newC (n : Nat) (ok : Bool) : Cnt := if ok then ⟨none, n, n, fun _ => 0, 0, none, n, n, fun _ => false⟩ else zeroC
theorem zeroC_own (w : World) (base : Nat) : OwnCn w base zeroC := ⟨.inl rfl, .inl rfl⟩
theorem newC_small {n : Nat} {ok : Bool} (h : n ≤ 4) : (newC n ok).Small := by cases ok <;> exact ⟨by simp [newC, zeroC]; try omega, by simp [newC, zeroC]; try omega⟩
def put3 (W : World) (g : Nat) (a b c : Value) : World := ((W.setCell ⟨g, 0, none⟩ a).setCell ⟨g, 1, none⟩ b).setCell ⟨g, 2, none⟩ c
theorem put3_blk {W : World} {g : Nat} {x y z : Value} {t : TypeId} (h : W.heap[g]? = some (.cells #[x, y, z] t (0, 0))) (a b c : Value) : (put3 W g a b c).heap[g]? = some (.cells #[a, b, c] t (0, 0)) := blk_set (blk_set (blk_set h _) _) _
theorem put3_touch (W : World) (g : Nat) (a b c : Value) : Touch [g] W (put3 W g a b c) := (((Touch.refl _ _).set (by simp) 0 a).set (by simp) 1 b).set (by simp) 2 c
set_option maxHeartbeats 4000000 in
theorem sCountsNew_any (C : Cfg) (n : Nat) (w : World) (hp : 2 ≤ C.p ∧ C.p ≤ 4 → C.p = (n : Int)) (ok : Bool) (hok : ok = true ↔ C.Ok) :
  Calls Tryz.prog 88 #[.agg C.cells] w fun e w' => ∃ M : Cnt, e = .returned (.tuple #[.agg M.cells, .bool ok]) ∧ OwnCn w' w.heap.size M ∧ Below w.heap.size w w' ∧ AlikeC (newC n ok) M := by
 cases ok
 ·
  have HO : Hid (false = true ↔ C.Ok) := hok
  have HB0 : Hid (Below (w.heap.size + 2) ((w.alloc (.cells C.cells 39)).alloc (.cells #[.slice none 0 0, .int .i64 0, .slice none 0 0] 41)) ((w.alloc (.cells C.cells 39)).alloc (.cells #[.slice none 0 0, .int .i64 0, .slice none 0 0] 41))) := Below.refl _ _
  clear hok hp
  unfold Cfg.cells at *
  go_enter Tryz.func88, Tryz.ntmps88
  go_wp2_with fail
  refine (sConfigOk_any C _ false HO.out).mono ?_
  rintro e w1 ⟨rfl, hb⟩
  have hB := next2 HB0.out hb
  have kz := (laid2 hB).2
  have cz := blk_cell kz
  have fz := blk_free kz
  have ht := put3_touch w1 (w.heap.size + 1) (.slice none 0 0) (.int .i64 0) (.slice none 0 0)
  have kz3 := put3_blk kz (.slice none 0 0) (.int .i64 0) (.slice none 0 0)
  have B := (under2 hB).trans (ht.below (under2 hB).size (fun x hx => by simp at hx; omega))
  have cB := blk_cell kz3
  clear hb kz ht kz3 hB
  unfold put3 at *
  go_wp2_with fail
  exact bodyPost_ret (v := .tuple #[.agg #[.slice none 0 0, .int .i64 0, .slice none 0 0], .bool false]) (by simp [results, Tryz.results88, go_sem, cB]) rfl ⟨zeroC, rfl, zeroC_own _ _, B, AlikeC.refl _⟩
 ·
  obtain ⟨p, c, xo, xn, hd, lo, dl⟩ := C
  have hC := hok.1 rfl
  have h1 : 2 ≤ p ∧ p ≤ 4 := hC.num.p
  obtain rfl : p = (n : Int) := hp h1
  have hn : n ≤ 4 := by omega
  have HO : Hid (Cfg.Ok ⟨(n : Int), c, xo, xn, hd, lo, dl⟩) := hC
  have mk1 : ∀ w, _ := make_ints n (by omega)
  have mk2 : ∀ w, _ := make_bools n (by omega)
  have HB0 : Hid (Below (w.heap.size + 2) ((w.alloc (.cells #[.int .i64 (n : Int), .int .i64 c, .int .i64 xo, .int .i64 xn, .int .i64 hd, .int .i64 lo, .int .i64 dl] 39)).alloc (.cells #[.slice none 0 0, .int .i64 0, .slice none 0 0] 41)) ((w.alloc (.cells #[.int .i64 (n : Int), .int .i64 c, .int .i64 xo, .int .i64 xn, .int .i64 hd, .int .i64 lo, .int .i64 dl] 39)).alloc (.cells #[.slice none 0 0, .int .i64 0, .slice none 0 0] 41))) := Below.refl _ _
  clear hok hp hC h1
  unfold Cfg.cells
  dsimp only
  go_enter Tryz.func88, Tryz.ntmps88
  go_wp2_with fail
  refine (sConfigOk_any ⟨(n : Int), c, xo, xn, hd, lo, dl⟩ _ true ⟨fun _ => HO.out, fun _ => rfl⟩).mono ?_
  rintro e w1 ⟨rfl, hb⟩
  have hB := next2 HB0.out hb
  have cb := (boxed2 hB).1
  have kz := (laid2 hB).2
  clear hb
  go_wp2_with fail
  refine wp_region_held_drew (S := fun w' => ∀ o, w'.cell? ⟨w.heap.size, o, none⟩ = (#[.int .i64 (n : Int), .int .i64 c, .int .i64 xo, .int .i64 xn, .int .i64 hd, .int .i64 lo, .int .i64 dl] : Array Value)[o]?) (by kernel_rfl) cb (fun hHeld => ?_)
  have kz : w1.drew.heap[w.heap.size + 1]? = _ := kz
  replace hB := hB.drew
  have cb : ∀ o, w1.drew.cell? ⟨w.heap.size, o, none⟩ = (#[.int .i64 (n : Int), .int .i64 c, .int .i64 xo, .int .i64 xn, .int .i64 hd, .int .i64 lo, .int .i64 dl] : Array Value)[o]? := cb
  generalize w1.drew = W at *
  refine tC 0 8 (v := ?_) ?_ ?_
  rotate_left
  ·
   intro wx hSw
   try dsimp only at hSw
   go_simp
   try with_reducible rfl
  try simp only [Act.put, PZ]
  refine tC 1 9 (v := ?_) ?_ ?_
  rotate_left
  ·
   intro wx hSw
   try dsimp only at hSw
   go_simp
   try with_reducible rfl
  try simp only [Act.put, PZ]
  refine tC 3 11 (v := ?_) ?_ ?_
  rotate_left
  ·
   intro wx hSw
   try dsimp only at hSw
   go_simp
   try with_reducible rfl
  try simp only [Act.put, PZ]
  refine tC 4 12 (v := ?_) ?_ ?_
  rotate_left
  ·
   intro wx hSw
   try dsimp only at hSw
   go_simp
   try with_reducible rfl
  try simp only [Act.put, PZ]
  refine r2 2 5 (fun K hK => ?_) (fun K hK => ?_)
  ·
   have hA := (Below.refl W.heap.size W).alloc (Nat.le_refl _) (.cells (zInts n) 2)
   have hN := blk_new W (.cells (zInts n) 2)
   have hB2 := next2 hB hA
   have cb2 := (boxed2 hB2).1
   have kz2 := (hA.block _ (blk_lt kz)).trans kz
   have gUl : w.heap.size + 2 ≤ W.heap.size := upper2 hB
   have m := mk1 W
   go_simp
   clear m
   refine hK.out _ _ cb2 (fun hHeld => ?_)
   clear hK K
   try simp only [Act.put, PZ]
   have kU : (W.alloc (.cells (zInts n) 2)).heap[W.heap.size]? = _ := hN
   have gUr : W.heap.size < (W.alloc (.cells (zInts n) 2)).heap.size := blk_lt hN
   generalize hg1 : W.heap.size = gU at *
   generalize W.alloc (.cells (zInts n) 2) = W1 at *
   clear hB cb kz hA hN
   have hB := hB2
   have kz := kz2
   clear hB2 kz2 cb2
   refine r1 5 (fun K hK => ?_)
   have hA := (Below.refl W1.heap.size W1).alloc (Nat.le_refl _) (.cells (zBools n) 4)
   have hN := blk_new W1 (.cells (zBools n) 4)
   have hB2 := next2 hB hA
   have cb2 := (boxed2 hB2).1
   have kz2 := (hA.block _ (blk_lt kz)).trans kz
   have kU2 := (hA.block _ (blk_lt kU)).trans kU
   have gPl : w.heap.size + 2 ≤ W1.heap.size := upper2 hB
   have m := mk2 W1
   go_simp
   clear m
   refine hK.out _ _ cb2 (fun hHeld => ?_)
   clear hK K
   try simp only [Act.put, PZ]
   have kP : (W1.alloc (.cells (zBools n) 4)).heap[W1.heap.size]? = _ := hN
   have gUn : gU ≠ W1.heap.size := by omega
   generalize hg2 : W1.heap.size = gP at *
   generalize W1.alloc (.cells (zBools n) 4) = W2 at *
   clear hB kz hA hN kU
   have hB := hB2
   have kz := kz2
   have kU := kU2
   clear hB2 kz2 kU2
   refine tC 6 14 (v := ?_) ?_ ?_
   rotate_left
   ·
    intro wx hSw
    try dsimp only at hSw
    go_simp
    try with_reducible rfl
   try simp only [Act.put, PZ]
   have cz := blk_cell kz
   have fz := blk_free kz
   have ht := put3_touch W2 (w.heap.size + 1) (.slice (some ⟨gU, 0, none⟩) n n) (.int .i64 0) (.slice (some ⟨gP, 0, none⟩) n n)
   have kz3 := put3_blk kz (.slice (some ⟨gU, 0, none⟩) n n) (.int .i64 0) (.slice (some ⟨gP, 0, none⟩) n n)
   have cb3 := blk_cell ((ht.block w.heap.size (by have := upper2 hB; omega) (by simp)).trans (laid2 hB).1)
   refine r1 7 (fun K hK => ?_)
   go_simp
   refine hK.out _ _ cb3 (fun hHeld => ?_)
   clear hK K
   try simp only [Act.put, PZ]
   refine r1 8 (fun K hK => ?_)
   go_simp
   refine hK.out _ _ cb3 (fun hHeld => ?_)
   clear hK K
   try simp only [Act.put, PZ]
   refine dn ?_
   have rU := (zInts_row kU).keep (ht.block gU (blk_lt kU) (by simp; omega))
   have rP := (zBools_row kP).keep (ht.block gP (blk_lt kP) (by simp; omega))
   have B := (under2 hB).trans (ht.below (under2 hB).size (fun x hx => by simp at hx; omega))
   have cB := blk_cell kz3
   clear cz fz kU kP kz ht cb3
   unfold put3 at *
   go_wp2_with fail
   refine bodyPost_ret (v := .tuple #[.agg #[.slice (some ⟨gU, 0, none⟩) n n, .int .i64 0, .slice (some ⟨gP, 0, none⟩) n n], .bool true]) (by simp [results, Tryz.results88, go_sem, cB]) rfl ⟨⟨some ⟨gU, 0, none⟩, n, n, fun _ => 0, 0, some ⟨gP, 0, none⟩, n, n, fun _ => false⟩, rfl, ⟨VT.of (by omega) rU, VT.of (by omega) rP⟩, B, ⟨rfl, rfl, rfl, rfl, rfl⟩⟩
  ·
   have hA := (Below.refl W.heap.size W).alloc (Nat.le_refl _) (.cells (zBools n) 4)
   have hN := blk_new W (.cells (zBools n) 4)
   have hB2 := next2 hB hA
   have cb2 := (boxed2 hB2).1
   have kz2 := (hA.block _ (blk_lt kz)).trans kz
   have gPl : w.heap.size + 2 ≤ W.heap.size := upper2 hB
   have m := mk2 W
   go_simp
   clear m
   refine hK.out _ _ cb2 (fun hHeld => ?_)
   clear hK K
   try simp only [Act.put, PZ]
   have kP : (W.alloc (.cells (zBools n) 4)).heap[W.heap.size]? = _ := hN
   have gPr : W.heap.size < (W.alloc (.cells (zBools n) 4)).heap.size := blk_lt hN
   generalize hg1 : W.heap.size = gP at *
   generalize W.alloc (.cells (zBools n) 4) = W1 at *
   clear hB cb kz hA hN
   have hB := hB2
   have kz := kz2
   clear hB2 kz2 cb2
   refine r1 2 (fun K hK => ?_)
   have hA := (Below.refl W1.heap.size W1).alloc (Nat.le_refl _) (.cells (zInts n) 2)
   have hN := blk_new W1 (.cells (zInts n) 2)
   have hB2 := next2 hB hA
   have cb2 := (boxed2 hB2).1
   have kz2 := (hA.block _ (blk_lt kz)).trans kz
   have kP2 := (hA.block _ (blk_lt kP)).trans kP
   have gUl : w.heap.size + 2 ≤ W1.heap.size := upper2 hB
   have m := mk1 W1
   go_simp
   clear m
   refine hK.out _ _ cb2 (fun hHeld => ?_)
   clear hK K
   try simp only [Act.put, PZ]
   have kU : (W1.alloc (.cells (zInts n) 2)).heap[W1.heap.size]? = _ := hN
   have gPn : gP ≠ W1.heap.size := by omega
   generalize hg2 : W1.heap.size = gU at *
   generalize W1.alloc (.cells (zInts n) 2) = W2 at *
   clear hB kz hA hN kP
   have hB := hB2
   have kz := kz2
   have kP := kP2
   clear hB2 kz2 kP2
   refine tC 6 14 (v := ?_) ?_ ?_
   rotate_left
   ·
    intro wx hSw
    try dsimp only at hSw
    go_simp
    try with_reducible rfl
   try simp only [Act.put, PZ]
   have cz := blk_cell kz
   have fz := blk_free kz
   have ht := put3_touch W2 (w.heap.size + 1) (.slice (some ⟨gU, 0, none⟩) n n) (.int .i64 0) (.slice (some ⟨gP, 0, none⟩) n n)
   have kz3 := put3_blk kz (.slice (some ⟨gU, 0, none⟩) n n) (.int .i64 0) (.slice (some ⟨gP, 0, none⟩) n n)
   have cb3 := blk_cell ((ht.block w.heap.size (by have := upper2 hB; omega) (by simp)).trans (laid2 hB).1)
   refine r1 7 (fun K hK => ?_)
   go_simp
   refine hK.out _ _ cb3 (fun hHeld => ?_)
   clear hK K
   try simp only [Act.put, PZ]
   refine r1 8 (fun K hK => ?_)
   go_simp
   refine hK.out _ _ cb3 (fun hHeld => ?_)
   clear hK K
   try simp only [Act.put, PZ]
   refine dn ?_
   have rU := (zInts_row kU).keep (ht.block gU (blk_lt kU) (by simp; omega))
   have rP := (zBools_row kP).keep (ht.block gP (blk_lt kP) (by simp; omega))
   have B := (under2 hB).trans (ht.below (under2 hB).size (fun x hx => by simp at hx; omega))
   have cB := blk_cell kz3
   clear cz fz kU kP kz ht cb3
   unfold put3 at *
   go_wp2_with fail
   refine bodyPost_ret (v := .tuple #[.agg #[.slice (some ⟨gU, 0, none⟩) n n, .int .i64 0, .slice (some ⟨gP, 0, none⟩) n n], .bool true]) (by simp [results, Tryz.results88, go_sem, cB]) rfl ⟨⟨some ⟨gU, 0, none⟩, n, n, fun _ => 0, 0, some ⟨gP, 0, none⟩, n, n, fun _ => false⟩, rfl, ⟨VT.of (by omega) rU, VT.of (by omega) rP⟩, B, ⟨rfl, rfl, rfl, rfl, rfl⟩⟩
set_option maxHeartbeats 4000000 in
theorem iCountsNew_any (C : Cfg) (n : Nat) (w : World) (hp : 2 ≤ C.p ∧ C.p ≤ 4 → C.p = (n : Int)) (ok : Bool) (hok : ok = true ↔ C.Ok) :
  Calls Tryz.prog 91 #[.agg C.cells] w fun e w' => ∃ M : Cnt, e = .returned (.tuple #[.agg M.cells, .bool ok]) ∧ OwnCn w' w.heap.size M ∧ Below w.heap.size w w' ∧ AlikeC (newC n ok) M := by
 cases ok
 ·
  have HO : Hid (false = true ↔ C.Ok) := hok
  have HB0 : Hid (Below (w.heap.size + 2) ((w.alloc (.cells C.cells 39)).alloc (.cells #[.slice none 0 0, .int .i64 0, .slice none 0 0] 41)) ((w.alloc (.cells C.cells 39)).alloc (.cells #[.slice none 0 0, .int .i64 0, .slice none 0 0] 41))) := Below.refl _ _
  clear hok hp
  unfold Cfg.cells at *
  go_enter Tryz.func91, Tryz.ntmps91
  go_wp2_with fail
  refine (iConfigOk_any C _ false HO.out).mono ?_
  rintro e w1 ⟨rfl, hb⟩
  have hB := next2 HB0.out hb
  have kz := (laid2 hB).2
  have cz := blk_cell kz
  have fz := blk_free kz
  have ht := put3_touch w1 (w.heap.size + 1) (.slice none 0 0) (.int .i64 0) (.slice none 0 0)
  have kz3 := put3_blk kz (.slice none 0 0) (.int .i64 0) (.slice none 0 0)
  have B := (under2 hB).trans (ht.below (under2 hB).size (fun x hx => by simp at hx; omega))
  have cB := blk_cell kz3
  clear hb kz ht kz3 hB
  unfold put3 at *
  go_wp2_with fail
  exact bodyPost_ret (v := .tuple #[.agg #[.slice none 0 0, .int .i64 0, .slice none 0 0], .bool false]) (by simp [results, Tryz.results91, go_sem, cB]) rfl ⟨zeroC, rfl, zeroC_own _ _, B, AlikeC.refl _⟩
 ·
  obtain ⟨p, c, xo, xn, hd, lo, dl⟩ := C
  have hC := hok.1 rfl
  have h1 : 2 ≤ p ∧ p ≤ 4 := hC.num.p
  obtain rfl : p = (n : Int) := hp h1
  have hn : n ≤ 4 := by omega
  have HO : Hid (Cfg.Ok ⟨(n : Int), c, xo, xn, hd, lo, dl⟩) := hC
  have mk1 : ∀ w, _ := make_ints n (by omega)
  have mk2 : ∀ w, _ := make_bools n (by omega)
  have HB0 : Hid (Below (w.heap.size + 2) ((w.alloc (.cells #[.int .i64 (n : Int), .int .i64 c, .int .i64 xo, .int .i64 xn, .int .i64 hd, .int .i64 lo, .int .i64 dl] 39)).alloc (.cells #[.slice none 0 0, .int .i64 0, .slice none 0 0] 41)) ((w.alloc (.cells #[.int .i64 (n : Int), .int .i64 c, .int .i64 xo, .int .i64 xn, .int .i64 hd, .int .i64 lo, .int .i64 dl] 39)).alloc (.cells #[.slice none 0 0, .int .i64 0, .slice none 0 0] 41))) := Below.refl _ _
  clear hok hp hC h1
  unfold Cfg.cells
  dsimp only
  go_enter Tryz.func91, Tryz.ntmps91
  go_wp2_with fail
  refine (iConfigOk_any ⟨(n : Int), c, xo, xn, hd, lo, dl⟩ _ true ⟨fun _ => HO.out, fun _ => rfl⟩).mono ?_
  rintro e w1 ⟨rfl, hb⟩
  have hB := next2 HB0.out hb
  have cb := (boxed2 hB).1
  have kz := (laid2 hB).2
  clear hb
  go_wp2_with fail
  refine wp_region_held_drew (S := fun w' => ∀ o, w'.cell? ⟨w.heap.size, o, none⟩ = (#[.int .i64 (n : Int), .int .i64 c, .int .i64 xo, .int .i64 xn, .int .i64 hd, .int .i64 lo, .int .i64 dl] : Array Value)[o]?) (by kernel_rfl) cb (fun hHeld => ?_)
  have kz : w1.drew.heap[w.heap.size + 1]? = _ := kz
  replace hB := hB.drew
  have cb : ∀ o, w1.drew.cell? ⟨w.heap.size, o, none⟩ = (#[.int .i64 (n : Int), .int .i64 c, .int .i64 xo, .int .i64 xn, .int .i64 hd, .int .i64 lo, .int .i64 dl] : Array Value)[o]? := cb
  generalize w1.drew = W at *
  refine tC 0 8 (v := ?_) ?_ ?_
  rotate_left
  ·
   intro wx hSw
   try dsimp only at hSw
   go_simp
   try with_reducible rfl
  try simp only [Act.put, PZ]
  refine tC 1 9 (v := ?_) ?_ ?_
  rotate_left
  ·
   intro wx hSw
   try dsimp only at hSw
   go_simp
   try with_reducible rfl
  try simp only [Act.put, PZ]
  refine tC 3 11 (v := ?_) ?_ ?_
  rotate_left
  ·
   intro wx hSw
   try dsimp only at hSw
   go_simp
   try with_reducible rfl
  try simp only [Act.put, PZ]
  refine tC 4 12 (v := ?_) ?_ ?_
  rotate_left
  ·
   intro wx hSw
   try dsimp only at hSw
   go_simp
   try with_reducible rfl
  try simp only [Act.put, PZ]
  refine r2 2 5 (fun K hK => ?_) (fun K hK => ?_)
  ·
   have hA := (Below.refl W.heap.size W).alloc (Nat.le_refl _) (.cells (zInts n) 2)
   have hN := blk_new W (.cells (zInts n) 2)
   have hB2 := next2 hB hA
   have cb2 := (boxed2 hB2).1
   have kz2 := (hA.block _ (blk_lt kz)).trans kz
   have gUl : w.heap.size + 2 ≤ W.heap.size := upper2 hB
   have m := mk1 W
   go_simp
   clear m
   refine hK.out _ _ cb2 (fun hHeld => ?_)
   clear hK K
   try simp only [Act.put, PZ]
   have kU : (W.alloc (.cells (zInts n) 2)).heap[W.heap.size]? = _ := hN
   have gUr : W.heap.size < (W.alloc (.cells (zInts n) 2)).heap.size := blk_lt hN
   generalize hg1 : W.heap.size = gU at *
   generalize W.alloc (.cells (zInts n) 2) = W1 at *
   clear hB cb kz hA hN
   have hB := hB2
   have kz := kz2
   clear hB2 kz2 cb2
   refine r1 5 (fun K hK => ?_)
   have hA := (Below.refl W1.heap.size W1).alloc (Nat.le_refl _) (.cells (zBools n) 4)
   have hN := blk_new W1 (.cells (zBools n) 4)
   have hB2 := next2 hB hA
   have cb2 := (boxed2 hB2).1
   have kz2 := (hA.block _ (blk_lt kz)).trans kz
   have kU2 := (hA.block _ (blk_lt kU)).trans kU
   have gPl : w.heap.size + 2 ≤ W1.heap.size := upper2 hB
   have m := mk2 W1
   go_simp
   clear m
   refine hK.out _ _ cb2 (fun hHeld => ?_)
   clear hK K
   try simp only [Act.put, PZ]
   have kP : (W1.alloc (.cells (zBools n) 4)).heap[W1.heap.size]? = _ := hN
   have gUn : gU ≠ W1.heap.size := by omega
   generalize hg2 : W1.heap.size = gP at *
   generalize W1.alloc (.cells (zBools n) 4) = W2 at *
   clear hB kz hA hN kU
   have hB := hB2
   have kz := kz2
   have kU := kU2
   clear hB2 kz2 kU2
   refine tC 6 14 (v := ?_) ?_ ?_
   rotate_left
   ·
    intro wx hSw
    try dsimp only at hSw
    go_simp
    try with_reducible rfl
   try simp only [Act.put, PZ]
   have cz := blk_cell kz
   have fz := blk_free kz
   have ht := put3_touch W2 (w.heap.size + 1) (.slice (some ⟨gU, 0, none⟩) n n) (.int .i64 0) (.slice (some ⟨gP, 0, none⟩) n n)
   have kz3 := put3_blk kz (.slice (some ⟨gU, 0, none⟩) n n) (.int .i64 0) (.slice (some ⟨gP, 0, none⟩) n n)
   have cb3 := blk_cell ((ht.block w.heap.size (by have := upper2 hB; omega) (by simp)).trans (laid2 hB).1)
   refine r1 7 (fun K hK => ?_)
   go_simp
   refine hK.out _ _ cb3 (fun hHeld => ?_)
   clear hK K
   try simp only [Act.put, PZ]
   refine r1 8 (fun K hK => ?_)
   go_simp
   refine hK.out _ _ cb3 (fun hHeld => ?_)
   clear hK K
   try simp only [Act.put, PZ]
   refine dn ?_
   have rU := (zInts_row kU).keep (ht.block gU (blk_lt kU) (by simp; omega))
   have rP := (zBools_row kP).keep (ht.block gP (blk_lt kP) (by simp; omega))
   have B := (under2 hB).trans (ht.below (under2 hB).size (fun x hx => by simp at hx; omega))
   have cB := blk_cell kz3
   clear cz fz kU kP kz ht cb3
   unfold put3 at *
   go_wp2_with fail
   refine bodyPost_ret (v := .tuple #[.agg #[.slice (some ⟨gU, 0, none⟩) n n, .int .i64 0, .slice (some ⟨gP, 0, none⟩) n n], .bool true]) (by simp [results, Tryz.results91, go_sem, cB]) rfl ⟨⟨some ⟨gU, 0, none⟩, n, n, fun _ => 0, 0, some ⟨gP, 0, none⟩, n, n, fun _ => false⟩, rfl, ⟨VT.of (by omega) rU, VT.of (by omega) rP⟩, B, ⟨rfl, rfl, rfl, rfl, rfl⟩⟩
  ·
   have hA := (Below.refl W.heap.size W).alloc (Nat.le_refl _) (.cells (zBools n) 4)
   have hN := blk_new W (.cells (zBools n) 4)
   have hB2 := next2 hB hA
   have cb2 := (boxed2 hB2).1
   have kz2 := (hA.block _ (blk_lt kz)).trans kz
   have gPl : w.heap.size + 2 ≤ W.heap.size := upper2 hB
   have m := mk2 W
   go_simp
   clear m
   refine hK.out _ _ cb2 (fun hHeld => ?_)
   clear hK K
   try simp only [Act.put, PZ]
   have kP : (W.alloc (.cells (zBools n) 4)).heap[W.heap.size]? = _ := hN
   have gPr : W.heap.size < (W.alloc (.cells (zBools n) 4)).heap.size := blk_lt hN
   generalize hg1 : W.heap.size = gP at *
   generalize W.alloc (.cells (zBools n) 4) = W1 at *
   clear hB cb kz hA hN
   have hB := hB2
   have kz := kz2
   clear hB2 kz2 cb2
   refine r1 2 (fun K hK => ?_)
   have hA := (Below.refl W1.heap.size W1).alloc (Nat.le_refl _) (.cells (zInts n) 2)
   have hN := blk_new W1 (.cells (zInts n) 2)
   have hB2 := next2 hB hA
   have cb2 := (boxed2 hB2).1
   have kz2 := (hA.block _ (blk_lt kz)).trans kz
   have kP2 := (hA.block _ (blk_lt kP)).trans kP
   have gUl : w.heap.size + 2 ≤ W1.heap.size := upper2 hB
   have m := mk1 W1
   go_simp
   clear m
   refine hK.out _ _ cb2 (fun hHeld => ?_)
   clear hK K
   try simp only [Act.put, PZ]
   have kU : (W1.alloc (.cells (zInts n) 2)).heap[W1.heap.size]? = _ := hN
   have gPn : gP ≠ W1.heap.size := by omega
   generalize hg2 : W1.heap.size = gU at *
   generalize W1.alloc (.cells (zInts n) 2) = W2 at *
   clear hB kz hA hN kP
   have hB := hB2
   have kz := kz2
   have kP := kP2
   clear hB2 kz2 kP2
   refine tC 6 14 (v := ?_) ?_ ?_
   rotate_left
   ·
    intro wx hSw
    try dsimp only at hSw
    go_simp
    try with_reducible rfl
   try simp only [Act.put, PZ]
   have cz := blk_cell kz
   have fz := blk_free kz
   have ht := put3_touch W2 (w.heap.size + 1) (.slice (some ⟨gU, 0, none⟩) n n) (.int .i64 0) (.slice (some ⟨gP, 0, none⟩) n n)
   have kz3 := put3_blk kz (.slice (some ⟨gU, 0, none⟩) n n) (.int .i64 0) (.slice (some ⟨gP, 0, none⟩) n n)
   have cb3 := blk_cell ((ht.block w.heap.size (by have := upper2 hB; omega) (by simp)).trans (laid2 hB).1)
   refine r1 7 (fun K hK => ?_)
   go_simp
   refine hK.out _ _ cb3 (fun hHeld => ?_)
   clear hK K
   try simp only [Act.put, PZ]
   refine r1 8 (fun K hK => ?_)
   go_simp
   refine hK.out _ _ cb3 (fun hHeld => ?_)
   clear hK K
   try simp only [Act.put, PZ]
   refine dn ?_
   have rU := (zInts_row kU).keep (ht.block gU (blk_lt kU) (by simp; omega))
   have rP := (zBools_row kP).keep (ht.block gP (blk_lt kP) (by simp; omega))
   have B := (under2 hB).trans (ht.below (under2 hB).size (fun x hx => by simp at hx; omega))
   have cB := blk_cell kz3
   clear cz fz kU kP kz ht cb3
   unfold put3 at *
   go_wp2_with fail
   refine bodyPost_ret (v := .tuple #[.agg #[.slice (some ⟨gU, 0, none⟩) n n, .int .i64 0, .slice (some ⟨gP, 0, none⟩) n n], .bool true]) (by simp [results, Tryz.results91, go_sem, cB]) rfl ⟨⟨some ⟨gU, 0, none⟩, n, n, fun _ => 0, 0, some ⟨gP, 0, none⟩, n, n, fun _ => false⟩, rfl, ⟨VT.of (by omega) rU, VT.of (by omega) rP⟩, B, ⟨rfl, rfl, rfl, rfl, rfl⟩⟩
def valsV (n : Nat) (F : Nat → Value) : List Value := (List.range n).map F
theorem valsV_len (n : Nat) (F : Nat → Value) : (valsV n F).length = n := by simp [valsV]
theorem valsV_get {n : Nat} {F : Nat → Value} {j : Nat} {u : Value} (h : (valsV n F)[j]? = some u) : j < n ∧ u = F j := by
 have hj : j < n := by
  have := (List.getElem?_eq_some_iff.1 h).1
  rwa [valsV_len] at this
 refine ⟨hj, ?_⟩
 simp [valsV, hj] at h
 exact h.symm
theorem valsV_at {n : Nat} {F : Nat → Value} {j : Nat} (h : j < n) : (valsV n F)[j]? = some (F j) := by simp [valsV, h]
theorem own_vt {e : TypeId} {w : World} {base n : Nat} {v : Value} {F : Nat → Value} (h : w.ownsRow base e 1 v n (valsV n F)) : ∃ a c, v = .slice a n c ∧ VT e w base a n F := by
 rcases h.2 with ⟨rfl, rfl⟩ | ⟨g, cap, cur, rfl, hb, hg, hnc, hcm, hcs, htake⟩
 ·
  exact ⟨none, 0, rfl, .inl rfl⟩
 ·
  refine ⟨_, cap, rfl, .inr ⟨g, rfl, hb, cur, hg, by omega, fun i hi => ?_⟩⟩
  have e : (cur.toList.take (n * 1))[i]? = some (F i) := by rw [htake]; exact valsV_at hi
  rw [List.getElem?_take_of_lt (by omega)] at e
  simpa using e
theorem appendT {t e : TypeId} {z : Value} {by' : Nat} (ht : Tryz.prog.underlying t = some (.slice e)) (hinf : (Tryz.prog.info? e).map (fun i => (i.zero, i.size, i.bytes)) = some (some z, 1, by')) (hby : by' ≤ 8) (hzc : z.cells.size = 1)
  {W : World} {base : Nat} {v : Value} {g q n c : Nat} {F : Nat → Value} (h : W.ownsRow base e 1 v 0 []) (hb : base ≤ W.heap.size) (hn : n ≤ 1048576) (hc : ∀ i, i < n → W.cell? ⟨g, q + i, none⟩ = some (F i)) (h1 : ∀ i, (F i).oneCell' = true) :
  ∃ a' c' W', (Builtin.append_ #[t, t] t #[v, .slice (some ⟨g, q, none⟩) n c]).run Tryz.prog W = .ok (.slice a' n c') W' ∧ VT e W' base a' n F ∧ W.grownBy W' v.ownBlock ∧ (∀ x ∈ blkV a' n, some x = v.ownBlock ∨ x = W.heap.size) := by
 obtain ⟨i0, hi, hz0, hz1, hz2⟩ := info_parts hinf
 obtain ⟨v', w', hr, h2, h3, h4, h5⟩ := run_append_own_at (P := Tryz.prog) W base t t e i0 z 1 by' ht hi hz0 hz1 hz2 hzc (by decide) v 0 [] h ⟨g, q, none⟩ n c (valsV n F) (by rw [valsV_len]; omega) (fun j u hj => by
  obtain ⟨hjn, rfl⟩ := valsV_get hj
  have e : (⟨g, q, none⟩ : Addr).add j = ⟨g, q + j, none⟩ := by unfold Addr.add; split <;> simp_all
  rw [e]; exact hc j hjn) (fun u hu => by
  obtain ⟨j, _, rfl⟩ := List.mem_map.1 hu
  exact h1 j) (by unfold maxLen; omega) (by have : (0 + n) * by' ≤ (0 + n) * 8 := Nat.mul_le_mul_left _ hby; omega) hb
 rw [Nat.zero_add, List.nil_append] at h2
 obtain ⟨a', c', rfl, hv⟩ := own_vt h2
 refine ⟨a', c', w', hr, hv, h3, fun x hx => ?_⟩
 unfold blkV at hx
 split at hx
 ·
  simp at hx
 ·
  rename_i hn0
  rcases hv with h0 | ⟨g', rfl, _, _⟩
  ·
   exact absurd h0 hn0
  ·
   simp at hx
   subst hx
   rcases h5 with h5 | h5
   ·
    exact .inl h5
   ·
    right
    simpa [Value.ownBlock] using h5
theorem rd_some {w : World} {a : Option Addr} {n : Nat} {F : Nat → Value} (h : RdRow w a n F) (hn : 0 < n) : ∃ g q, a = some ⟨g, q, none⟩ ∧ ∀ i, i < n → w.cell? ⟨g, q + i, none⟩ = some (F i) := by
 obtain ⟨g, q, rfl, _⟩ := h 0 hn
 refine ⟨g, q, rfl, fun i hi => ?_⟩
 obtain ⟨g', q', e, hc⟩ := h i hi
 cases e
 exact hc
theorem copyInts_any (a : Option Addr) (n cap : Nat) (f : Nat → Int) (w : World) (h0 : 0 < n) (hn : n ≤ 1048576) (h : RdRow w a n fun i => .int .i64 (f i)) :
  Calls Tryz.prog 165 #[.slice a n cap] w fun e w' => ∃ a' c', e = .returned (.slice a' n c') ∧ VT 2 w' w.heap.size a' n (fun i => .int .i64 (f i)) ∧ Below w.heap.size w w' := by
 obtain ⟨g, q, rfl, hc⟩ := rd_some h h0
 obtain ⟨a', c', W', hr, hv, hg, hp⟩ := appendT (t := 25) Tryz.underlying25 info2 (by decide) rfl (W := w) (base := w.heap.size) (v := .slice none 0 0) (g := g) (q := q) (c := cap) (World.ownsRow_nil _ _ _ _) (Nat.le_refl _) hn hc (fun i => rfl)
 have hB : Below w.heap.size w W' := (Below.refl _ _).grown hg (Nat.le_refl _) (fun k e => by simp [Value.ownBlock] at e)
 have HV : Hid (VT 2 W' w.heap.size a' n (fun i => .int .i64 (f i))) := hv
 clear hv hg hp h hc
 go_enter Tryz.func165, Tryz.ntmps165
 go_wp2_with (at_builtin; refine Lib.wpList_append_run _ rfl _ _ _ _ rfl _ _ rfl rfl _ _ hr ?_)
 go_ret
 exact ⟨_, _, rfl, HV.out, hB⟩
theorem copyBools_any (a : Option Addr) (n cap : Nat) (f : Nat → Bool) (w : World) (h0 : 0 < n) (hn : n ≤ 1048576) (h : RdRow w a n fun i => .bool (f i)) :
  Calls Tryz.prog 166 #[.slice a n cap] w fun e w' => ∃ a' c', e = .returned (.slice a' n c') ∧ VT 4 w' w.heap.size a' n (fun i => .bool (f i)) ∧ Below w.heap.size w w' := by
 obtain ⟨g, q, rfl, hc⟩ := rd_some h h0
 obtain ⟨a', c', W', hr, hv, hg, hp⟩ := appendT (t := 26) Tryz.underlying26 info4 (by decide) rfl (W := w) (base := w.heap.size) (v := .slice none 0 0) (g := g) (q := q) (c := cap) (World.ownsRow_nil _ _ _ _) (Nat.le_refl _) hn hc (fun i => rfl)
 have hB : Below w.heap.size w W' := (Below.refl _ _).grown hg (Nat.le_refl _) (fun k e => by simp [Value.ownBlock] at e)
 have HV : Hid (VT 4 W' w.heap.size a' n (fun i => .bool (f i))) := hv
 clear hv hg hp h hc
 go_enter Tryz.func166, Tryz.ntmps166
 go_wp2_with (at_builtin; refine Lib.wpList_append_run _ rfl _ _ _ _ rfl _ _ rfl rfl _ _ hr ?_)
 go_ret
 exact ⟨_, _, rfl, HV.out, hB⟩
theorem touch3 {W : World} {base : Nat} {N : Cnt} {g : Nat} {x y z : Value} {cs : Array Value} (h : OwnCn W base N) (hk : W.heap[g]? = some (.cells cs 41 (0, 0))) : OwnCn (put3 W g x y z) base N :=
 ⟨h.u.touchS (put3_touch _ _ _ _ _) (fun k hk1 hk2 => by simp at hk2; subst hk2; exact VT.boxOut h.u (by decide) hk hk1), h.p.touchS (put3_touch _ _ _ _ _) (fun k hk1 hk2 => by simp at hk2; subst hk2; exact VT.boxOut h.p (by decide) hk hk1)⟩
set_option maxHeartbeats 4000000 in
theorem copyCounts_any (N : Cnt) (w : World) (hU : 0 < N.nU) (hP : 0 < N.nP) (hs : N.Small) (h : RdCnt w N) :
  Calls Tryz.prog 137 #[.agg N.cells] w fun e w' => ∃ M : Cnt, e = .returned (.agg M.cells) ∧ OwnCn w' w.heap.size M ∧ Below w.heap.size w w' ∧ AlikeC N M := by
 obtain ⟨aU, nU, cU, u, lo, aP, nP, cP, p⟩ := N
 have HU : Hid (RdRow w aU nU fun i => .int .i64 (u i)) := h.u
 have HP : Hid (RdRow w aP nP fun i => .bool (p i)) := h.p
 have hs1 : nU ≤ 1048576 := hs.u
 have hs2 : nP ≤ 1048576 := hs.p
 have hU' : 0 < nU := hU
 have hP' : 0 < nP := hP
 clear h hs hU hP
 obtain ⟨w3, hw3⟩ : ∃ w3, w3 = ((w.alloc (.cells #[.slice aU nU cU, .int .i64 lo, .slice aP nP cP] 41)).alloc (.cells #[.slice none 0 0, .int .i64 0, .slice none 0 0] 41)).alloc (.cells #[.slice aU nU cU, .int .i64 lo, .slice aP nP cP] 41) := ⟨_, rfl⟩
 have k1 : w3.heap[w.heap.size]? = some (.cells #[.slice aU nU cU, .int .i64 lo, .slice aP nP cP] 41 (0, 0)) := by
  rw [hw3]; exact (blk_old _ (by simp; omega)).trans ((blk_old _ (by simp)).trans (blk_new _ _))
 have k2 : w3.heap[w.heap.size + 1]? = some (.cells #[.slice none 0 0, .int .i64 0, .slice none 0 0] 41 (0, 0)) := by
  rw [hw3]
  refine (blk_old _ (by simp)).trans ?_
  have := blk_new (w.alloc (.cells #[.slice aU nU cU, .int .i64 lo, .slice aP nP cP] 41)) (.cells #[.slice none 0 0, .int .i64 0, .slice none 0 0] 41)
  simpa using this
 have k3 : w3.heap[w.heap.size + 1 + 1]? = some (.cells #[.slice aU nU cU, .int .i64 lo, .slice aP nP cP] 41 (0, 0)) := by
  rw [hw3]
  have := blk_new ((w.alloc (.cells #[.slice aU nU cU, .int .i64 lo, .slice aP nP cP] 41)).alloc (.cells #[.slice none 0 0, .int .i64 0, .slice none 0 0] 41)) (.cells #[.slice aU nU cU, .int .i64 lo, .slice aP nP cP] 41)
  simpa using this
 have B3 : Below w.heap.size w w3 := by rw [hw3]; go_grown
 have HZ3 : Hid (w.heap.size + 3 = w3.heap.size) := by rw [Hid, hw3]; simp
 have c1 := blk_cell k1
 have c3' := blk_cell k3
 unfold Cnt.cells
 dsimp only
 go_enter Tryz.func137, Tryz.ntmps137
 go_wp2_with fail
 try rw [← hw3]
 refine (copyInts_any aU nU cU u _ hU' hs1 (HU.out.up B3)).mono ?_
 rintro e w4 ⟨aq, cq, rfl, hv4, hb4⟩
 have k14 := (hb4.block _ (blk_lt k1)).trans k1
 have k24 := (hb4.block _ (blk_lt k2)).trans k2
 have k34 := (hb4.block _ (blk_lt k3)).trans k3
 have B4 := B3.trans (hb4.mono B3.size)
 have HV4 : Hid (VT 2 w4 w3.heap.size aq nU (fun i => .int .i64 (u i))) := hv4
 clear k1 k2 k3 hb4 B3 c1 c3' hv4 hw3
 have c1 := blk_cell k14
 have c3 := blk_cell k34
 have f3 := blk_free k34
 have hz3 := HZ3.out
 have hT5 : Touch [w.heap.size + 1 + 1] w4 (w4.setCell ⟨w.heap.size + 1 + 1, 0, none⟩ (.slice aq nU cq)) := (Touch.refl _ _).set (by simp) 0 _
 have HV5 : Hid (VT 2 (w4.setCell ⟨w.heap.size + 1 + 1, 0, none⟩ (.slice aq nU cq)) w3.heap.size aq nU (fun i => .int .i64 (u i))) := HV4.out.touchS hT5 (fun x hx hy => by simp at hy; have := (HV4.out.blk x hx).1; omega)
 have k15 := (hT5.block _ (blk_lt k14) (by simp; omega)).trans k14
 have k25 := (hT5.block _ (blk_lt k24) (by simp)).trans k24
 have k35 : (w4.setCell ⟨w.heap.size + 1 + 1, 0, none⟩ (.slice aq nU cq)).heap[w.heap.size + 1 + 1]? = some (.cells #[.slice aq nU cq, .int .i64 lo, .slice aP nP cP] 41 (0, 0)) := blk_set k34 _
 have B5 := B4.trans (hT5.below B4.size (fun x hx => by simp at hx; omega))
 have c15 := blk_cell k15
 clear hz3 hT5 k14 k24 k34 B4
 go_wp2_with fail
 generalize w4.setCell ⟨w.heap.size + 1 + 1, 0, none⟩ (.slice aq nU cq) = w5 at *
 refine (copyBools_any aP nP cP p _ hP' hs2 (HP.out.up B5)).mono ?_
 rintro e w6 ⟨ap, cp, rfl, hv6, hb6⟩
 have k26 := (hb6.block _ (blk_lt k25)).trans k25
 have k36 := (hb6.block _ (blk_lt k35)).trans k35
 have HV6 : Hid (VT 2 w6 w3.heap.size aq nU (fun i => .int .i64 (u i))) := HV5.out.up hb6
 have HW6 : Hid (VT 4 w6 w5.heap.size ap nP (fun i => .bool (p i))) := hv6
 have B6 := B5.trans (hb6.mono B5.size)
 have l5 := blk_lt k35
 have HL5 : Hid (w.heap.size + 1 + 1 < w5.heap.size) := l5
 clear k15 k25 k35 hb6 B5 hv6 HV4 HV5 c1 c3 f3 c15 l5
 have c3 := blk_cell k36
 have f3 := blk_free k36
 have hz3 := HZ3.out
 have hl5 := HL5.out
 have hT7 : Touch [w.heap.size + 1 + 1] w6 (w6.setCell ⟨w.heap.size + 1 + 1, 2, none⟩ (.slice ap nP cp)) := (Touch.refl _ _).set (by simp) 2 _
 have O7 : OwnCn (w6.setCell ⟨w.heap.size + 1 + 1, 2, none⟩ (.slice ap nP cp)) w.heap.size ⟨aq, nU, cq, u, lo, ap, nP, cp, p⟩ :=
  ⟨(HV6.out.touchS hT7 (fun x hx hy => by simp at hy; have := (HV6.out.blk x hx).1; omega)).mono (by omega), (HW6.out.touchS hT7 (fun x hx hy => by simp at hy; have := (HW6.out.blk x hx).1; omega)).mono (by omega)⟩
 have k27 := (hT7.block _ (blk_lt k26) (by simp)).trans k26
 have k37 : (w6.setCell ⟨w.heap.size + 1 + 1, 2, none⟩ (.slice ap nP cp)).heap[w.heap.size + 1 + 1]? = some (.cells #[.slice aq nU cq, .int .i64 lo, .slice ap nP cp] 41 (0, 0)) := blk_set k36 _
 have B7 := B6.trans (hT7.below B6.size (fun x hx => by simp at hx; omega))
 have c37 := blk_cell k37
 have c27 := blk_cell k27
 have f27 := blk_free k27
 have HO8 : Hid (OwnCn (put3 (w6.setCell ⟨w.heap.size + 1 + 1, 2, none⟩ (.slice ap nP cp)) (w.heap.size + 1) (.slice aq nU cq) (.int .i64 lo) (.slice ap nP cp)) w.heap.size ⟨aq, nU, cq, u, lo, ap, nP, cp, p⟩) := touch3 O7 k27
 have HB8 : Hid (Below w.heap.size w (put3 (w6.setCell ⟨w.heap.size + 1 + 1, 2, none⟩ (.slice ap nP cp)) (w.heap.size + 1) (.slice aq nU cq) (.int .i64 lo) (.slice ap nP cp))) := B7.trans ((put3_touch _ _ _ _ _).below B7.size (fun x hx => by simp at hx; omega))
 have cB := blk_cell (put3_blk k27 (.slice aq nU cq) (.int .i64 lo) (.slice ap nP cp))
 clear hz3 hl5 hT7 k26 k36 k27 k37 B6 B7 O7 HV6 HW6
 unfold put3 at cB
 go_wp2_with fail
 exact bodyPost_ret (v := .agg #[.slice aq nU cq, .int .i64 lo, .slice ap nP cp]) (by simp [results, Tryz.results137, go_sem, cB]) rfl ⟨⟨aq, nU, cq, u, lo, ap, nP, cp, p⟩, rfl, HO8.out, HB8.out, ⟨rfl, rfl, rfl, rfl, rfl⟩⟩
theorem infoLg : (Tryz.prog.info? 118).map (·.size) = some 8 := by kernel_rfl
theorem Lng.one (l : Lng) : l.cells.all (·.oneCell') = true := by simp [Lng.cells, Value.oneCell']
theorem wpList_ldLg {ops : Array Oper} {rest : List Oper} {o : Oper} {a : Act} {w : World} {Q : Exit → Act → World → Prop} (hg : o.guard = none) (x : Operand) (ho : o.op = .load 118 x) (b off : Nat) (hx : a.eval x = .pointer (some ⟨b, off, none⟩))
  (X : Lng) (hc : ∀ j, j < 8 → w.cell? ⟨b, off + j, none⟩ = X.cells[j]?) (h : wpList Tryz.prog ops Q rest (a.put o.dst (.agg X.cells)) w) : wpList Tryz.prog ops Q (o :: rest) a w :=
 wpList_load_mid hg 118 x ho b off hx X.cells.toList _ (fun j v hv => by
  have hj : j < 8 := by
   have := (List.getElem?_eq_some_iff.1 hv).1
   simpa [Lng.cells] using this
  rw [hc j hj, ← Array.getElem?_toList]
  exact hv) Tryz.underlying118 rfl infoLg h
theorem wpList_ldLb {ops : Array Oper} {rest : List Oper} {o : Oper} {a : Act} {w : World} {Q : Exit → Act → World → Prop} (hg : o.guard = none) (x : Operand) (ho : o.op = .load 118 x) (g : Nat) (hx : a.eval x = .pointer (some ⟨g, 0, none⟩))
  (X : Lng) (hk : w.heap[g]? = some (.cells X.cells 118 (0, 0))) (h : wpList Tryz.prog ops Q rest (a.put o.dst (.agg X.cells)) w) : wpList Tryz.prog ops Q (o :: rest) a w :=
 wpList_plain hg fun _ hK => wp_load_row 118 x ho g hx 118 X.cells (0, 0) _ hk Tryz.underlying118 rfl infoLg (hK _ _ h)
def Swg.lanesP (S : Swg) : Prop := (S.nL : Int) = S.C.p ∧ ∀ i, i < S.nL → LgOk S.nK S.K (S.L i)
set_option maxRecDepth 100000 in
set_option maxHeartbeats 4000000 in
theorem iLanes_any (S : Swg) (w : World) (hs : S.Small) (hr : RdSg w S) (hP : PksOk S.nx S.C.p S.nK S.K) (ok : Bool) (hok : ok = true ↔ S.lanesP) :
  Calls Tryz.prog 73 #[.agg S.cells] w fun e w' => e = .returned (.bool ok) ∧ Below w.heap.size w w' := by
 have HO : Hid (ok = true ↔ S.lanesP) := hok
 have HR : Hid (RdSg w S) := hr
 have HP : Hid (PksOk S.nx S.C.p S.nK S.K) := hP
 have HSm : Hid S.Small := hs
 have hnL : S.nL ≤ 1048576 := hs.l
 have hB : Below (w.heap.size + 1) (w.alloc (.cells S.cells 45)) (w.alloc (.cells S.cells 45)) := Below.refl _ _
 have c14 : (w.alloc (.cells S.cells 45)).cell? ⟨w.heap.size, 14, none⟩ = some (.slice S.aL S.nL S.cL) := boxed hB 14
 have c0 : (w.alloc (.cells S.cells 45)).cell? ⟨w.heap.size, 0, none⟩ = some (.int .i64 S.C.p) := boxed hB 0
 clear hok hr hP hs
 by_cases hn : (S.nL : Int) = S.C.p
 ·
  have hn' : ((S.nL : Int) != S.C.p) = false := by simp [hn]
  have HN : Hid ((S.nL : Int) = S.C.p) := hn
  clear hn
  go_enter Tryz.func73, Tryz.ntmps73
  go_wp2_with fail
  clear hn' c14 c0
  go_loopw [15] (fun i wr => ∃ k : Nat, k ≤ S.nL ∧ i = .int .i64 k ∧ (∀ i, i < k → LgOk S.nK S.K (S.L i)) ∧ Below (w.heap.size + 1) (w.alloc (.cells S.cells 45)) wr) (fun i _ => S.nL - (intOf i).toNat)
  case atStart => exact ⟨0, Nat.zero_le _, rfl, fun i hi => by omega, hB⟩
  case round =>
   clear hB
   obtain ⟨k, hk, rfl, hall, hB⟩ := hrel
   have HA : Hid (∀ i, i < k → LgOk S.nK S.K (S.L i)) := hall
   clear hall
   by_cases hlt : k < S.nL
   ·
    have hlt' : (k : Int) < S.nL := by omega
    obtain ⟨g, o, ea, hc⟩ := (HR.out.up (under hB)).l k hlt
    obtain ⟨V, eV⟩ : ∃ V, wr.alloc (.cells (S.L k).cells 118) = V := ⟨_, rfl⟩
    have hbV : Below wr.heap.size wr V := by rw [← eV]; exact (Below.refl _ _).alloc (Nat.le_refl _) _
    have kV : V.heap[wr.heap.size]? = some (.cells (S.L k).cells 118 (0, 0)) := by rw [← eV]; exact blk_new _ _
    have hBV := next hB hbV
    have c13 : V.cell? ⟨w.heap.size, 13, none⟩ = some (.slice S.aK S.nK S.cK) := blk_cell (kept1 hBV) 13
    have HkV : Hid (V.heap[wr.heap.size]? = some (.cells (S.L k).cells 118 (0, 0))) := kV
    obtain ⟨lk, hlk⟩ := ok_decS (LgOk S.nK S.K (S.L k))
    have HL : Hid (lk = true ↔ LgOk S.nK S.K (S.L k)) := hlk
    rw [ea]
    clear hlk ea kV hbV
    go_wp2_with (first | refine wpList_ldLg rfl (.tmp 17) rfl g (o + k * 8) rfl (S.L k) hc ?_ | refine wpList_stNew 118 8 infoLg rfl (.tmp 4) (.tmp 18) rfl (S.L k).cells _ rfl rfl rfl rfl rfl (Lng.one _) (eV ▸ ?_) | refine wpList_ldLb rfl (.tmp 4) rfl wr.heap.size rfl (S.L k) HkV.out ?_)
    clear hc c13 HkV
    refine (laneOk_any (S.L k) S.aK S.nK S.cK S.K S.nx S.C.p _ (HSm.out.ls k hlt) ((HR.out.ls k hlt).up (under hBV)) (HR.out.k.up (under hBV)) HP.out lk HL.out).mono ?_
    rintro e w2 ⟨rfl, hb⟩
    have hB2 := next hBV hb
    clear hb hBV hB eV
    cases lk
    ·
     have HF : Hid (ok = false) := by
      rw [Hid, Bool.eq_false_iff]
      intro e
      exact absurd (HL.out.2 ((HO.out.1 e).2 k hlt)) (by simp)
     go_wp2_with fail
     go_ret
     exact ⟨ret_bool HF.out.symm, under hB2⟩
    ·
     have HL2 : Hid (LgOk S.nK S.K (S.L k)) := HL.out.1 rfl
     clear HL
     go_wp2_with fail
     go_roundw
     case rel => exact ⟨k + 1, by omega, by go_num, fun i hi => by
      by_cases e : i = k
      ·
       subst e; exact HL2.out
      ·
       exact HA.out i (by omega), hB2⟩
     case measure => simp [intOf]; omega
   ·
    obtain rfl : k = S.nL := by omega
    have hge : ¬ ((S.nL : Nat) : Int) < ((S.nL : Nat) : Int) := by omega
    have HT : Hid (ok = true) := HO.out.2 ⟨HN.out, HA.out⟩
    go_wp2_with fail
    go_ret
    exact ⟨ret_bool HT.out.symm, under hB⟩
 ·
  have hn' : ((S.nL : Int) != S.C.p) = true := by simp [hn]
  obtain rfl : ok = false := by
   rw [Bool.eq_false_iff]
   intro e
   exact hn (HO.out.1 e).1
  go_enter Tryz.func73, Tryz.ntmps73
  go_wp2_with fail
  go_ret
  exact ⟨rfl, under hB⟩
def CM (w : World) (b n : Nat) (f : Int → Int) : Prop := ∃ D : DataW Unit, w.ownsMap Tryz.prog 2 (plainElem Tryz.prog 2) b n D ∧ ∀ k, D.atKey (.int .i64 k) (.lit (.int .i64 0)) = .lit (.int .i64 (f k))
theorem keyedC : Maps.Keyed Tryz.prog 2 := Maps.int_keyed Tryz.underlying2
theorem keyC {k : Int} (h0 : -9223372036854775808 ≤ k) (h1 : k ≤ 9223372036854775807) : keyOf Tryz.prog 2 (.int .i64 k) = some (.int .i64 k) :=
 Maps.keyOf_int_mk Tryz.underlying2 (by simp [Lit.wf, IntKind.min, IntKind.max, IntKind.signed, IntKind.bits]; omega)
theorem make_mapC (n : Int) (w : World) : (Instr.makeMap 180 (some (.int .i64 n))).run Tryz.prog w = .ok (.map (some w.heap.size)) (w.alloc (.map #[] 0)) := by
 simp [Instr.makeMap, run_underlying Tryz.underlying180, go_sem, Result.andThen]
theorem CM.made (w : World) : CM (w.alloc (.map #[] 0)) w.heap.size 0 (fun _ => 0) := ⟨.map [], World.ownsMap_made w _ _ _, fun k => rfl⟩
theorem CM.lt {w : World} {b n : Nat} {f : Int → Int} (h : CM w b n f) : b < w.heap.size := by obtain ⟨D, h1, _⟩ := h; exact h1.lt
theorem CM.mono {w : World} {b n n' : Nat} {f : Int → Int} (h : CM w b n f) (hn : n ≤ n') : CM w b n' f := by obtain ⟨D, h1, h2⟩ := h; exact ⟨D, h1.mono hn, h2⟩
theorem CM.ext {w : World} {b n : Nat} {f g : Int → Int} (h : CM w b n f) (e : ∀ k, f k = g k) : CM w b n g := by obtain ⟨D, h1, h2⟩ := h; exact ⟨D, h1, fun k => by rw [h2, e]⟩
theorem CM.keep {w w' : World} {b n : Nat} {f : Int → Int} (h : CM w b n f) (hk : w'.heap[b]? = w.heap[b]?) : CM w' b n f := by
 obtain ⟨D, ⟨es, clock, hb, r⟩, h2⟩ := h
 exact ⟨D, ⟨es, clock, hk.trans hb, r⟩, h2⟩
theorem CM.up {w w' : World} {b n : Nat} {f : Int → Int} (h : CM w b n f) (hb : Below w.heap.size w w') : CM w' b n f := h.keep (hb.block _ h.lt)
theorem zero2 (w : World) : (zeroValue 2).run Tryz.prog w = .ok (.int .i64 0) w := by
 simp [go_sem, zeroValue]
 rfl
theorem CM.look {w : World} {b n : Nat} {f : Int → Int} (h : CM w b n f) {k : Int} (h0 : -9223372036854775808 ≤ k) (h1 : k ≤ 9223372036854775807) :
  (Instr.lookup 180 (.map (some b)) (.int .i64 k) false).run Tryz.prog w = .ok (.int .i64 (f k)) w := by
 obtain ⟨D, hD, hf⟩ := h
 obtain ⟨c, hr, ha, _⟩ := hD.lookup_int keyedC Tryz.underlying180 Tryz.underlying2 (zero2 w) (keyC h0 h1)
 rw [hf] at ha
 cases ha
 exact hr
theorem CM.add {w : World} {b n : Nat} {f : Int → Int} (h : CM w b n f) (hn : n < maxLen) {k v : Int} (h0 : -9223372036854775808 ≤ k) (h1 : k ≤ 9223372036854775807) (h2 : -9223372036854775808 ≤ v) (h3 : v ≤ 9223372036854775807) :
  ∃ w', (Instr.mapUpdate 180 (.map (some b)) (.int .i64 k) (.int .i64 v)).run Tryz.prog w = .ok () w' ∧ CM w' b (n + 1) (fun x => if x = k then v else f x) ∧ w.mapTurned w' b := by
 obtain ⟨D, hD, hf⟩ := h
 obtain ⟨w', hr, hown, ht⟩ := hD.store keyedC Tryz.underlying180 hn (keyC h0 h1) (plainElem_int (q := .i64) (a := v) Tryz.underlying2 (by simp [Lit.wf, IntKind.min, IntKind.max, IntKind.signed, IntKind.bits]; omega))
 refine ⟨w', hr, ⟨_, hown, fun x => ?_⟩, ht⟩
 dsimp only
 by_cases e : x = k
 ·
  subst e
  rw [if_pos rfl, Maps.atKey_put_same hD.isMap (by simp [WideAt.IsKeyLit])]
 ·
  rw [if_neg e, Maps.atKey_put_other (by simp [e]), hf]
def listZ (l : Lng) (c : Nat) : Nat → Int := if c = 0 then l.t else l.uz (c - 1)
def listN (l : Lng) (c : Nat) : Nat := if c = 0 then l.nT else l.uL (c - 1)
def listA (l : Lng) (c : Nat) : Option Addr := if c = 0 then l.aT else l.uA (c - 1)
def listC (l : Lng) (c : Nat) : Nat := if c = 0 then l.cT else l.uC (c - 1)
def occP (l : Lng) (x : Int) : Nat → Nat
 | 0 => 0
 | c + 1 => occP l x c + occ (listZ l c) x (listN l c)
theorem occP_succ (l : Lng) (x : Int) : ∀ c, occP l x (c + 1) = occ l.t x l.nT + occU l x c := by
 intro c
 induction c with
 | zero => show 0 + occ (listZ l 0) x (listN l 0) = _; unfold listZ listN; simp [occU]
 | succ c ih =>
  show occP l x (c + 1) + occ (listZ l (c + 1)) x (listN l (c + 1)) = occ l.t x l.nT + (occU l x c + occ (l.uz c) x (l.uL c))
  rw [ih]
  unfold listZ listN
  simp
  omega
theorem listRd {w : World} {l : Lng} (h : RdLg w l) {c : Nat} (hc : c < l.nU + 1) : RdRow w (listA l c) (listN l c) fun j => .int .i64 (listZ l c j) := by
 unfold listA listN listZ
 by_cases e : c = 0
 ·
  simp only [if_pos e]; exact h.t
 ·
  simp only [if_neg e]; exact h.z (c - 1) (by omega)
theorem listIds {m : Nat} {K : Nat → Pkt} {l : Lng} (h : LgOk m K l) {c : Nat} (hc : c < l.nU + 1) : ∃ p, idsP (listN l c) (listZ l c) p m K := by
 unfold listN listZ
 by_cases e : c = 0
 ·
  simp only [if_pos e]; exact ⟨_, h.t⟩
 ·
  simp only [if_neg e]; exact ⟨_, (h.z (c - 1) (by have := h.u; omega)).1⟩
theorem appS {W : World} {base g o n c n0 c0 : Nat} {a0 : Option Addr} {A : Nat → Option Addr} {L C : Nat → Nat} (h : RdRow W (some ⟨g, o, none⟩) n fun i => .slice (A i) (L i) (C i)) (hn : n ≤ 1000) (hn0 : 0 < n) (hb : base ≤ W.heap.size) :
  ∃ a' c' W', (Builtin.append_ #[114, 114] 114 #[.slice (some ⟨W.heap.size, 0, none⟩) 1 1, .slice (some ⟨g, o, none⟩) n c]).run Tryz.prog (W.alloc (.cells #[.slice a0 n0 c0] 25)) = .ok (.slice a' (n + 1) c') W' ∧
   RdRow W' a' (n + 1) (fun i => .slice (if i = 0 then a0 else A (i - 1)) (if i = 0 then n0 else L (i - 1)) (if i = 0 then c0 else C (i - 1))) ∧ (∀ ad, a' = some ad → W.heap.size ≤ ad.block) ∧ Below base W W' := by
 obtain ⟨ii, hi, hz0, hz1, hz2⟩ := info_parts info22
 have hA : Below W.heap.size W (W.alloc (.cells #[.slice a0 n0 c0] 25)) := (Below.refl _ _).alloc (Nat.le_refl _) _
 have eA : (W.alloc (.cells #[.slice a0 n0 c0] 25)).heap.size = W.heap.size + 1 := by simp
 have hown : (W.alloc (.cells #[.slice a0 n0 c0] 25)).ownsRow W.heap.size 25 1 (.slice (some ⟨W.heap.size, 0, none⟩) 1 1) 1 [.slice a0 n0 c0] :=
  ⟨rfl, .inr ⟨W.heap.size, 1, #[.slice a0 n0 c0], rfl, Nat.le_refl _, blk_new _ _, Nat.le_refl _, by unfold maxLen; omega, rfl, rfl⟩⟩
 have hadd : ∀ j : Nat, (⟨g, o, none⟩ : Addr).add j = ⟨g, o + j, none⟩ := fun j => by unfold Addr.add; split <;> simp_all
 have hR := h.up hA
 obtain ⟨va, W2, hrun, hown3, hgrow, _, hblk⟩ := run_append_own_at (P := Tryz.prog) (w := W.alloc (.cells #[.slice a0 n0 c0] 25)) W.heap.size 114 114 25 ii (.slice none 0 0) 1 24 Tryz.underlying114 hi hz0 hz1 hz2 rfl (by decide) (.slice (some ⟨W.heap.size, 0, none⟩) 1 1) 1 _ hown ⟨g, o, none⟩ n c ((List.range n).map fun i => .slice (A i) (L i) (C i)) (by simp) (fun j u hu => by
  have hj : j < n := by
   have := (List.getElem?_eq_some_iff.1 hu).1
   simpa using this
  rw [hadd, row1 hR rfl hj]
  simpa [hj] using hu) (by
   intro u hu
   obtain ⟨j, _, rfl⟩ := List.mem_map.1 hu
   rfl) (by unfold maxLen; omega) (by omega) (by omega)
 have hB : Below W.heap.size W W2 := by
  refine ⟨hgrow.os, hgrow.tape, hgrow.output, by have := hgrow.size; omega, fun k hk => ?_⟩
  exact (hgrow.block k (by omega) (fun e => by simp [Value.ownBlock] at e; omega)).trans (hA.block k (by omega))
 rcases own_formsC hown3 with ⟨_, e0⟩ | ⟨g', cap, rfl⟩
 ·
  omega
 ·
  rw [Nat.add_comm 1 n] at hrun hown3
  refine ⟨_, _, _, hrun, fun i hi => ?_, fun ad e => ?_, hB.mono hb⟩
  ·
   obtain ⟨_, ⟨_, e0⟩ | ⟨g2, cap2, cur, e, hg2, hb2, h1, h2, h3, h4⟩⟩ := hown3
   ·
    omega
   ·
    cases e
    refine ⟨g', 0, rfl, ?_⟩
    rw [Nat.zero_add, blk_cell hb2]
    have h5 : (cur.toList.take ((n + 1) * 1))[i]? = ([Value.slice a0 n0 c0] ++ (List.range n).map fun i => Value.slice (A i) (L i) (C i))[i]? := by rw [h4]
    rw [List.getElem?_take_of_lt (by omega), Array.getElem?_toList] at h5
    rw [h5]
    rcases i with _ | i
    ·
     rfl
    ·
     simp
     have : i < n := by omega
     simp [this]
  ·
   cases e
   obtain ⟨_, ⟨_, e0⟩ | ⟨g2, cap2, cur, e, hg2, _⟩⟩ := hown3
   ·
    omega
   ·
    cases e
    exact hg2
theorem turn_touch {w w' : World} {b : Nat} (h : w.mapTurned w' b) : Touch [b] w w' := by
 have g := h.grown
 exact ⟨g.os, g.tape, g.output, g.size, fun k hk hn => g.block k hk (fun e => hn (by cases e; simp))⟩
structure RfA (S : Swg) (w : World) (i : Nat) (wr : World) : Prop where
 m : CM wr (w.heap.size + 1) (3000 * i) (fun x => (occL S.L x i : Int))
 b : Below (w.heap.size + 1) (w.alloc (.cells S.cells 45)) wr
structure RfB (S : Swg) (w : World) (i : Nat) (a : Option Addr) (c : Nat) (wr : World) : Prop where
 m : CM wr (w.heap.size + 1) (3000 * i + 1000 * c) (fun x => (occL S.L x i : Int) + (occP (S.L i) x c : Int))
 b : Below (w.heap.size + 1) (w.alloc (.cells S.cells 45)) wr
 r : RdRow wr a ((S.L i).nU + 1) fun c => .slice (listA (S.L i) c) (listN (S.L i) c) (listC (S.L i) c)
 n : ∀ ad, a = some ad → w.heap.size + 1 < ad.block
structure RfC (S : Swg) (w : World) (i : Nat) (a : Option Addr) (c j : Nat) (wr : World) : Prop where
 m : CM wr (w.heap.size + 1) (3000 * i + 1000 * c + j) (fun x => (occL S.L x i : Int) + (occP (S.L i) x c : Int) + (occ (listZ (S.L i) c) x j : Int))
 b : Below (w.heap.size + 1) (w.alloc (.cells S.cells 45)) wr
 r : RdRow wr a ((S.L i).nU + 1) fun c => .slice (listA (S.L i) c) (listN (S.L i) c) (listC (S.L i) c)
 n : ∀ ad, a = some ad → w.heap.size + 1 < ad.block
theorem RfC.next {S : Swg} {w : World} {i : Nat} {a : Option Addr} {c j : Nat} {wr : World} (h : RfC S w i a c j wr) (hn : 3000 * i + 1000 * c + j < 1000000) {q : Int} (hq : listZ (S.L i) c j = q) (h0 : -9223372036854775808 ≤ q) (h1 : q ≤ 9223372036854775807) {v : Int} (hv : v = (occL S.L q i : Int) + (occP (S.L i) q c : Int) + (occ (listZ (S.L i) c) q j : Int)) (hv2 : v ≤ 1000000) :
  (Instr.lookup 180 (.map (some (w.heap.size + 1))) (.int .i64 q) false).run Tryz.prog wr = .ok (.int .i64 v) wr ∧ ∃ W', (Instr.mapUpdate 180 (.map (some (w.heap.size + 1))) (.int .i64 q) (.int .i64 (v + 1))).run Tryz.prog wr = .ok () W' ∧ RfC S w i a c (j + 1) W' := by
 refine ⟨by rw [hv]; exact h.m.look h0 h1, ?_⟩
 obtain ⟨W', hr, hm, ht⟩ := h.m.add (k := q) (v := v + 1) (by unfold maxLen; omega) h0 h1 (by omega) (by omega)
 refine ⟨W', hr, hm.ext (fun x => ?_), ?_, h.r.touch (turn_touch ht) (fun ad e => ?_), h.n⟩
 ·
  show (if x = q then v + 1 else _) = (occL S.L x i : Int) + (occP (S.L i) x c : Int) + ((occ (listZ (S.L i) c) x j + if listZ (S.L i) c j = x then 1 else 0 : Nat) : Int)
  rw [hq]
  by_cases e : x = q
  ·
   rw [if_pos e, if_pos e.symm, e, hv]
   omega
  ·
   rw [if_neg e, if_neg (fun e2 => e e2.symm)]
   omega
 ·
  exact h.b.trans ((turn_touch ht).below (by have := upper h.b; omega) (fun x hx => by simp at hx; omega))
 ·
  have := h.n ad e
  simp
  omega
theorem occL_le {m : Nat} {K : Nat → Pkt} {nx p : Int} {L : Nat → Lng} {n : Nat} (hP : PksOk nx p m K) (h : ∀ i, i < n → LgOk m K (L i)) (x : Int) : ∀ i, i ≤ n → occL L x i ≤ 3000 * i := by
 intro i
 induction i with
 | zero => intro _; exact Nat.le_refl _
 | succ i ih =>
  intro hi
  have h1 := ih (by omega)
  have hl := h i (by omega)
  have h2 := occ_le (L i).t x (L i).nT
  have h3 := hl.t.le hP
  have h4 := occ_le ((L i).uz 0) x ((L i).uL 0)
  have h5 := (hl.z 0 (by omega)).1.le hP
  have h6 := occ_le ((L i).uz 1) x ((L i).uL 1)
  have h7 := (hl.z 1 (by omega)).1.le hP
  have h8 := hP.le
  show occL L x i + (occ (L i).t x (L i).nT + occU (L i) x (L i).nU) ≤ 3000 * (i + 1)
  rw [hl.u]
  show occL L x i + (occ (L i).t x (L i).nT + (0 + occ ((L i).uz 0) x ((L i).uL 0) + occ ((L i).uz 1) x ((L i).uL 1))) ≤ 3000 * (i + 1)
  omega
theorem occP_le {m : Nat} {K : Nat → Pkt} {nx p : Int} {l : Lng} (hP : PksOk nx p m K) (h : LgOk m K l) (x : Int) : ∀ c, c ≤ l.nU + 1 → occP l x c ≤ 1000 * c := by
 intro c
 induction c with
 | zero => intro _; exact Nat.le_refl _
 | succ c ih =>
  intro hc
  have h1 := ih (by omega)
  obtain ⟨p', hp⟩ := listIds h (c := c) (by omega)
  have h2 := hp.le hP
  have h3 := occ_le (listZ l c) x (listN l c)
  have h4 := hP.le
  show occP l x c + occ (listZ l c) x (listN l c) ≤ _
  omega
end Go.Proofs.YtfkpncopkgidfaaGreat
