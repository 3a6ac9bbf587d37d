/- Both sides tell whether counts keep to their limits. -/
import Derived.Test.YtpldaohflojkmaaCnB
import Derived.Test.YtpldaohflojkmaaCnC
namespace Go.Proofs.Ytpldaohflojkmaa
open Go.RowKit
set_option linter.unusedVariables false
set_option linter.unusedSimpArgs false

theorem boxed2 {w wi : World} {A B : Array Value} {t s : TypeId} (h : Below (w.heap.size + 2) ((w.alloc (.cells A t)).alloc (.cells B s)) wi) : (∀ o, wi.cell? ⟨w.heap.size, o, none⟩ = A[o]?) ∧ ∀ o, wi.cell? ⟨w.heap.size + 1, o, none⟩ = B[o]? := by
  have k1 : wi.heap[w.heap.size]? = some (.cells A t (0, 0)) := (h.block _ (by omega)).trans ((blk_old _ (by simp)).trans (blk_new _ _))
  have k2 : wi.heap[w.heap.size + 1]? = some (.cells B s (0, 0)) := by
    refine (h.block _ (by omega)).trans ?_
    have := blk_new (w.alloc (.cells A t)) (.cells B s)
    simpa using this
  exact ⟨blk_cell k1, blk_cell k2⟩
theorem under2 {w wi : World} {o o' : Obj} (h : Below (w.heap.size + 2) ((w.alloc o).alloc o') wi) : Below w.heap.size w wi :=
  (((Below.refl _ _).alloc (Nat.le_refl _) o).alloc (by simp) o').trans (h.mono (by omega))
theorem upper2 {w wi : World} {o o' : Obj} (h : Below (w.heap.size + 2) ((w.alloc o).alloc o') wi) : w.heap.size + 2 ≤ wi.heap.size := by
  have := h.size
  simpa using this
theorem next2 {w wi wj : World} {o o' : Obj} (h : Below (w.heap.size + 2) ((w.alloc o).alloc o') wi) (k : Below wi.heap.size wi wj) : Below (w.heap.size + 2) ((w.alloc o).alloc o') wj :=
  h.trans (k.mono (upper2 h))
theorem lossyHeld_any (N : Cnt) (w : World) :
    Calls Try.prog 70 #[.agg #[], .agg N.cells] w fun e w' => e = .returned (.int .i64 N.lo) ∧ Below w.heap.size w w' := by
  have HA : Hid (∀ o o', Below w.heap.size w ((w.alloc o).alloc o')) := fun o o' => ((Below.refl _ _).alloc (Nat.le_refl _) _).alloc (by simp) _
  unfold Cnt.cells
  go_enter Try.func70, Try.ntmps70
  go_wp2_with fail
  go_ret
  exact ⟨rfl, HA.out _ _⟩
theorem portHeld_any (N : Cnt) (i : Nat) (w : World) (hf : N.Fit) (hi : i < N.nU) (h : RdCnt w N) :
    Calls Try.prog 67 #[.agg #[.int .i64 i], .agg N.cells] w fun e w' => e = .returned (.int .i64 (N.u i)) ∧ Below w.heap.size w w' := by
  have HA : Hid (∀ o o', Below w.heap.size w ((w.alloc o).alloc o')) := fun o o' => ((Below.refl _ _).alloc (Nat.le_refl _) _).alloc (by simp) _
  obtain ⟨aU, nU, cU, u, lo, aP, nP, cP, p⟩ := N
  have hi' : i < nU := hi
  have hi2 : (i : Int) < nU := by omega
  have hU : RdRow w aU nU fun i => .int .i64 (u i) := h.u
  have hm : nU ≤ maxLen := hf.u
  obtain ⟨g, o, rfl, hc⟩ := hU i hi'
  have hc2 : ∀ ob ob', ((w.alloc ob).alloc ob').cell? ⟨g, o + i, none⟩ = some (.int .i64 (u i)) := fun ob ob' => ((HA.out ob ob').cell (p := ⟨g, o + i, none⟩) (cellLt hc)).trans hc
  clear h hf hi hU hc
  unfold Cnt.cells
  go_enter Try.func67, Try.ntmps67
  go_wp2_with fail
  go_ret
  exact ⟨rfl, HA.out _ _⟩
set_option maxHeartbeats 4000000 in
theorem sCountsOk_any (C : Cfg) (N : Cnt) (w : World) (hf : N.Fit) (h : RdCnt w N) (ok : Bool) (hok : ok = true ↔ Cnt.Ok C N) :
    Calls Try.prog 17 #[.agg C.cells, .agg N.cells] w fun e w' => e = .returned (.bool ok) ∧ Below w.heap.size w w' := by
  obtain ⟨b, hb⟩ := ok_decC C.Ok
  have HO : Hid (ok = true ↔ Cnt.Ok C N) := hok
  have HR : Hid (RdCnt w N) := h
  have HF : Hid N.Fit := hf
  have HCb : Hid (b = true ↔ C.Ok) := hb
  have hU3 : (N.nU : Int) ≤ 9223372036854775807 := by have := hf.u; unfold maxLen at this; omega
  have hP3 : (N.nP : Int) ≤ 9223372036854775807 := by have := hf.p; unfold maxLen at this; omega
  have HB0 : Hid (Below (w.heap.size + 2) ((w.alloc (.cells #[.int .i64 C.p, .int .i64 C.c, .int .i64 C.xo, .int .i64 C.xn, .int .i64 C.hd, .int .i64 C.lo, .int .i64 C.dl] 25)).alloc (.cells #[.slice N.aU N.nU N.cU, .int .i64 N.lo, .slice N.aP N.nP N.cP] 29)) ((w.alloc (.cells #[.int .i64 C.p, .int .i64 C.c, .int .i64 C.xo, .int .i64 C.xn, .int .i64 C.hd, .int .i64 C.lo, .int .i64 C.dl] 25)).alloc (.cells #[.slice N.aU N.nU N.cU, .int .i64 N.lo, .slice N.aP N.nP N.cP] 29))) := Below.refl _ _
  clear hok h hf hb
  unfold Cfg.cells Cnt.cells
  go_enter Try.func17, Try.ntmps17
  go_wp2_with fail
  refine (sConfigOk_any C _ b HCb.out).mono ?_
  rintro e w1 ⟨rfl, hb1⟩
  have hB := next2 HB0.out hb1
  have cb := (boxed2 hB).1
  have cn := (boxed2 hB).2
  clear hb1
  cases b
  · have HE : Hid (ok = false) := by
      show ok = false
      rw [Bool.eq_false_iff]
      intro e
      have := HCb.out.2 (HO.out.1 e).c
      cases this
    have B := under2 hB
    go_wp2_with fail
    go_ret
    exact ⟨ret_bool HE.out.symm, B⟩
  have HC : Hid C.Ok := HCb.out.1 rfl
  clear HCb
  by_cases hU : (N.nU : Int) = C.p
  rotate_left
  · have HE : Hid (ok = false) := by
      show ok = false
      rw [Bool.eq_false_iff]
      intro e
      exact hU (HO.out.1 e).nU
    have hU' : ((N.nU : Int) != C.p) = true := by simpa using hU
    have B := under2 hB
    clear hU
    go_wp2_with fail
    go_ret
    exact ⟨ret_bool HE.out.symm, B⟩
  have hU' : ((N.nU : Int) != C.p) = false := by simpa using hU
  have HU : Hid ((N.nU : Int) = C.p) := hU
  clear hU
  by_cases hP : (N.nP : Int) = C.p
  rotate_left
  · have HE : Hid (ok = false) := by
      show ok = false
      rw [Bool.eq_false_iff]
      intro e
      exact hP (HO.out.1 e).nP
    have hP' : ((N.nP : Int) != C.p) = true := by simpa using hP
    have B := under2 hB
    clear hP
    go_wp2_with fail
    go_ret
    exact ⟨ret_bool HE.out.symm, B⟩
  have hP' : ((N.nP : Int) != C.p) = false := by simpa using hP
  have HP : Hid ((N.nP : Int) = C.p) := hP
  clear hP
  go_wp2_with fail
  refine (l1In_any _ _ _ _).mono ?_
  rintro e w' ⟨rfl, hw⟩
  rw [hw]
  clear hw w'
  by_cases hL : 0 ≤ N.lo ∧ N.lo ≤ C.lo
  rotate_left
  · have HE : Hid (ok = false) := by
      show ok = false
      rw [Bool.eq_false_iff]
      intro e
      exact hL (HO.out.1 e).lo
    have B := under2 hB
    rw [decide_eq_false hL]
    clear hL
    go_wp2_with fail
    go_ret
    exact ⟨ret_bool HE.out.symm, B⟩
  rw [decide_eq_true hL]
  have HL : Hid (0 ≤ N.lo ∧ N.lo ≤ C.lo) := hL
  clear hL
  go_wp2_with fail
  have e4 : IntKind.i64.wrap (C.xo + C.hd) = C.xo + C.hd := wrapC _ (by have := HC.out.num.xo; have := HC.out.num.hd; omega) (by have := HC.out.num.xo; have := HC.out.num.hd; omega)
  go_loopw [5] (fun i wr => ∃ k : Nat, k ≤ N.nU ∧ i = .int .i64 k ∧ (∀ j, j < k → 0 ≤ N.u j ∧ N.u j ≤ C.xo + C.hd) ∧ Below w1.heap.size w1 wr) (fun i _ => N.nU - (intOf i).toNat)
  case atStart => exact ⟨0, Nat.zero_le _, rfl, fun j hj => by omega, Below.refl _ _⟩
  case round =>
    obtain ⟨k, hk, rfl, hall, hBr⟩ := hrel
    have HA : Hid (∀ j, j < k → 0 ≤ N.u j ∧ N.u j ≤ C.xo + C.hd) := hall
    clear hall cb cn
    have hB2 := next2 hB hBr
    have cb := (boxed2 hB2).1
    have cn := (boxed2 hB2).2
    by_cases hlt : k < N.nU
    · have hlt' : (k : Int) < N.nU := by omega
      obtain ⟨g, o, ea, c0⟩ := (HR.out.u.up (under2 hB2)) k hlt
      dsimp only at c0
      rw [ea] at cn
      clear ea
      have hz9 : (k : Int) ≤ 9223372036854775807 := by omega
      by_cases hz : 0 ≤ N.u k ∧ N.u k ≤ C.xo + C.hd
      · go_wp2_with fail
        refine wp_region_held_drew (S := fun w' => (∀ o, w'.cell? ⟨w.heap.size, o, none⟩ = (#[.int .i64 C.p, .int .i64 C.c, .int .i64 C.xo, .int .i64 C.xn, .int .i64 C.hd, .int .i64 C.lo, .int .i64 C.dl] : Array Value)[o]?) ∧ (∀ o', w'.cell? ⟨w.heap.size + 1, o', none⟩ = (#[.slice (some ⟨g, o, none⟩) N.nU N.cU, .int .i64 N.lo, .slice N.aP N.nP N.cP] : Array Value)[o']?) ∧ w'.cell? ⟨g, o + k, none⟩ = some (.int .i64 (N.u k))) (by kernel_rfl) ⟨cb, cn, c0⟩ (fun hHeld => ?_)
        refine takeD (i := 0) (some 40) (v := ?_) rfl rfl (by kernel_rfl) (by kernel_rfl) (by kernel_rfl) (fun _ _ _ h => h) (by kernel_rfl) ?_ (by assumption) ?_
        rotate_left
        · intro wx hSw
          obtain ⟨hS1, hS2, hS3⟩ := hSw
          go_simp
          try (with_reducible rfl)
        try simp only [Act.put, List.setIfInBounds_toArray, List.set_cons_zero, List.set_cons_succ]
        refine takeD (i := 1) (some 41) (v := ?_) rfl rfl (by kernel_rfl) (by kernel_rfl) (by kernel_rfl) (fun _ _ _ h => h) (by kernel_rfl) ?_ (by assumption) ?_
        rotate_left
        · intro wx hSw
          obtain ⟨hS1, hS2, hS3⟩ := hSw
          go_simp
          try (with_reducible rfl)
        try simp only [Act.put, List.setIfInBounds_toArray, List.set_cons_zero, List.set_cons_succ]
        refine takeD (i := 2) (some 42) (v := ?_) rfl rfl (by kernel_rfl) (by kernel_rfl) (by kernel_rfl) (fun _ _ _ h => h) (by kernel_rfl) ?_ (by assumption) ?_
        rotate_left
        · intro wx hSw
          obtain ⟨hS1, hS2, hS3⟩ := hSw
          go_simp
          try (with_reducible rfl)
        try simp only [Act.put, List.setIfInBounds_toArray, List.set_cons_zero, List.set_cons_succ]
        refine takeD (i := 3) (some 43) (v := ?_) rfl rfl (by kernel_rfl) (by kernel_rfl) (by kernel_rfl) (fun _ _ _ h => h) (by kernel_rfl) ?_ (by assumption) ?_
        rotate_left
        · intro wx hSw
          obtain ⟨hS1, hS2, hS3⟩ := hSw
          go_simp
          try (with_reducible rfl)
        try simp only [Act.put, List.setIfInBounds_toArray, List.set_cons_zero, List.set_cons_succ]
        refine takeD (i := 4) (some 44) (v := ?_) rfl rfl (by kernel_rfl) (by kernel_rfl) (by kernel_rfl) (fun _ _ _ h => h) (by kernel_rfl) ?_ (by assumption) ?_
        rotate_left
        · intro wx hSw
          obtain ⟨hS1, hS2, hS3⟩ := hSw
          go_simp
          try (with_reducible rfl)
        try simp only [Act.put, List.setIfInBounds_toArray, List.set_cons_zero, List.set_cons_succ]
        refine takeD (i := 5) (some 45) (v := ?_) rfl rfl (by kernel_rfl) (by kernel_rfl) (by kernel_rfl) (fun _ _ _ h => h) (by kernel_rfl) ?_ (by assumption) ?_
        rotate_left
        · intro wx hSw
          obtain ⟨hS1, hS2, hS3⟩ := hSw
          go_simp
          try (with_reducible rfl)
        try simp only [Act.put, List.setIfInBounds_toArray, List.set_cons_zero, List.set_cons_succ]
        refine takeD (i := 6) (some 46) (v := ?_) rfl rfl (by kernel_rfl) (by kernel_rfl) (by kernel_rfl) (fun _ _ _ h => h) (by kernel_rfl) ?_ (by assumption) ?_
        rotate_left
        · intro wx hSw
          obtain ⟨hS1, hS2, hS3⟩ := hSw
          go_simp
          try (with_reducible rfl)
        try simp only [Act.put, List.setIfInBounds_toArray, List.set_cons_zero, List.set_cons_succ]
        refine takeD (i := 7) (some 47) (v := ?_) rfl rfl (by kernel_rfl) (by kernel_rfl) (by kernel_rfl) (fun _ _ _ h => h) (by kernel_rfl) ?_ (by assumption) ?_
        rotate_left
        · intro wx hSw
          obtain ⟨hS1, hS2, hS3⟩ := hSw
          go_simp
          try (with_reducible rfl)
        try simp only [Act.put, List.setIfInBounds_toArray, List.set_cons_zero, List.set_cons_succ]
        refine takeD (i := 8) (some 48) (v := ?_) rfl rfl (by kernel_rfl) (by kernel_rfl) (by kernel_rfl) (fun _ _ _ h => h) (by kernel_rfl) ?_ (by assumption) ?_
        rotate_left
        · intro wx hSw
          obtain ⟨hS1, hS2, hS3⟩ := hSw
          go_simp
          try (with_reducible rfl)
        try simp only [Act.put, List.setIfInBounds_toArray, List.set_cons_zero, List.set_cons_succ]
        refine takeD (i := 9) (some 49) (v := ?_) rfl rfl (by kernel_rfl) (by kernel_rfl) (by kernel_rfl) (fun _ _ _ h => h) (by kernel_rfl) ?_ (by assumption) ?_
        rotate_left
        · intro wx hSw
          obtain ⟨hS1, hS2, hS3⟩ := hSw
          go_simp
          try (with_reducible rfl)
        try simp only [Act.put, List.setIfInBounds_toArray, List.set_cons_zero, List.set_cons_succ]
        refine wpAnyH_ready (rs := [10]) (by kernel_rfl) (by simp) ?_
        refine AllReadyH.cons rfl (fun K hK => ?_) AllReadyH.nil
        go_simp
        refine (l1In_any _ _ _ _).mono ?_
        rintro e w' ⟨rfl, hw⟩
        rw [hw]
        clear hw w'
        rw [decide_eq_true hz]
        go_wp2_with fail
        refine hK.out _ _ ⟨cb, cn, c0⟩ (fun hHeld => ?_)
        clear hK K
        try simp only [Act.put, List.setIfInBounds_toArray, List.set_cons_zero, List.set_cons_succ]
        refine takeD (i := 11) (some 51) (v := ?_) rfl rfl (by kernel_rfl) (by kernel_rfl) (by kernel_rfl) (fun _ _ _ h => h) (by kernel_rfl) ?_ (by assumption) ?_
        rotate_left
        · intro wx hSw
          obtain ⟨hS1, hS2, hS3⟩ := hSw
          go_simp
          try (with_reducible rfl)
        try simp only [Act.put, List.setIfInBounds_toArray, List.set_cons_zero, List.set_cons_succ]
        refine wpAnyH_done (by kernel_rfl) ?_ _
        have HZ : Hid (0 ≤ N.u k ∧ N.u k ≤ C.xo + C.hd) := hz
        clear hz
        go_wp2_with fail
        go_roundw
        case rel => exact ⟨k + 1, by omega, by go_num, fun j hj => by
          by_cases e : j = k
          · subst e; exact HZ.out
          · exact HA.out j (by omega), hBr.drew⟩
        case measure => simp [intOf]; omega
      · have HE : Hid (ok = false) := by
          show ok = false
          rw [Bool.eq_false_iff]
          intro e
          exact hz ((HO.out.1 e).u k hlt)
        go_wp2_with fail
        refine wp_region_held_drew (S := fun w' => (∀ o, w'.cell? ⟨w.heap.size, o, none⟩ = (#[.int .i64 C.p, .int .i64 C.c, .int .i64 C.xo, .int .i64 C.xn, .int .i64 C.hd, .int .i64 C.lo, .int .i64 C.dl] : Array Value)[o]?) ∧ (∀ o', w'.cell? ⟨w.heap.size + 1, o', none⟩ = (#[.slice (some ⟨g, o, none⟩) N.nU N.cU, .int .i64 N.lo, .slice N.aP N.nP N.cP] : Array Value)[o']?) ∧ w'.cell? ⟨g, o + k, none⟩ = some (.int .i64 (N.u k))) (by kernel_rfl) ⟨cb, cn, c0⟩ (fun hHeld => ?_)
        refine takeD (i := 0) (some 40) (v := ?_) rfl rfl (by kernel_rfl) (by kernel_rfl) (by kernel_rfl) (fun _ _ _ h => h) (by kernel_rfl) ?_ (by assumption) ?_
        rotate_left
        · intro wx hSw
          obtain ⟨hS1, hS2, hS3⟩ := hSw
          go_simp
          try (with_reducible rfl)
        try simp only [Act.put, List.setIfInBounds_toArray, List.set_cons_zero, List.set_cons_succ]
        refine takeD (i := 1) (some 41) (v := ?_) rfl rfl (by kernel_rfl) (by kernel_rfl) (by kernel_rfl) (fun _ _ _ h => h) (by kernel_rfl) ?_ (by assumption) ?_
        rotate_left
        · intro wx hSw
          obtain ⟨hS1, hS2, hS3⟩ := hSw
          go_simp
          try (with_reducible rfl)
        try simp only [Act.put, List.setIfInBounds_toArray, List.set_cons_zero, List.set_cons_succ]
        refine takeD (i := 2) (some 42) (v := ?_) rfl rfl (by kernel_rfl) (by kernel_rfl) (by kernel_rfl) (fun _ _ _ h => h) (by kernel_rfl) ?_ (by assumption) ?_
        rotate_left
        · intro wx hSw
          obtain ⟨hS1, hS2, hS3⟩ := hSw
          go_simp
          try (with_reducible rfl)
        try simp only [Act.put, List.setIfInBounds_toArray, List.set_cons_zero, List.set_cons_succ]
        refine takeD (i := 3) (some 43) (v := ?_) rfl rfl (by kernel_rfl) (by kernel_rfl) (by kernel_rfl) (fun _ _ _ h => h) (by kernel_rfl) ?_ (by assumption) ?_
        rotate_left
        · intro wx hSw
          obtain ⟨hS1, hS2, hS3⟩ := hSw
          go_simp
          try (with_reducible rfl)
        try simp only [Act.put, List.setIfInBounds_toArray, List.set_cons_zero, List.set_cons_succ]
        refine takeD (i := 4) (some 44) (v := ?_) rfl rfl (by kernel_rfl) (by kernel_rfl) (by kernel_rfl) (fun _ _ _ h => h) (by kernel_rfl) ?_ (by assumption) ?_
        rotate_left
        · intro wx hSw
          obtain ⟨hS1, hS2, hS3⟩ := hSw
          go_simp
          try (with_reducible rfl)
        try simp only [Act.put, List.setIfInBounds_toArray, List.set_cons_zero, List.set_cons_succ]
        refine takeD (i := 5) (some 45) (v := ?_) rfl rfl (by kernel_rfl) (by kernel_rfl) (by kernel_rfl) (fun _ _ _ h => h) (by kernel_rfl) ?_ (by assumption) ?_
        rotate_left
        · intro wx hSw
          obtain ⟨hS1, hS2, hS3⟩ := hSw
          go_simp
          try (with_reducible rfl)
        try simp only [Act.put, List.setIfInBounds_toArray, List.set_cons_zero, List.set_cons_succ]
        refine takeD (i := 6) (some 46) (v := ?_) rfl rfl (by kernel_rfl) (by kernel_rfl) (by kernel_rfl) (fun _ _ _ h => h) (by kernel_rfl) ?_ (by assumption) ?_
        rotate_left
        · intro wx hSw
          obtain ⟨hS1, hS2, hS3⟩ := hSw
          go_simp
          try (with_reducible rfl)
        try simp only [Act.put, List.setIfInBounds_toArray, List.set_cons_zero, List.set_cons_succ]
        refine takeD (i := 7) (some 47) (v := ?_) rfl rfl (by kernel_rfl) (by kernel_rfl) (by kernel_rfl) (fun _ _ _ h => h) (by kernel_rfl) ?_ (by assumption) ?_
        rotate_left
        · intro wx hSw
          obtain ⟨hS1, hS2, hS3⟩ := hSw
          go_simp
          try (with_reducible rfl)
        try simp only [Act.put, List.setIfInBounds_toArray, List.set_cons_zero, List.set_cons_succ]
        refine takeD (i := 8) (some 48) (v := ?_) rfl rfl (by kernel_rfl) (by kernel_rfl) (by kernel_rfl) (fun _ _ _ h => h) (by kernel_rfl) ?_ (by assumption) ?_
        rotate_left
        · intro wx hSw
          obtain ⟨hS1, hS2, hS3⟩ := hSw
          go_simp
          try (with_reducible rfl)
        try simp only [Act.put, List.setIfInBounds_toArray, List.set_cons_zero, List.set_cons_succ]
        refine takeD (i := 9) (some 49) (v := ?_) rfl rfl (by kernel_rfl) (by kernel_rfl) (by kernel_rfl) (fun _ _ _ h => h) (by kernel_rfl) ?_ (by assumption) ?_
        rotate_left
        · intro wx hSw
          obtain ⟨hS1, hS2, hS3⟩ := hSw
          go_simp
          try (with_reducible rfl)
        try simp only [Act.put, List.setIfInBounds_toArray, List.set_cons_zero, List.set_cons_succ]
        refine wpAnyH_ready (rs := [10]) (by kernel_rfl) (by simp) ?_
        refine AllReadyH.cons rfl (fun K hK => ?_) AllReadyH.nil
        go_simp
        refine (l1In_any _ _ _ _).mono ?_
        rintro e w' ⟨rfl, hw⟩
        rw [hw]
        clear hw w'
        rw [decide_eq_false hz]
        go_wp2_with fail
        refine hK.out _ _ ⟨cb, cn, c0⟩ (fun hHeld => ?_)
        clear hK K
        try simp only [Act.put, List.setIfInBounds_toArray, List.set_cons_zero, List.set_cons_succ]
        refine takeD (i := 11) (some 51) (v := ?_) rfl rfl (by kernel_rfl) (by kernel_rfl) (by kernel_rfl) (fun _ _ _ h => h) (by kernel_rfl) ?_ (by assumption) ?_
        rotate_left
        · intro wx hSw
          obtain ⟨hS1, hS2, hS3⟩ := hSw
          go_simp
          try (with_reducible rfl)
        try simp only [Act.put, List.setIfInBounds_toArray, List.set_cons_zero, List.set_cons_succ]
        refine wpAnyH_done (by kernel_rfl) ?_ _
        have B := (under2 hB2).drew
        go_wp2_with fail
        go_ret
        exact ⟨ret_bool HE.out.symm, B⟩
    · obtain rfl : k = N.nU := by omega
      have HT : Hid (ok = true) := HO.out.2 ⟨HC.out, HU.out, HP.out, HL.out, HA.out⟩
      have B := under2 hB2
      go_wp2_with fail
      go_ret
      exact ⟨ret_bool HT.out.symm, B⟩
end Go.Proofs.Ytpldaohflojkmaa
