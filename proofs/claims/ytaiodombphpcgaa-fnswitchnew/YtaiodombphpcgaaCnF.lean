/- The program tells whether counts keep to their limits. -/
import Derived.Test.YtaiodombphpcgaaCnE
namespace Go.Proofs.Ytaiodombphpcgaa
open Go.RowKit
set_option linter.unusedVariables false
set_option linter.unusedSimpArgs false

def limP (C : Cfg) (N : Cnt) : Nat → Prop
  | 0 => 0 ≤ N.lo ∧ N.lo ≤ C.lo
  | j + 1 => 0 ≤ N.u j ∧ N.u j ≤ C.xo + C.hd
set_option maxHeartbeats 4000000 in
theorem iCountsOk_any (C : Cfg) (N : Cnt) (w : World) (hf : N.Fit) (h : RdCnt w N) (ok : Bool) (hok : ok = true ↔ Cnt.Ok C N) :
    Calls Try.prog 23 #[.agg C.cells, .agg N.cells] w fun e w' => e = .returned (.bool ok) ∧ Below w.heap.size w w' := by
  obtain ⟨b, hb⟩ := ok_decC C.Ok
  have HO : Hid (ok = true ↔ Cnt.Ok C N) := hok
  have HR : Hid (RdCnt w N) := h
  have HF : Hid N.Fit := hf
  have HCb : Hid (b = true ↔ C.Ok) := hb
  have hU3 : (N.nU : Int) ≤ 9223372036854775807 := by have := hf.u; unfold maxLen at this; omega
  have hP3 : (N.nP : Int) ≤ 9223372036854775807 := by have := hf.p; unfold maxLen at this; omega
  have HB0 : Hid (Below (w.heap.size + 2) ((w.alloc (.cells #[.int .i64 C.p, .int .i64 C.c, .int .i64 C.xo, .int .i64 C.xn, .int .i64 C.hd, .int .i64 C.lo, .int .i64 C.dl] 25)).alloc (.cells #[.slice N.aU N.nU N.cU, .int .i64 N.lo, .slice N.aP N.nP N.cP] 31)) ((w.alloc (.cells #[.int .i64 C.p, .int .i64 C.c, .int .i64 C.xo, .int .i64 C.xn, .int .i64 C.hd, .int .i64 C.lo, .int .i64 C.dl] 25)).alloc (.cells #[.slice N.aU N.nU N.cU, .int .i64 N.lo, .slice N.aP N.nP N.cP] 31))) := Below.refl _ _
  clear hok h hf hb
  unfold Cfg.cells Cnt.cells
  go_enter Try.func23, Try.ntmps23
  go_wp2_with fail
  refine (iConfigOk_any C _ b HCb.out).mono ?_
  rintro e w1 ⟨rfl, hb1⟩
  have hB := next2 HB0.out hb1
  have cb := (boxed2 hB).1
  have cn := (boxed2 hB).2
  clear hb1
  cases b
  · have HE : Hid (ok = false) := by
      show ok = false
      rw [Bool.eq_false_iff]
      intro e
      have := HCb.out.2 (HO.out.1 e).c
      cases this
    have B := under2 hB
    go_wp2_with fail
    go_ret
    exact ⟨ret_bool HE.out.symm, B⟩
  have HC : Hid C.Ok := HCb.out.1 rfl
  clear HCb
  by_cases hU : (N.nU : Int) = C.p
  rotate_left
  · have HE : Hid (ok = false) := by
      show ok = false
      rw [Bool.eq_false_iff]
      intro e
      exact hU (HO.out.1 e).nU
    have hU' : ((N.nU : Int) != C.p) = true := by simpa using hU
    have B := under2 hB
    clear hU
    go_wp2_with fail
    go_ret
    exact ⟨ret_bool HE.out.symm, B⟩
  have hU' : ((N.nU : Int) != C.p) = false := by simpa using hU
  have HU : Hid ((N.nU : Int) = C.p) := hU
  clear hU
  by_cases hP : (N.nP : Int) = C.p
  rotate_left
  · have HE : Hid (ok = false) := by
      show ok = false
      rw [Bool.eq_false_iff]
      intro e
      exact hP (HO.out.1 e).nP
    have hP' : ((N.nP : Int) != C.p) = true := by simpa using hP
    have B := under2 hB
    clear hP
    go_wp2_with fail
    go_ret
    exact ⟨ret_bool HE.out.symm, B⟩
  have hP' : ((N.nP : Int) != C.p) = false := by simpa using hP
  have HP : Hid ((N.nP : Int) = C.p) := hP
  clear hP
  go_wp2_with fail
  obtain ⟨n, hn2, hn4, hpn⟩ : ∃ n : Nat, 2 ≤ n ∧ n ≤ 4 ∧ C.p = (n : Int) := ⟨C.p.toNat, by have := HC.out.num.p; omega, by have := HC.out.num.p; omega, by have := HC.out.num.p; omega⟩
  have HnU : Hid (N.nU = n) := by show N.nU = n; have := HU.out; omega
  have HPn : Hid (C.p = (n : Int)) := hpn
  clear hpn
  refine (limitsOf_any C n _ hn4 HPn.out).mono ?_
  rintro e w2 ⟨⟨g, cap, rfl, hown⟩, hb2⟩
  replace hB := next2 hB hb2
  have HRL : Hid (RdRow w2 (some ⟨g, 0, none⟩) (n + 1) limV) := lims_read hown
  clear hb2 hown cb cn
  go_wp2_with fail
  go_loopw [29] (fun i wr => ∃ k : Nat, k ≤ n + 1 ∧ i = .int .i64 k ∧ (∀ j, j < k → limP C N j) ∧ Below w2.heap.size w2 wr) (fun i _ => n + 1 - (intOf i).toNat)
  case atStart => exact ⟨0, Nat.zero_le _, rfl, fun j hj => by omega, Below.refl _ _⟩
  case round =>
    obtain ⟨k, hk, rfl, hall, hBr⟩ := hrel
    have HA : Hid (∀ j, j < k → limP C N j) := hall
    clear hall
    have hB2 := next2 hB hBr
    have cb := (boxed2 hB2).1
    have cn := (boxed2 hB2).2
    by_cases hlt : k < n + 1
    · have hlt' : (k : Int) < ((n + 1 : Nat) : Int) := by omega
      obtain ⟨g', o', ea, c1⟩ := (HRL.out.up hBr) k hlt
      cases ea
      rw [Nat.zero_add] at c1
      cases k with
      | zero =>
        dsimp only [limV, lossyV] at c1
        by_cases hz : 0 ≤ N.lo ∧ N.lo ≤ C.lo
        · go_wp2_with fail
          refine wp_region_held_drew (S := fun w' => (∀ o, w'.cell? ⟨w.heap.size, o, none⟩ = (#[.int .i64 C.p, .int .i64 C.c, .int .i64 C.xo, .int .i64 C.xn, .int .i64 C.hd, .int .i64 C.lo, .int .i64 C.dl] : Array Value)[o]?) ∧ (∀ o, w'.cell? ⟨w.heap.size + 1, o, none⟩ = (#[.slice N.aU N.nU N.cU, .int .i64 N.lo, .slice N.aP N.nP N.cP] : Array Value)[o]?)) (by kernel_rfl) ⟨cb, cn⟩ (fun hHeld => ?_)
          refine takeD (i := 0) (some 33) (v := ?_) rfl rfl (by kernel_rfl) (by kernel_rfl) (by kernel_rfl) (fun _ _ _ h => h) (by kernel_rfl) ?_ (by assumption) ?_
          rotate_left
          · intro wx hSw
            obtain ⟨hS1, hS2⟩ := hSw
            go_simp
            try (with_reducible rfl)
          try simp only [Act.put, List.setIfInBounds_toArray, List.set_cons_zero, List.set_cons_succ]
          refine takeD (i := 1) (some 34) (v := ?_) rfl rfl (by kernel_rfl) (by kernel_rfl) (by kernel_rfl) (fun _ _ _ h => h) (by kernel_rfl) ?_ (by assumption) ?_
          rotate_left
          · intro wx hSw
            obtain ⟨hS1, hS2⟩ := hSw
            go_simp
            try (with_reducible rfl)
          try simp only [Act.put, List.setIfInBounds_toArray, List.set_cons_zero, List.set_cons_succ]
          refine takeD (i := 3) (some 36) (v := ?_) rfl rfl (by kernel_rfl) (by kernel_rfl) (by kernel_rfl) (fun _ _ _ h => h) (by kernel_rfl) ?_ (by assumption) ?_
          rotate_left
          · intro wx hSw
            obtain ⟨hS1, hS2⟩ := hSw
            go_simp
            try (with_reducible rfl)
          try simp only [Act.put, List.setIfInBounds_toArray, List.set_cons_zero, List.set_cons_succ]
          refine takeD (i := 4) (some 37) (v := ?_) rfl rfl (by kernel_rfl) (by kernel_rfl) (by kernel_rfl) (fun _ _ _ h => h) (by kernel_rfl) ?_ (by assumption) ?_
          rotate_left
          · intro wx hSw
            obtain ⟨hS1, hS2⟩ := hSw
            go_simp
            try (with_reducible rfl)
          try simp only [Act.put, List.setIfInBounds_toArray, List.set_cons_zero, List.set_cons_succ]
          refine wpAnyH_ready (rs := [2]) (by kernel_rfl) (by simp) ?_
          refine AllReadyH.cons rfl (fun K hK => ?_) AllReadyH.nil
          go_simp
          have hB2 : Below (w.heap.size + 2) _ wr.drew := hB2.drew
          try go_invoke
          try go_simp
          refine (lossyHeld_any N _).mono ?_
          rintro e w3 ⟨rfl, hb3⟩
          replace hB2 := next2 hB2 hb3
          replace cb := (boxed2 hB2).1
          replace cn := (boxed2 hB2).2
          have hBr := hBr.drew.trans (hb3.mono hBr.size)
          clear hb3
          go_wp2_with fail
          refine hK.out _ _ ⟨cb, cn⟩ (fun hHeld => ?_)
          clear hK K
          try simp only [Act.put, List.setIfInBounds_toArray, List.set_cons_zero, List.set_cons_succ]
          refine wpAnyH_ready (rs := [5]) (by kernel_rfl) (by simp) ?_
          refine AllReadyH.cons rfl (fun K hK => ?_) AllReadyH.nil
          go_simp
          try go_invoke
          try go_simp
          refine (lossyMost_any C _).mono ?_
          rintro e w4 ⟨rfl, hb4⟩
          replace hB2 := next2 hB2 hb4
          replace cb := (boxed2 hB2).1
          replace cn := (boxed2 hB2).2
          have hBr := hBr.trans (hb4.mono hBr.size)
          clear hb4
          go_wp2_with fail
          refine hK.out _ _ ⟨cb, cn⟩ (fun hHeld => ?_)
          clear hK K
          try simp only [Act.put, List.setIfInBounds_toArray, List.set_cons_zero, List.set_cons_succ]
          refine wpAnyH_ready (rs := [6]) (by kernel_rfl) (by simp) ?_
          refine AllReadyH.cons rfl (fun K hK => ?_) AllReadyH.nil
          go_simp
          refine (isWithin_any _ _ _ _).mono ?_
          rintro e w' ⟨rfl, hw⟩
          rw [hw]
          clear hw w'
          rw [decide_eq_true hz]
          go_wp2_with fail
          refine hK.out _ _ ⟨cb, cn⟩ (fun hHeld => ?_)
          clear hK K
          try simp only [Act.put, List.setIfInBounds_toArray, List.set_cons_zero, List.set_cons_succ]
          refine takeD (i := 7) (some 40) (v := ?_) rfl rfl (by kernel_rfl) (by kernel_rfl) (by kernel_rfl) (fun _ _ _ h => h) (by kernel_rfl) ?_ (by assumption) ?_
          rotate_left
          · intro wx hSw
            obtain ⟨hS1, hS2⟩ := hSw
            go_simp
            try (with_reducible rfl)
          try simp only [Act.put, List.setIfInBounds_toArray, List.set_cons_zero, List.set_cons_succ]
          refine wpAnyH_done (by kernel_rfl) ?_ _
          have HZ : Hid (0 ≤ N.lo ∧ N.lo ≤ C.lo) := hz
          clear hz
          go_wp2_with fail
          go_roundw
          case rel => exact ⟨0 + 1, by omega, by first | rfl | go_num, fun j hj => by
            obtain rfl : j = 0 := by omega
            exact HZ.out, hBr⟩
          case measure => simp [intOf]; try omega
        · have HE : Hid (ok = false) := by
            show ok = false
            rw [Bool.eq_false_iff]
            intro e
            exact hz (HO.out.1 e).lo
          go_wp2_with fail
          refine wp_region_held_drew (S := fun w' => (∀ o, w'.cell? ⟨w.heap.size, o, none⟩ = (#[.int .i64 C.p, .int .i64 C.c, .int .i64 C.xo, .int .i64 C.xn, .int .i64 C.hd, .int .i64 C.lo, .int .i64 C.dl] : Array Value)[o]?) ∧ (∀ o, w'.cell? ⟨w.heap.size + 1, o, none⟩ = (#[.slice N.aU N.nU N.cU, .int .i64 N.lo, .slice N.aP N.nP N.cP] : Array Value)[o]?)) (by kernel_rfl) ⟨cb, cn⟩ (fun hHeld => ?_)
          refine takeD (i := 0) (some 33) (v := ?_) rfl rfl (by kernel_rfl) (by kernel_rfl) (by kernel_rfl) (fun _ _ _ h => h) (by kernel_rfl) ?_ (by assumption) ?_
          rotate_left
          · intro wx hSw
            obtain ⟨hS1, hS2⟩ := hSw
            go_simp
            try (with_reducible rfl)
          try simp only [Act.put, List.setIfInBounds_toArray, List.set_cons_zero, List.set_cons_succ]
          refine takeD (i := 1) (some 34) (v := ?_) rfl rfl (by kernel_rfl) (by kernel_rfl) (by kernel_rfl) (fun _ _ _ h => h) (by kernel_rfl) ?_ (by assumption) ?_
          rotate_left
          · intro wx hSw
            obtain ⟨hS1, hS2⟩ := hSw
            go_simp
            try (with_reducible rfl)
          try simp only [Act.put, List.setIfInBounds_toArray, List.set_cons_zero, List.set_cons_succ]
          refine takeD (i := 3) (some 36) (v := ?_) rfl rfl (by kernel_rfl) (by kernel_rfl) (by kernel_rfl) (fun _ _ _ h => h) (by kernel_rfl) ?_ (by assumption) ?_
          rotate_left
          · intro wx hSw
            obtain ⟨hS1, hS2⟩ := hSw
            go_simp
            try (with_reducible rfl)
          try simp only [Act.put, List.setIfInBounds_toArray, List.set_cons_zero, List.set_cons_succ]
          refine takeD (i := 4) (some 37) (v := ?_) rfl rfl (by kernel_rfl) (by kernel_rfl) (by kernel_rfl) (fun _ _ _ h => h) (by kernel_rfl) ?_ (by assumption) ?_
          rotate_left
          · intro wx hSw
            obtain ⟨hS1, hS2⟩ := hSw
            go_simp
            try (with_reducible rfl)
          try simp only [Act.put, List.setIfInBounds_toArray, List.set_cons_zero, List.set_cons_succ]
          refine wpAnyH_ready (rs := [2]) (by kernel_rfl) (by simp) ?_
          refine AllReadyH.cons rfl (fun K hK => ?_) AllReadyH.nil
          go_simp
          have hB2 : Below (w.heap.size + 2) _ wr.drew := hB2.drew
          try go_invoke
          try go_simp
          refine (lossyHeld_any N _).mono ?_
          rintro e w3 ⟨rfl, hb3⟩
          replace hB2 := next2 hB2 hb3
          replace cb := (boxed2 hB2).1
          replace cn := (boxed2 hB2).2
          have hBr := hBr.drew.trans (hb3.mono hBr.size)
          clear hb3
          go_wp2_with fail
          refine hK.out _ _ ⟨cb, cn⟩ (fun hHeld => ?_)
          clear hK K
          try simp only [Act.put, List.setIfInBounds_toArray, List.set_cons_zero, List.set_cons_succ]
          refine wpAnyH_ready (rs := [5]) (by kernel_rfl) (by simp) ?_
          refine AllReadyH.cons rfl (fun K hK => ?_) AllReadyH.nil
          go_simp
          try go_invoke
          try go_simp
          refine (lossyMost_any C _).mono ?_
          rintro e w4 ⟨rfl, hb4⟩
          replace hB2 := next2 hB2 hb4
          replace cb := (boxed2 hB2).1
          replace cn := (boxed2 hB2).2
          have hBr := hBr.trans (hb4.mono hBr.size)
          clear hb4
          go_wp2_with fail
          refine hK.out _ _ ⟨cb, cn⟩ (fun hHeld => ?_)
          clear hK K
          try simp only [Act.put, List.setIfInBounds_toArray, List.set_cons_zero, List.set_cons_succ]
          refine wpAnyH_ready (rs := [6]) (by kernel_rfl) (by simp) ?_
          refine AllReadyH.cons rfl (fun K hK => ?_) AllReadyH.nil
          go_simp
          refine (isWithin_any _ _ _ _).mono ?_
          rintro e w' ⟨rfl, hw⟩
          rw [hw]
          clear hw w'
          rw [decide_eq_false hz]
          go_wp2_with fail
          refine hK.out _ _ ⟨cb, cn⟩ (fun hHeld => ?_)
          clear hK K
          try simp only [Act.put, List.setIfInBounds_toArray, List.set_cons_zero, List.set_cons_succ]
          refine takeD (i := 7) (some 40) (v := ?_) rfl rfl (by kernel_rfl) (by kernel_rfl) (by kernel_rfl) (fun _ _ _ h => h) (by kernel_rfl) ?_ (by assumption) ?_
          rotate_left
          · intro wx hSw
            obtain ⟨hS1, hS2⟩ := hSw
            go_simp
            try (with_reducible rfl)
          try simp only [Act.put, List.setIfInBounds_toArray, List.set_cons_zero, List.set_cons_succ]
          refine wpAnyH_done (by kernel_rfl) ?_ _
          have B := under2 hB2
          go_wp2_with fail
          go_ret
          exact ⟨ret_bool HE.out.symm, B⟩
      | succ j =>
        dsimp only [limV, portV] at c1
        by_cases hz : 0 ≤ N.u j ∧ N.u j ≤ C.xo + C.hd
        · go_wp2_with fail
          refine wp_region_held_drew (S := fun w' => (∀ o, w'.cell? ⟨w.heap.size, o, none⟩ = (#[.int .i64 C.p, .int .i64 C.c, .int .i64 C.xo, .int .i64 C.xn, .int .i64 C.hd, .int .i64 C.lo, .int .i64 C.dl] : Array Value)[o]?) ∧ (∀ o, w'.cell? ⟨w.heap.size + 1, o, none⟩ = (#[.slice N.aU N.nU N.cU, .int .i64 N.lo, .slice N.aP N.nP N.cP] : Array Value)[o]?)) (by kernel_rfl) ⟨cb, cn⟩ (fun hHeld => ?_)
          refine takeD (i := 0) (some 33) (v := ?_) rfl rfl (by kernel_rfl) (by kernel_rfl) (by kernel_rfl) (fun _ _ _ h => h) (by kernel_rfl) ?_ (by assumption) ?_
          rotate_left
          · intro wx hSw
            obtain ⟨hS1, hS2⟩ := hSw
            go_simp
            try (with_reducible rfl)
          try simp only [Act.put, List.setIfInBounds_toArray, List.set_cons_zero, List.set_cons_succ]
          refine takeD (i := 1) (some 34) (v := ?_) rfl rfl (by kernel_rfl) (by kernel_rfl) (by kernel_rfl) (fun _ _ _ h => h) (by kernel_rfl) ?_ (by assumption) ?_
          rotate_left
          · intro wx hSw
            obtain ⟨hS1, hS2⟩ := hSw
            go_simp
            try (with_reducible rfl)
          try simp only [Act.put, List.setIfInBounds_toArray, List.set_cons_zero, List.set_cons_succ]
          refine takeD (i := 3) (some 36) (v := ?_) rfl rfl (by kernel_rfl) (by kernel_rfl) (by kernel_rfl) (fun _ _ _ h => h) (by kernel_rfl) ?_ (by assumption) ?_
          rotate_left
          · intro wx hSw
            obtain ⟨hS1, hS2⟩ := hSw
            go_simp
            try (with_reducible rfl)
          try simp only [Act.put, List.setIfInBounds_toArray, List.set_cons_zero, List.set_cons_succ]
          refine takeD (i := 4) (some 37) (v := ?_) rfl rfl (by kernel_rfl) (by kernel_rfl) (by kernel_rfl) (fun _ _ _ h => h) (by kernel_rfl) ?_ (by assumption) ?_
          rotate_left
          · intro wx hSw
            obtain ⟨hS1, hS2⟩ := hSw
            go_simp
            try (with_reducible rfl)
          try simp only [Act.put, List.setIfInBounds_toArray, List.set_cons_zero, List.set_cons_succ]
          refine wpAnyH_ready (rs := [2]) (by kernel_rfl) (by simp) ?_
          refine AllReadyH.cons rfl (fun K hK => ?_) AllReadyH.nil
          go_simp
          have hB2 : Below (w.heap.size + 2) _ wr.drew := hB2.drew
          try go_invoke
          try go_simp
          refine (portHeld_any N j _ HF.out (by have := HnU.out; omega) (HR.out.up (under2 hB2))).mono ?_
          rintro e w3 ⟨rfl, hb3⟩
          replace hB2 := next2 hB2 hb3
          replace cb := (boxed2 hB2).1
          replace cn := (boxed2 hB2).2
          have hBr := hBr.drew.trans (hb3.mono hBr.size)
          clear hb3
          go_wp2_with fail
          refine hK.out _ _ ⟨cb, cn⟩ (fun hHeld => ?_)
          clear hK K
          try simp only [Act.put, List.setIfInBounds_toArray, List.set_cons_zero, List.set_cons_succ]
          refine wpAnyH_ready (rs := [5]) (by kernel_rfl) (by simp) ?_
          refine AllReadyH.cons rfl (fun K hK => ?_) AllReadyH.nil
          go_simp
          try go_invoke
          try go_simp
          refine (portMost_any C _ _ (by have := HC.out.num.xo; omega) (by have := HC.out.num.xo; omega) (by have := HC.out.num.hd; omega) (by have := HC.out.num.hd; omega)).mono ?_
          rintro e w4 ⟨rfl, hb4⟩
          replace hB2 := next2 hB2 hb4
          replace cb := (boxed2 hB2).1
          replace cn := (boxed2 hB2).2
          have hBr := hBr.trans (hb4.mono hBr.size)
          clear hb4
          go_wp2_with fail
          refine hK.out _ _ ⟨cb, cn⟩ (fun hHeld => ?_)
          clear hK K
          try simp only [Act.put, List.setIfInBounds_toArray, List.set_cons_zero, List.set_cons_succ]
          refine wpAnyH_ready (rs := [6]) (by kernel_rfl) (by simp) ?_
          refine AllReadyH.cons rfl (fun K hK => ?_) AllReadyH.nil
          go_simp
          refine (isWithin_any _ _ _ _).mono ?_
          rintro e w' ⟨rfl, hw⟩
          rw [hw]
          clear hw w'
          rw [decide_eq_true hz]
          go_wp2_with fail
          refine hK.out _ _ ⟨cb, cn⟩ (fun hHeld => ?_)
          clear hK K
          try simp only [Act.put, List.setIfInBounds_toArray, List.set_cons_zero, List.set_cons_succ]
          refine takeD (i := 7) (some 40) (v := ?_) rfl rfl (by kernel_rfl) (by kernel_rfl) (by kernel_rfl) (fun _ _ _ h => h) (by kernel_rfl) ?_ (by assumption) ?_
          rotate_left
          · intro wx hSw
            obtain ⟨hS1, hS2⟩ := hSw
            go_simp
            try (with_reducible rfl)
          try simp only [Act.put, List.setIfInBounds_toArray, List.set_cons_zero, List.set_cons_succ]
          refine wpAnyH_done (by kernel_rfl) ?_ _
          have HZ : Hid (0 ≤ N.u j ∧ N.u j ≤ C.xo + C.hd) := hz
          clear hz
          go_wp2_with fail
          go_roundw
          case rel => exact ⟨j + 1 + 1, by omega, by first | rfl | go_num, fun i hi => by
            by_cases e : i = j + 1
            · subst e; exact HZ.out
            · exact HA.out i (by omega), hBr⟩
          case measure => simp [intOf]; try omega
        · have HE : Hid (ok = false) := by
            show ok = false
            rw [Bool.eq_false_iff]
            intro e
            exact hz ((HO.out.1 e).u j (by have := HnU.out; omega))
          go_wp2_with fail
          refine wp_region_held_drew (S := fun w' => (∀ o, w'.cell? ⟨w.heap.size, o, none⟩ = (#[.int .i64 C.p, .int .i64 C.c, .int .i64 C.xo, .int .i64 C.xn, .int .i64 C.hd, .int .i64 C.lo, .int .i64 C.dl] : Array Value)[o]?) ∧ (∀ o, w'.cell? ⟨w.heap.size + 1, o, none⟩ = (#[.slice N.aU N.nU N.cU, .int .i64 N.lo, .slice N.aP N.nP N.cP] : Array Value)[o]?)) (by kernel_rfl) ⟨cb, cn⟩ (fun hHeld => ?_)
          refine takeD (i := 0) (some 33) (v := ?_) rfl rfl (by kernel_rfl) (by kernel_rfl) (by kernel_rfl) (fun _ _ _ h => h) (by kernel_rfl) ?_ (by assumption) ?_
          rotate_left
          · intro wx hSw
            obtain ⟨hS1, hS2⟩ := hSw
            go_simp
            try (with_reducible rfl)
          try simp only [Act.put, List.setIfInBounds_toArray, List.set_cons_zero, List.set_cons_succ]
          refine takeD (i := 1) (some 34) (v := ?_) rfl rfl (by kernel_rfl) (by kernel_rfl) (by kernel_rfl) (fun _ _ _ h => h) (by kernel_rfl) ?_ (by assumption) ?_
          rotate_left
          · intro wx hSw
            obtain ⟨hS1, hS2⟩ := hSw
            go_simp
            try (with_reducible rfl)
          try simp only [Act.put, List.setIfInBounds_toArray, List.set_cons_zero, List.set_cons_succ]
          refine takeD (i := 3) (some 36) (v := ?_) rfl rfl (by kernel_rfl) (by kernel_rfl) (by kernel_rfl) (fun _ _ _ h => h) (by kernel_rfl) ?_ (by assumption) ?_
          rotate_left
          · intro wx hSw
            obtain ⟨hS1, hS2⟩ := hSw
            go_simp
            try (with_reducible rfl)
          try simp only [Act.put, List.setIfInBounds_toArray, List.set_cons_zero, List.set_cons_succ]
          refine takeD (i := 4) (some 37) (v := ?_) rfl rfl (by kernel_rfl) (by kernel_rfl) (by kernel_rfl) (fun _ _ _ h => h) (by kernel_rfl) ?_ (by assumption) ?_
          rotate_left
          · intro wx hSw
            obtain ⟨hS1, hS2⟩ := hSw
            go_simp
            try (with_reducible rfl)
          try simp only [Act.put, List.setIfInBounds_toArray, List.set_cons_zero, List.set_cons_succ]
          refine wpAnyH_ready (rs := [2]) (by kernel_rfl) (by simp) ?_
          refine AllReadyH.cons rfl (fun K hK => ?_) AllReadyH.nil
          go_simp
          have hB2 : Below (w.heap.size + 2) _ wr.drew := hB2.drew
          try go_invoke
          try go_simp
          refine (portHeld_any N j _ HF.out (by have := HnU.out; omega) (HR.out.up (under2 hB2))).mono ?_
          rintro e w3 ⟨rfl, hb3⟩
          replace hB2 := next2 hB2 hb3
          replace cb := (boxed2 hB2).1
          replace cn := (boxed2 hB2).2
          have hBr := hBr.drew.trans (hb3.mono hBr.size)
          clear hb3
          go_wp2_with fail
          refine hK.out _ _ ⟨cb, cn⟩ (fun hHeld => ?_)
          clear hK K
          try simp only [Act.put, List.setIfInBounds_toArray, List.set_cons_zero, List.set_cons_succ]
          refine wpAnyH_ready (rs := [5]) (by kernel_rfl) (by simp) ?_
          refine AllReadyH.cons rfl (fun K hK => ?_) AllReadyH.nil
          go_simp
          try go_invoke
          try go_simp
          refine (portMost_any C _ _ (by have := HC.out.num.xo; omega) (by have := HC.out.num.xo; omega) (by have := HC.out.num.hd; omega) (by have := HC.out.num.hd; omega)).mono ?_
          rintro e w4 ⟨rfl, hb4⟩
          replace hB2 := next2 hB2 hb4
          replace cb := (boxed2 hB2).1
          replace cn := (boxed2 hB2).2
          have hBr := hBr.trans (hb4.mono hBr.size)
          clear hb4
          go_wp2_with fail
          refine hK.out _ _ ⟨cb, cn⟩ (fun hHeld => ?_)
          clear hK K
          try simp only [Act.put, List.setIfInBounds_toArray, List.set_cons_zero, List.set_cons_succ]
          refine wpAnyH_ready (rs := [6]) (by kernel_rfl) (by simp) ?_
          refine AllReadyH.cons rfl (fun K hK => ?_) AllReadyH.nil
          go_simp
          refine (isWithin_any _ _ _ _).mono ?_
          rintro e w' ⟨rfl, hw⟩
          rw [hw]
          clear hw w'
          rw [decide_eq_false hz]
          go_wp2_with fail
          refine hK.out _ _ ⟨cb, cn⟩ (fun hHeld => ?_)
          clear hK K
          try simp only [Act.put, List.setIfInBounds_toArray, List.set_cons_zero, List.set_cons_succ]
          refine takeD (i := 7) (some 40) (v := ?_) rfl rfl (by kernel_rfl) (by kernel_rfl) (by kernel_rfl) (fun _ _ _ h => h) (by kernel_rfl) ?_ (by assumption) ?_
          rotate_left
          · intro wx hSw
            obtain ⟨hS1, hS2⟩ := hSw
            go_simp
            try (with_reducible rfl)
          try simp only [Act.put, List.setIfInBounds_toArray, List.set_cons_zero, List.set_cons_succ]
          refine wpAnyH_done (by kernel_rfl) ?_ _
          have B := under2 hB2
          go_wp2_with fail
          go_ret
          exact ⟨ret_bool HE.out.symm, B⟩
    · obtain rfl : k = n + 1 := by omega
      have HT : Hid (ok = true) := HO.out.2 ⟨HC.out, HU.out, HP.out, HA.out 0 (by omega), fun i hi => HA.out (i + 1) (by have := HnU.out; omega)⟩
      have B := under2 hB2
      go_wp2_with fail
      go_ret
      exact ⟨ret_bool HT.out.symm, B⟩
end Go.Proofs.Ytaiodombphpcgaa
