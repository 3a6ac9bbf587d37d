/- Counts made anew, by both sides. -/
import Derived.Test.YtaiodombphpcgaaCnD
import Derived.Test.YtaiodombphpcgaaCnE
namespace Go.Proofs.Ytaiodombphpcgaa
open Go.RowKit
set_option linter.unusedVariables false
set_option linter.unusedSimpArgs false

theorem laid2 {w wi : World} {o o' : Obj} (h : Below (w.heap.size + 2) ((w.alloc o).alloc o') wi) : wi.heap[w.heap.size]? = some o ∧ wi.heap[w.heap.size + 1]? = some o' := by
  refine ⟨(h.block _ (by omega)).trans ((blk_old _ (by simp)).trans (blk_new _ _)), (h.block _ (by omega)).trans ?_⟩
  have := blk_new (w.alloc o) o'
  simpa using this
def zeroC : Cnt := ⟨none, 0, 0, fun _ => 0, 0, none, 0, 0, fun _ => false⟩
def newC (n : Nat) (ok : Bool) : Cnt := if ok then ⟨none, n, n, fun _ => 0, 0, none, n, n, fun _ => false⟩ else zeroC
theorem zeroC_own (w : World) (base : Nat) : OwnCn w base zeroC := ⟨.inl rfl, .inl rfl⟩
theorem newC_small {n : Nat} {ok : Bool} (h : n ≤ 4) : (newC n ok).Small := by cases ok <;> exact ⟨by simp [newC, zeroC]; try omega, by simp [newC, zeroC]; try omega⟩
/-- three stores -/
def put3 (W : World) (g : Nat) (a b c : Value) : World := ((W.setCell ⟨g, 0, none⟩ a).setCell ⟨g, 1, none⟩ b).setCell ⟨g, 2, none⟩ c
theorem put3_blk {W : World} {g : Nat} {x y z : Value} {t : TypeId} (h : W.heap[g]? = some (.cells #[x, y, z] t (0, 0))) (a b c : Value) : (put3 W g a b c).heap[g]? = some (.cells #[a, b, c] t (0, 0)) := blk_set (blk_set (blk_set h _) _) _
theorem put3_touch (W : World) (g : Nat) (a b c : Value) : Touch [g] W (put3 W g a b c) := (((Touch.refl _ _).set (by simp) 0 a).set (by simp) 1 b).set (by simp) 2 c
set_option maxHeartbeats 4000000 in
theorem sCountsNew_any (C : Cfg) (n : Nat) (w : World) (hp : 2 ≤ C.p ∧ C.p ≤ 4 → C.p = (n : Int)) (ok : Bool) (hok : ok = true ↔ C.Ok) :
    Calls Try.prog 16 #[.agg C.cells] w fun e w' => ∃ M : Cnt, e = .returned (.tuple #[.agg M.cells, .bool ok]) ∧ OwnCn w' w.heap.size M ∧ Below w.heap.size w w' ∧ AlikeC (newC n ok) M := by
  cases ok
  · have HO : Hid (false = true ↔ C.Ok) := hok
    have HB0 : Hid (Below (w.heap.size + 2) ((w.alloc (.cells C.cells 25)).alloc (.cells #[.slice none 0 0, .int .i64 0, .slice none 0 0] 31)) ((w.alloc (.cells C.cells 25)).alloc (.cells #[.slice none 0 0, .int .i64 0, .slice none 0 0] 31))) := Below.refl _ _
    clear hok hp
    unfold Cfg.cells at *
    go_enter Try.func16, Try.ntmps16
    go_wp2_with fail
    refine (sConfigOk_any C _ false HO.out).mono ?_
    rintro e w1 ⟨rfl, hb⟩
    have hB := next2 HB0.out hb
    have kz := (laid2 hB).2
    have cz := blk_cell kz
    have fz := blk_free kz
    have ht := put3_touch w1 (w.heap.size + 1) (.slice none 0 0) (.int .i64 0) (.slice none 0 0)
    have kz3 := put3_blk kz (.slice none 0 0) (.int .i64 0) (.slice none 0 0)
    have B := (under2 hB).trans (ht.below (under2 hB).size (fun x hx => by simp at hx; omega))
    have cB := blk_cell kz3
    clear hb kz ht kz3 hB
    unfold put3 at *
    go_wp2_with fail
    exact bodyPost_ret (v := .tuple #[.agg #[.slice none 0 0, .int .i64 0, .slice none 0 0], .bool false]) (by simp [results, Try.results16, go_sem, cB]) rfl ⟨zeroC, rfl, zeroC_own _ _, B, AlikeC.refl _⟩
  · obtain ⟨p, c, xo, xn, hd, lo, dl⟩ := C
    have hC := hok.1 rfl
    have h1 : 2 ≤ p ∧ p ≤ 4 := hC.num.p
    obtain rfl : p = (n : Int) := hp h1
    have hn : n ≤ 4 := by omega
    have HO : Hid (Cfg.Ok ⟨(n : Int), c, xo, xn, hd, lo, dl⟩) := hC
    have mk1 : ∀ w, _ := make_ints n (by omega)
    have mk2 : ∀ w, _ := make_bools n (by omega)
    have HB0 : Hid (Below (w.heap.size + 2) ((w.alloc (.cells #[.int .i64 (n : Int), .int .i64 c, .int .i64 xo, .int .i64 xn, .int .i64 hd, .int .i64 lo, .int .i64 dl] 25)).alloc (.cells #[.slice none 0 0, .int .i64 0, .slice none 0 0] 31)) ((w.alloc (.cells #[.int .i64 (n : Int), .int .i64 c, .int .i64 xo, .int .i64 xn, .int .i64 hd, .int .i64 lo, .int .i64 dl] 25)).alloc (.cells #[.slice none 0 0, .int .i64 0, .slice none 0 0] 31))) := Below.refl _ _
    clear hok hp hC h1
    unfold Cfg.cells
    dsimp only
    go_enter Try.func16, Try.ntmps16
    go_wp2_with fail
    refine (sConfigOk_any ⟨(n : Int), c, xo, xn, hd, lo, dl⟩ _ true ⟨fun _ => HO.out, fun _ => rfl⟩).mono ?_
    rintro e w1 ⟨rfl, hb⟩
    have hB := next2 HB0.out hb
    have cb := (boxed2 hB).1
    have kz := (laid2 hB).2
    clear hb
    go_wp2_with fail
    refine wp_region_held_drew (S := fun w' => ∀ o, w'.cell? ⟨w.heap.size, o, none⟩ = (#[.int .i64 (n : Int), .int .i64 c, .int .i64 xo, .int .i64 xn, .int .i64 hd, .int .i64 lo, .int .i64 dl] : Array Value)[o]?) (by kernel_rfl) cb (fun hHeld => ?_)
    have kz : w1.drew.heap[w.heap.size + 1]? = _ := kz
    replace hB := hB.drew
    have cb : ∀ o, w1.drew.cell? ⟨w.heap.size, o, none⟩ = (#[.int .i64 (n : Int), .int .i64 c, .int .i64 xo, .int .i64 xn, .int .i64 hd, .int .i64 lo, .int .i64 dl] : Array Value)[o]? := cb
    generalize w1.drew = W at *
    refine takeD (i := 0) (some 8) (v := ?_) rfl rfl (by kernel_rfl) (by kernel_rfl) (by kernel_rfl) (fun _ _ _ h => h) (by kernel_rfl) ?_ (by assumption) ?_
    rotate_left
    · intro wx hSw
      try dsimp only at hSw
      go_simp
      try (with_reducible rfl)
    try simp only [Act.put, List.setIfInBounds_toArray, List.set_cons_zero, List.set_cons_succ]
    refine takeD (i := 1) (some 9) (v := ?_) rfl rfl (by kernel_rfl) (by kernel_rfl) (by kernel_rfl) (fun _ _ _ h => h) (by kernel_rfl) ?_ (by assumption) ?_
    rotate_left
    · intro wx hSw
      try dsimp only at hSw
      go_simp
      try (with_reducible rfl)
    try simp only [Act.put, List.setIfInBounds_toArray, List.set_cons_zero, List.set_cons_succ]
    refine takeD (i := 3) (some 11) (v := ?_) rfl rfl (by kernel_rfl) (by kernel_rfl) (by kernel_rfl) (fun _ _ _ h => h) (by kernel_rfl) ?_ (by assumption) ?_
    rotate_left
    · intro wx hSw
      try dsimp only at hSw
      go_simp
      try (with_reducible rfl)
    try simp only [Act.put, List.setIfInBounds_toArray, List.set_cons_zero, List.set_cons_succ]
    refine takeD (i := 4) (some 12) (v := ?_) rfl rfl (by kernel_rfl) (by kernel_rfl) (by kernel_rfl) (fun _ _ _ h => h) (by kernel_rfl) ?_ (by assumption) ?_
    rotate_left
    · intro wx hSw
      try dsimp only at hSw
      go_simp
      try (with_reducible rfl)
    try simp only [Act.put, List.setIfInBounds_toArray, List.set_cons_zero, List.set_cons_succ]
    refine wpAnyH_ready (rs := [2, 5]) (by kernel_rfl) (by simp) ?_
    refine AllReadyH.cons rfl (fun K hK => ?_) (AllReadyH.cons rfl (fun K hK => ?_) AllReadyH.nil)
    · have hA := (Below.refl W.heap.size W).alloc (Nat.le_refl _) (.cells (zInts n) 2)
      have hN := blk_new W (.cells (zInts n) 2)
      have hB2 := next2 hB hA
      have cb2 := (boxed2 hB2).1
      have kz2 := (hA.block _ (blk_lt kz)).trans kz
      have gUl : w.heap.size + 2 ≤ W.heap.size := upper2 hB
      have m := mk1 W
      go_simp
      clear m
      refine hK.out _ _ cb2 (fun hHeld => ?_)
      clear hK K
      try simp only [Act.put, List.setIfInBounds_toArray, List.set_cons_zero, List.set_cons_succ]
      have kU : (W.alloc (.cells (zInts n) 2)).heap[W.heap.size]? = _ := hN
      have gUr : W.heap.size < (W.alloc (.cells (zInts n) 2)).heap.size := blk_lt hN
      generalize hg1 : W.heap.size = gU at *
      generalize W.alloc (.cells (zInts n) 2) = W1 at *
      clear hB cb kz hA hN
      have hB := hB2
      have kz := kz2
      clear hB2 kz2 cb2
      refine wpAnyH_ready (rs := [5]) (by kernel_rfl) (by simp) ?_
      refine AllReadyH.cons rfl (fun K hK => ?_) AllReadyH.nil
      have hA := (Below.refl W1.heap.size W1).alloc (Nat.le_refl _) (.cells (zBools n) 4)
      have hN := blk_new W1 (.cells (zBools n) 4)
      have hB2 := next2 hB hA
      have cb2 := (boxed2 hB2).1
      have kz2 := (hA.block _ (blk_lt kz)).trans kz
      have kU2 := (hA.block _ (blk_lt kU)).trans kU
      have gPl : w.heap.size + 2 ≤ W1.heap.size := upper2 hB
      have m := mk2 W1
      go_simp
      clear m
      refine hK.out _ _ cb2 (fun hHeld => ?_)
      clear hK K
      try simp only [Act.put, List.setIfInBounds_toArray, List.set_cons_zero, List.set_cons_succ]
      have kP : (W1.alloc (.cells (zBools n) 4)).heap[W1.heap.size]? = _ := hN
      have gUn : gU ≠ W1.heap.size := by omega
      generalize hg2 : W1.heap.size = gP at *
      generalize W1.alloc (.cells (zBools n) 4) = W2 at *
      clear hB kz hA hN kU
      have hB := hB2
      have kz := kz2
      have kU := kU2
      clear hB2 kz2 kU2
      refine takeD (i := 6) (some 14) (v := ?_) rfl rfl (by kernel_rfl) (by kernel_rfl) (by kernel_rfl) (fun _ _ _ h => h) (by kernel_rfl) ?_ (by assumption) ?_
      rotate_left
      · intro wx hSw
        try dsimp only at hSw
        go_simp
        try (with_reducible rfl)
      try simp only [Act.put, List.setIfInBounds_toArray, List.set_cons_zero, List.set_cons_succ]
      have cz := blk_cell kz
      have fz := blk_free kz
      have ht := put3_touch W2 (w.heap.size + 1) (.slice (some ⟨gU, 0, none⟩) n n) (.int .i64 0) (.slice (some ⟨gP, 0, none⟩) n n)
      have kz3 := put3_blk kz (.slice (some ⟨gU, 0, none⟩) n n) (.int .i64 0) (.slice (some ⟨gP, 0, none⟩) n n)
      have cb3 := blk_cell ((ht.block w.heap.size (by have := upper2 hB; omega) (by simp)).trans (laid2 hB).1)
      refine wpAnyH_ready (rs := [7]) (by kernel_rfl) (by simp) ?_
      refine AllReadyH.cons rfl (fun K hK => ?_) AllReadyH.nil
      go_simp
      refine hK.out _ _ cb3 (fun hHeld => ?_)
      clear hK K
      try simp only [Act.put, List.setIfInBounds_toArray, List.set_cons_zero, List.set_cons_succ]
      refine wpAnyH_ready (rs := [8]) (by kernel_rfl) (by simp) ?_
      refine AllReadyH.cons rfl (fun K hK => ?_) AllReadyH.nil
      go_simp
      refine hK.out _ _ cb3 (fun hHeld => ?_)
      clear hK K
      try simp only [Act.put, List.setIfInBounds_toArray, List.set_cons_zero, List.set_cons_succ]
      refine wpAnyH_done (by kernel_rfl) ?_ _
      have rU := (zInts_row kU).keep (ht.block gU (blk_lt kU) (by simp; omega))
      have rP := (zBools_row kP).keep (ht.block gP (blk_lt kP) (by simp; omega))
      have B := (under2 hB).trans (ht.below (under2 hB).size (fun x hx => by simp at hx; omega))
      have cB := blk_cell kz3
      clear cz fz kU kP kz ht cb3
      unfold put3 at *
      go_wp2_with fail
      refine bodyPost_ret (v := .tuple #[.agg #[.slice (some ⟨gU, 0, none⟩) n n, .int .i64 0, .slice (some ⟨gP, 0, none⟩) n n], .bool true]) (by simp [results, Try.results16, go_sem, cB]) rfl ⟨⟨some ⟨gU, 0, none⟩, n, n, fun _ => 0, 0, some ⟨gP, 0, none⟩, n, n, fun _ => false⟩, rfl, ⟨VT.of (by omega) rU, VT.of (by omega) rP⟩, B, ⟨rfl, rfl, rfl, rfl, rfl⟩⟩
    · have hA := (Below.refl W.heap.size W).alloc (Nat.le_refl _) (.cells (zBools n) 4)
      have hN := blk_new W (.cells (zBools n) 4)
      have hB2 := next2 hB hA
      have cb2 := (boxed2 hB2).1
      have kz2 := (hA.block _ (blk_lt kz)).trans kz
      have gPl : w.heap.size + 2 ≤ W.heap.size := upper2 hB
      have m := mk2 W
      go_simp
      clear m
      refine hK.out _ _ cb2 (fun hHeld => ?_)
      clear hK K
      try simp only [Act.put, List.setIfInBounds_toArray, List.set_cons_zero, List.set_cons_succ]
      have kP : (W.alloc (.cells (zBools n) 4)).heap[W.heap.size]? = _ := hN
      have gPr : W.heap.size < (W.alloc (.cells (zBools n) 4)).heap.size := blk_lt hN
      generalize hg1 : W.heap.size = gP at *
      generalize W.alloc (.cells (zBools n) 4) = W1 at *
      clear hB cb kz hA hN
      have hB := hB2
      have kz := kz2
      clear hB2 kz2 cb2
      refine wpAnyH_ready (rs := [2]) (by kernel_rfl) (by simp) ?_
      refine AllReadyH.cons rfl (fun K hK => ?_) AllReadyH.nil
      have hA := (Below.refl W1.heap.size W1).alloc (Nat.le_refl _) (.cells (zInts n) 2)
      have hN := blk_new W1 (.cells (zInts n) 2)
      have hB2 := next2 hB hA
      have cb2 := (boxed2 hB2).1
      have kz2 := (hA.block _ (blk_lt kz)).trans kz
      have kP2 := (hA.block _ (blk_lt kP)).trans kP
      have gUl : w.heap.size + 2 ≤ W1.heap.size := upper2 hB
      have m := mk1 W1
      go_simp
      clear m
      refine hK.out _ _ cb2 (fun hHeld => ?_)
      clear hK K
      try simp only [Act.put, List.setIfInBounds_toArray, List.set_cons_zero, List.set_cons_succ]
      have kU : (W1.alloc (.cells (zInts n) 2)).heap[W1.heap.size]? = _ := hN
      have gPn : gP ≠ W1.heap.size := by omega
      generalize hg2 : W1.heap.size = gU at *
      generalize W1.alloc (.cells (zInts n) 2) = W2 at *
      clear hB kz hA hN kP
      have hB := hB2
      have kz := kz2
      have kP := kP2
      clear hB2 kz2 kP2
      refine takeD (i := 6) (some 14) (v := ?_) rfl rfl (by kernel_rfl) (by kernel_rfl) (by kernel_rfl) (fun _ _ _ h => h) (by kernel_rfl) ?_ (by assumption) ?_
      rotate_left
      · intro wx hSw
        try dsimp only at hSw
        go_simp
        try (with_reducible rfl)
      try simp only [Act.put, List.setIfInBounds_toArray, List.set_cons_zero, List.set_cons_succ]
      have cz := blk_cell kz
      have fz := blk_free kz
      have ht := put3_touch W2 (w.heap.size + 1) (.slice (some ⟨gU, 0, none⟩) n n) (.int .i64 0) (.slice (some ⟨gP, 0, none⟩) n n)
      have kz3 := put3_blk kz (.slice (some ⟨gU, 0, none⟩) n n) (.int .i64 0) (.slice (some ⟨gP, 0, none⟩) n n)
      have cb3 := blk_cell ((ht.block w.heap.size (by have := upper2 hB; omega) (by simp)).trans (laid2 hB).1)
      refine wpAnyH_ready (rs := [7]) (by kernel_rfl) (by simp) ?_
      refine AllReadyH.cons rfl (fun K hK => ?_) AllReadyH.nil
      go_simp
      refine hK.out _ _ cb3 (fun hHeld => ?_)
      clear hK K
      try simp only [Act.put, List.setIfInBounds_toArray, List.set_cons_zero, List.set_cons_succ]
      refine wpAnyH_ready (rs := [8]) (by kernel_rfl) (by simp) ?_
      refine AllReadyH.cons rfl (fun K hK => ?_) AllReadyH.nil
      go_simp
      refine hK.out _ _ cb3 (fun hHeld => ?_)
      clear hK K
      try simp only [Act.put, List.setIfInBounds_toArray, List.set_cons_zero, List.set_cons_succ]
      refine wpAnyH_done (by kernel_rfl) ?_ _
      have rU := (zInts_row kU).keep (ht.block gU (blk_lt kU) (by simp; omega))
      have rP := (zBools_row kP).keep (ht.block gP (blk_lt kP) (by simp; omega))
      have B := (under2 hB).trans (ht.below (under2 hB).size (fun x hx => by simp at hx; omega))
      have cB := blk_cell kz3
      clear cz fz kU kP kz ht cb3
      unfold put3 at *
      go_wp2_with fail
      refine bodyPost_ret (v := .tuple #[.agg #[.slice (some ⟨gU, 0, none⟩) n n, .int .i64 0, .slice (some ⟨gP, 0, none⟩) n n], .bool true]) (by simp [results, Try.results16, go_sem, cB]) rfl ⟨⟨some ⟨gU, 0, none⟩, n, n, fun _ => 0, 0, some ⟨gP, 0, none⟩, n, n, fun _ => false⟩, rfl, ⟨VT.of (by omega) rU, VT.of (by omega) rP⟩, B, ⟨rfl, rfl, rfl, rfl, rfl⟩⟩
set_option maxHeartbeats 4000000 in
theorem iCountsNew_any (C : Cfg) (n : Nat) (w : World) (hp : 2 ≤ C.p ∧ C.p ≤ 4 → C.p = (n : Int)) (ok : Bool) (hok : ok = true ↔ C.Ok) :
    Calls Try.prog 8 #[.agg C.cells] w fun e w' => ∃ M : Cnt, e = .returned (.tuple #[.agg M.cells, .bool ok]) ∧ OwnCn w' w.heap.size M ∧ Below w.heap.size w w' ∧ AlikeC (newC n ok) M := by
  cases ok
  · have HO : Hid (false = true ↔ C.Ok) := hok
    have HB0 : Hid (Below (w.heap.size + 2) ((w.alloc (.cells C.cells 25)).alloc (.cells #[.slice none 0 0, .int .i64 0, .slice none 0 0] 31)) ((w.alloc (.cells C.cells 25)).alloc (.cells #[.slice none 0 0, .int .i64 0, .slice none 0 0] 31))) := Below.refl _ _
    clear hok hp
    unfold Cfg.cells at *
    go_enter Try.func8, Try.ntmps8
    go_wp2_with fail
    refine (iConfigOk_any C _ false HO.out).mono ?_
    rintro e w1 ⟨rfl, hb⟩
    have hB := next2 HB0.out hb
    have kz := (laid2 hB).2
    have cz := blk_cell kz
    have fz := blk_free kz
    have ht := put3_touch w1 (w.heap.size + 1) (.slice none 0 0) (.int .i64 0) (.slice none 0 0)
    have kz3 := put3_blk kz (.slice none 0 0) (.int .i64 0) (.slice none 0 0)
    have B := (under2 hB).trans (ht.below (under2 hB).size (fun x hx => by simp at hx; omega))
    have cB := blk_cell kz3
    clear hb kz ht kz3 hB
    unfold put3 at *
    go_wp2_with fail
    exact bodyPost_ret (v := .tuple #[.agg #[.slice none 0 0, .int .i64 0, .slice none 0 0], .bool false]) (by simp [results, Try.results8, go_sem, cB]) rfl ⟨zeroC, rfl, zeroC_own _ _, B, AlikeC.refl _⟩
  · obtain ⟨p, c, xo, xn, hd, lo, dl⟩ := C
    have hC := hok.1 rfl
    have h1 : 2 ≤ p ∧ p ≤ 4 := hC.num.p
    obtain rfl : p = (n : Int) := hp h1
    have hn : n ≤ 4 := by omega
    have HO : Hid (Cfg.Ok ⟨(n : Int), c, xo, xn, hd, lo, dl⟩) := hC
    have mk1 : ∀ w, _ := make_ints n (by omega)
    have mk2 : ∀ w, _ := make_bools n (by omega)
    have HB0 : Hid (Below (w.heap.size + 2) ((w.alloc (.cells #[.int .i64 (n : Int), .int .i64 c, .int .i64 xo, .int .i64 xn, .int .i64 hd, .int .i64 lo, .int .i64 dl] 25)).alloc (.cells #[.slice none 0 0, .int .i64 0, .slice none 0 0] 31)) ((w.alloc (.cells #[.int .i64 (n : Int), .int .i64 c, .int .i64 xo, .int .i64 xn, .int .i64 hd, .int .i64 lo, .int .i64 dl] 25)).alloc (.cells #[.slice none 0 0, .int .i64 0, .slice none 0 0] 31))) := Below.refl _ _
    clear hok hp hC h1
    unfold Cfg.cells
    dsimp only
    go_enter Try.func8, Try.ntmps8
    go_wp2_with fail
    refine (iConfigOk_any ⟨(n : Int), c, xo, xn, hd, lo, dl⟩ _ true ⟨fun _ => HO.out, fun _ => rfl⟩).mono ?_
    rintro e w1 ⟨rfl, hb⟩
    have hB := next2 HB0.out hb
    have cb := (boxed2 hB).1
    have kz := (laid2 hB).2
    clear hb
    go_wp2_with fail
    refine wp_region_held_drew (S := fun w' => ∀ o, w'.cell? ⟨w.heap.size, o, none⟩ = (#[.int .i64 (n : Int), .int .i64 c, .int .i64 xo, .int .i64 xn, .int .i64 hd, .int .i64 lo, .int .i64 dl] : Array Value)[o]?) (by kernel_rfl) cb (fun hHeld => ?_)
    have kz : w1.drew.heap[w.heap.size + 1]? = _ := kz
    replace hB := hB.drew
    have cb : ∀ o, w1.drew.cell? ⟨w.heap.size, o, none⟩ = (#[.int .i64 (n : Int), .int .i64 c, .int .i64 xo, .int .i64 xn, .int .i64 hd, .int .i64 lo, .int .i64 dl] : Array Value)[o]? := cb
    generalize w1.drew = W at *
    refine takeD (i := 0) (some 8) (v := ?_) rfl rfl (by kernel_rfl) (by kernel_rfl) (by kernel_rfl) (fun _ _ _ h => h) (by kernel_rfl) ?_ (by assumption) ?_
    rotate_left
    · intro wx hSw
      try dsimp only at hSw
      go_simp
      try (with_reducible rfl)
    try simp only [Act.put, List.setIfInBounds_toArray, List.set_cons_zero, List.set_cons_succ]
    refine takeD (i := 1) (some 9) (v := ?_) rfl rfl (by kernel_rfl) (by kernel_rfl) (by kernel_rfl) (fun _ _ _ h => h) (by kernel_rfl) ?_ (by assumption) ?_
    rotate_left
    · intro wx hSw
      try dsimp only at hSw
      go_simp
      try (with_reducible rfl)
    try simp only [Act.put, List.setIfInBounds_toArray, List.set_cons_zero, List.set_cons_succ]
    refine takeD (i := 3) (some 11) (v := ?_) rfl rfl (by kernel_rfl) (by kernel_rfl) (by kernel_rfl) (fun _ _ _ h => h) (by kernel_rfl) ?_ (by assumption) ?_
    rotate_left
    · intro wx hSw
      try dsimp only at hSw
      go_simp
      try (with_reducible rfl)
    try simp only [Act.put, List.setIfInBounds_toArray, List.set_cons_zero, List.set_cons_succ]
    refine takeD (i := 4) (some 12) (v := ?_) rfl rfl (by kernel_rfl) (by kernel_rfl) (by kernel_rfl) (fun _ _ _ h => h) (by kernel_rfl) ?_ (by assumption) ?_
    rotate_left
    · intro wx hSw
      try dsimp only at hSw
      go_simp
      try (with_reducible rfl)
    try simp only [Act.put, List.setIfInBounds_toArray, List.set_cons_zero, List.set_cons_succ]
    refine wpAnyH_ready (rs := [2, 5]) (by kernel_rfl) (by simp) ?_
    refine AllReadyH.cons rfl (fun K hK => ?_) (AllReadyH.cons rfl (fun K hK => ?_) AllReadyH.nil)
    · have hA := (Below.refl W.heap.size W).alloc (Nat.le_refl _) (.cells (zInts n) 2)
      have hN := blk_new W (.cells (zInts n) 2)
      have hB2 := next2 hB hA
      have cb2 := (boxed2 hB2).1
      have kz2 := (hA.block _ (blk_lt kz)).trans kz
      have gUl : w.heap.size + 2 ≤ W.heap.size := upper2 hB
      have m := mk1 W
      go_simp
      clear m
      refine hK.out _ _ cb2 (fun hHeld => ?_)
      clear hK K
      try simp only [Act.put, List.setIfInBounds_toArray, List.set_cons_zero, List.set_cons_succ]
      have kU : (W.alloc (.cells (zInts n) 2)).heap[W.heap.size]? = _ := hN
      have gUr : W.heap.size < (W.alloc (.cells (zInts n) 2)).heap.size := blk_lt hN
      generalize hg1 : W.heap.size = gU at *
      generalize W.alloc (.cells (zInts n) 2) = W1 at *
      clear hB cb kz hA hN
      have hB := hB2
      have kz := kz2
      clear hB2 kz2 cb2
      refine wpAnyH_ready (rs := [5]) (by kernel_rfl) (by simp) ?_
      refine AllReadyH.cons rfl (fun K hK => ?_) AllReadyH.nil
      have hA := (Below.refl W1.heap.size W1).alloc (Nat.le_refl _) (.cells (zBools n) 4)
      have hN := blk_new W1 (.cells (zBools n) 4)
      have hB2 := next2 hB hA
      have cb2 := (boxed2 hB2).1
      have kz2 := (hA.block _ (blk_lt kz)).trans kz
      have kU2 := (hA.block _ (blk_lt kU)).trans kU
      have gPl : w.heap.size + 2 ≤ W1.heap.size := upper2 hB
      have m := mk2 W1
      go_simp
      clear m
      refine hK.out _ _ cb2 (fun hHeld => ?_)
      clear hK K
      try simp only [Act.put, List.setIfInBounds_toArray, List.set_cons_zero, List.set_cons_succ]
      have kP : (W1.alloc (.cells (zBools n) 4)).heap[W1.heap.size]? = _ := hN
      have gUn : gU ≠ W1.heap.size := by omega
      generalize hg2 : W1.heap.size = gP at *
      generalize W1.alloc (.cells (zBools n) 4) = W2 at *
      clear hB kz hA hN kU
      have hB := hB2
      have kz := kz2
      have kU := kU2
      clear hB2 kz2 kU2
      refine takeD (i := 6) (some 14) (v := ?_) rfl rfl (by kernel_rfl) (by kernel_rfl) (by kernel_rfl) (fun _ _ _ h => h) (by kernel_rfl) ?_ (by assumption) ?_
      rotate_left
      · intro wx hSw
        try dsimp only at hSw
        go_simp
        try (with_reducible rfl)
      try simp only [Act.put, List.setIfInBounds_toArray, List.set_cons_zero, List.set_cons_succ]
      have cz := blk_cell kz
      have fz := blk_free kz
      have ht := put3_touch W2 (w.heap.size + 1) (.slice (some ⟨gU, 0, none⟩) n n) (.int .i64 0) (.slice (some ⟨gP, 0, none⟩) n n)
      have kz3 := put3_blk kz (.slice (some ⟨gU, 0, none⟩) n n) (.int .i64 0) (.slice (some ⟨gP, 0, none⟩) n n)
      have cb3 := blk_cell ((ht.block w.heap.size (by have := upper2 hB; omega) (by simp)).trans (laid2 hB).1)
      refine wpAnyH_ready (rs := [7]) (by kernel_rfl) (by simp) ?_
      refine AllReadyH.cons rfl (fun K hK => ?_) AllReadyH.nil
      go_simp
      refine hK.out _ _ cb3 (fun hHeld => ?_)
      clear hK K
      try simp only [Act.put, List.setIfInBounds_toArray, List.set_cons_zero, List.set_cons_succ]
      refine wpAnyH_ready (rs := [8]) (by kernel_rfl) (by simp) ?_
      refine AllReadyH.cons rfl (fun K hK => ?_) AllReadyH.nil
      go_simp
      refine hK.out _ _ cb3 (fun hHeld => ?_)
      clear hK K
      try simp only [Act.put, List.setIfInBounds_toArray, List.set_cons_zero, List.set_cons_succ]
      refine wpAnyH_done (by kernel_rfl) ?_ _
      have rU := (zInts_row kU).keep (ht.block gU (blk_lt kU) (by simp; omega))
      have rP := (zBools_row kP).keep (ht.block gP (blk_lt kP) (by simp; omega))
      have B := (under2 hB).trans (ht.below (under2 hB).size (fun x hx => by simp at hx; omega))
      have cB := blk_cell kz3
      clear cz fz kU kP kz ht cb3
      unfold put3 at *
      go_wp2_with fail
      refine bodyPost_ret (v := .tuple #[.agg #[.slice (some ⟨gU, 0, none⟩) n n, .int .i64 0, .slice (some ⟨gP, 0, none⟩) n n], .bool true]) (by simp [results, Try.results8, go_sem, cB]) rfl ⟨⟨some ⟨gU, 0, none⟩, n, n, fun _ => 0, 0, some ⟨gP, 0, none⟩, n, n, fun _ => false⟩, rfl, ⟨VT.of (by omega) rU, VT.of (by omega) rP⟩, B, ⟨rfl, rfl, rfl, rfl, rfl⟩⟩
    · have hA := (Below.refl W.heap.size W).alloc (Nat.le_refl _) (.cells (zBools n) 4)
      have hN := blk_new W (.cells (zBools n) 4)
      have hB2 := next2 hB hA
      have cb2 := (boxed2 hB2).1
      have kz2 := (hA.block _ (blk_lt kz)).trans kz
      have gPl : w.heap.size + 2 ≤ W.heap.size := upper2 hB
      have m := mk2 W
      go_simp
      clear m
      refine hK.out _ _ cb2 (fun hHeld => ?_)
      clear hK K
      try simp only [Act.put, List.setIfInBounds_toArray, List.set_cons_zero, List.set_cons_succ]
      have kP : (W.alloc (.cells (zBools n) 4)).heap[W.heap.size]? = _ := hN
      have gPr : W.heap.size < (W.alloc (.cells (zBools n) 4)).heap.size := blk_lt hN
      generalize hg1 : W.heap.size = gP at *
      generalize W.alloc (.cells (zBools n) 4) = W1 at *
      clear hB cb kz hA hN
      have hB := hB2
      have kz := kz2
      clear hB2 kz2 cb2
      refine wpAnyH_ready (rs := [2]) (by kernel_rfl) (by simp) ?_
      refine AllReadyH.cons rfl (fun K hK => ?_) AllReadyH.nil
      have hA := (Below.refl W1.heap.size W1).alloc (Nat.le_refl _) (.cells (zInts n) 2)
      have hN := blk_new W1 (.cells (zInts n) 2)
      have hB2 := next2 hB hA
      have cb2 := (boxed2 hB2).1
      have kz2 := (hA.block _ (blk_lt kz)).trans kz
      have kP2 := (hA.block _ (blk_lt kP)).trans kP
      have gUl : w.heap.size + 2 ≤ W1.heap.size := upper2 hB
      have m := mk1 W1
      go_simp
      clear m
      refine hK.out _ _ cb2 (fun hHeld => ?_)
      clear hK K
      try simp only [Act.put, List.setIfInBounds_toArray, List.set_cons_zero, List.set_cons_succ]
      have kU : (W1.alloc (.cells (zInts n) 2)).heap[W1.heap.size]? = _ := hN
      have gPn : gP ≠ W1.heap.size := by omega
      generalize hg2 : W1.heap.size = gU at *
      generalize W1.alloc (.cells (zInts n) 2) = W2 at *
      clear hB kz hA hN kP
      have hB := hB2
      have kz := kz2
      have kP := kP2
      clear hB2 kz2 kP2
      refine takeD (i := 6) (some 14) (v := ?_) rfl rfl (by kernel_rfl) (by kernel_rfl) (by kernel_rfl) (fun _ _ _ h => h) (by kernel_rfl) ?_ (by assumption) ?_
      rotate_left
      · intro wx hSw
        try dsimp only at hSw
        go_simp
        try (with_reducible rfl)
      try simp only [Act.put, List.setIfInBounds_toArray, List.set_cons_zero, List.set_cons_succ]
      have cz := blk_cell kz
      have fz := blk_free kz
      have ht := put3_touch W2 (w.heap.size + 1) (.slice (some ⟨gU, 0, none⟩) n n) (.int .i64 0) (.slice (some ⟨gP, 0, none⟩) n n)
      have kz3 := put3_blk kz (.slice (some ⟨gU, 0, none⟩) n n) (.int .i64 0) (.slice (some ⟨gP, 0, none⟩) n n)
      have cb3 := blk_cell ((ht.block w.heap.size (by have := upper2 hB; omega) (by simp)).trans (laid2 hB).1)
      refine wpAnyH_ready (rs := [7]) (by kernel_rfl) (by simp) ?_
      refine AllReadyH.cons rfl (fun K hK => ?_) AllReadyH.nil
      go_simp
      refine hK.out _ _ cb3 (fun hHeld => ?_)
      clear hK K
      try simp only [Act.put, List.setIfInBounds_toArray, List.set_cons_zero, List.set_cons_succ]
      refine wpAnyH_ready (rs := [8]) (by kernel_rfl) (by simp) ?_
      refine AllReadyH.cons rfl (fun K hK => ?_) AllReadyH.nil
      go_simp
      refine hK.out _ _ cb3 (fun hHeld => ?_)
      clear hK K
      try simp only [Act.put, List.setIfInBounds_toArray, List.set_cons_zero, List.set_cons_succ]
      refine wpAnyH_done (by kernel_rfl) ?_ _
      have rU := (zInts_row kU).keep (ht.block gU (blk_lt kU) (by simp; omega))
      have rP := (zBools_row kP).keep (ht.block gP (blk_lt kP) (by simp; omega))
      have B := (under2 hB).trans (ht.below (under2 hB).size (fun x hx => by simp at hx; omega))
      have cB := blk_cell kz3
      clear cz fz kU kP kz ht cb3
      unfold put3 at *
      go_wp2_with fail
      refine bodyPost_ret (v := .tuple #[.agg #[.slice (some ⟨gU, 0, none⟩) n n, .int .i64 0, .slice (some ⟨gP, 0, none⟩) n n], .bool true]) (by simp [results, Try.results8, go_sem, cB]) rfl ⟨⟨some ⟨gU, 0, none⟩, n, n, fun _ => 0, 0, some ⟨gP, 0, none⟩, n, n, fun _ => false⟩, rfl, ⟨VT.of (by omega) rU, VT.of (by omega) rP⟩, B, ⟨rfl, rfl, rfl, rfl, rfl⟩⟩
end Go.Proofs.Ytaiodombphpcgaa
