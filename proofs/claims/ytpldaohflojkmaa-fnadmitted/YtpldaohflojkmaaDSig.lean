/- A configuration and counts, as DrawSignals draws them. -/
import Derived.Test.YtpldaohflojkmaaDCnt
namespace Go.Proofs.Ytpldaohflojkmaa
open Go.RowKit
set_option linter.unusedVariables false
set_option linter.unusedSimpArgs false

theorem CodeC.up {cv : Value} {len : Nat} {w w' : World} (h : Code w.heap.size cv len w) (hb : Below w.heap.size w w') : Code w'.heap.size cv len w' := by
  rcases h with h | ⟨b, off, cap, hv, hbl, hl, hc⟩
  · exact .inl h
  · refine .inr ⟨b, off, cap, hv, Nat.lt_of_lt_of_le hbl hb.size, hl, fun i hi => ?_⟩
    obtain ⟨z, hz, he⟩ := hc i hi
    exact ⟨z, hz, (hb.cell (p := ⟨b, off + i, none⟩) hbl).trans he⟩
theorem OwnCn.put7 {W : World} {base k : Nat} {N C} (h : OwnCn W base N) (hk : k < base) : OwnCn (put7 W k C) base N := by
  have ht : Touch [k] W (Go.Proofs.Ytpldaohflojkmaa.put7 W k C) := (((((((Touch.refl [k] W).set (by simp) 0 _).set (by simp) 1 _).set (by simp) 2 _).set (by simp) 3 _).set (by simp) 4 _).set (by simp) 5 _).set (by simp) 6 _
  exact h.touch ht (fun x hx => by have := List.mem_singleton.1 hx; omega)
theorem put7_touch (W : World) (k : Nat) (C : Cfg) : Touch [k] W (Go.Proofs.Ytpldaohflojkmaa.put7 W k C) := (((((((Touch.refl [k] W).set (by simp) 0 _).set (by simp) 1 _).set (by simp) 2 _).set (by simp) 3 _).set (by simp) 4 _).set (by simp) 5 _).set (by simp) 6 _
set_option maxRecDepth 100000 in
set_option maxHeartbeats 8000000 in
theorem drawSignals_any (cv : Value) (len : Nat) (w : World) (h : Code w.heap.size cv len w) (hs : ∃ a n c, cv = .slice a n c) :
    Calls Try.prog 13 #[cv] w fun e w' => ∃ (C : Cfg) (N : Cnt), e = .returned (.tuple #[.agg C.cells, .agg N.cells]) ∧ Few N ∧ RdCnt w' N ∧ Below w.heap.size w w' := by
  obtain ⟨a0, n0, c0, rfl⟩ := hs
  generalize hcv : Value.slice a0 n0 c0 = cv at *
  have hB0 : Below w.heap.size w ((w.alloc (.cells #[.int .i64 0, .int .i64 0, .int .i64 0, .int .i64 0, .int .i64 0, .int .i64 0, .int .i64 0] 25)).alloc (.cells #[.slice none 0 0, .int .i64 0, .slice none 0 0] 29)) := ((Below.refl _ _).alloc (Nat.le_refl _) _).alloc (by simp) _
  have hC0 := CodeC.up h hB0
  have hBB : Below (w.heap.size + 2) ((w.alloc (.cells #[.int .i64 0, .int .i64 0, .int .i64 0, .int .i64 0, .int .i64 0, .int .i64 0, .int .i64 0] 25)).alloc (.cells #[.slice none 0 0, .int .i64 0, .slice none 0 0] 29)) ((w.alloc (.cells #[.int .i64 0, .int .i64 0, .int .i64 0, .int .i64 0, .int .i64 0, .int .i64 0, .int .i64 0] 25)).alloc (.cells #[.slice none 0 0, .int .i64 0, .slice none 0 0] 29)) := Below.refl _ _
  have hz0 : ((w.alloc (.cells #[.int .i64 0, .int .i64 0, .int .i64 0, .int .i64 0, .int .i64 0, .int .i64 0, .int .i64 0] 25)).alloc (.cells #[.slice none 0 0, .int .i64 0, .slice none 0 0] 29)).heap.size = w.heap.size + 2 := by simp
  have HZ0 : Hid (((w.alloc (.cells #[.int .i64 0, .int .i64 0, .int .i64 0, .int .i64 0, .int .i64 0, .int .i64 0, .int .i64 0] 25)).alloc (.cells #[.slice none 0 0, .int .i64 0, .slice none 0 0] 29)).heap.size = w.heap.size + 2) := hz0
  clear h hB0 hz0
  go_enter Try.func13, Try.ntmps13
  go_wp2_with fail
  refine (open_any cv len _ hC0 ⟨a0, n0, c0, hcv.symm⟩).mono ?_
  rintro e w1 ⟨rfl, hR, hb⟩
  rw [HZ0.out] at hR
  have hB1 : Below (w.heap.size + 2) ((w.alloc (.cells #[.int .i64 0, .int .i64 0, .int .i64 0, .int .i64 0, .int .i64 0, .int .i64 0, .int .i64 0] 25)).alloc (.cells #[.slice none 0 0, .int .i64 0, .slice none 0 0] 29)) w1 := hb.mono (by rw [HZ0.out]; omega)
  obtain ⟨kA, kB⟩ := laid2 hB1
  have hBw := under2 hB1
  clear hb hC0 hBB hB1
  go_wp2_with fail
  obtain ⟨g0, hg0⟩ : ∃ g0, g0 = w.heap.size + 1 + 1 := ⟨_, rfl⟩
  have Hg0 : Hid (g0 = w.heap.size + 2) := hg0
  rw [show w.heap.size + 2 = g0 from hg0.symm] at hR
  rw [← hg0]
  clear hg0 HZ0
  refine (config_any g0 cv _ hR).mono ?_
  rintro e w2 ⟨C, rfl, hp1, hp2, hR2, hK2⟩
  have hg := Hg0.out
  replace kA := kblk hK2 kA (by omega)
  replace kB := kblk hK2 kB (by omega)
  have hB2 : Below w.heap.size w w2 := hBw.trans (hK2.below hBw.size (by omega))
  have hA := (Below.refl w2.heap.size w2).alloc (Nat.le_refl _) (.cells #[.int .i64 C.p, .int .i64 C.c, .int .i64 C.xo, .int .i64 C.xn, .int .i64 C.hd, .int .i64 C.lo, .int .i64 C.dl] 25)
  have kC := blk_new w2 (.cells #[.int .i64 C.p, .int .i64 C.c, .int .i64 C.xo, .int .i64 C.xn, .int .i64 C.hd, .int .i64 C.lo, .int .i64 C.dl] 25)
  have hR3 := hR2.below hA
  replace kA := (hA.block _ (blk_lt kA)).trans kA
  replace kB := (hA.block _ (blk_lt kB)).trans kB
  have hB3 : Below w.heap.size w (w2.alloc (.cells #[.int .i64 C.p, .int .i64 C.c, .int .i64 C.xo, .int .i64 C.xn, .int .i64 C.hd, .int .i64 C.lo, .int .i64 C.dl] 25)) := hB2.trans (hA.mono hB2.size)
  have hgl := hR2.lt
  have Hgl : Hid (g0 < w2.heap.size) := hgl
  clear hR hK2 hR2 hA hBw hB2 hg hgl
  have hR := hR3
  clear hR3
  unfold Cfg.cells
  go_wp2_with fail
  generalize w2.alloc (.cells #[.int .i64 C.p, .int .i64 C.c, .int .i64 C.xo, .int .i64 C.xn, .int .i64 C.hd, .int .i64 C.lo, .int .i64 C.dl] 25) = w3 at *
  refine wp_region_held_drew (S := fun w' => ∀ o, w'.cell? ⟨w2.heap.size, o, none⟩ = (#[.int .i64 C.p, .int .i64 C.c, .int .i64 C.xo, .int .i64 C.xn, .int .i64 C.hd, .int .i64 C.lo, .int .i64 C.dl] : Array Value)[o]?) (by kernel_rfl) (blk_cell kC) (fun hHeld => ?_)
  refine takeD (i := 0) (some 10) (v := ?_) rfl rfl (by kernel_rfl) (by kernel_rfl) (by kernel_rfl) (fun _ _ _ h => h) (by kernel_rfl) ?_ (by assumption) ?_
  rotate_left
  · intro wx hSw
    try dsimp only at hSw
    go_simp
    try (with_reducible rfl)
  try simp only [Act.put, List.setIfInBounds_toArray, List.set_cons_zero, List.set_cons_succ]
  refine takeD (i := 1) (some 11) (v := ?_) rfl rfl (by kernel_rfl) (by kernel_rfl) (by kernel_rfl) (fun _ _ _ h => h) (by kernel_rfl) ?_ (by assumption) ?_
  rotate_left
  · intro wx hSw
    try dsimp only at hSw
    go_simp
    try (with_reducible rfl)
  try simp only [Act.put, List.setIfInBounds_toArray, List.set_cons_zero, List.set_cons_succ]
  refine takeD (i := 2) (some 12) (v := ?_) rfl rfl (by kernel_rfl) (by kernel_rfl) (by kernel_rfl) (fun _ _ _ h => h) (by kernel_rfl) ?_ (by assumption) ?_
  rotate_left
  · intro wx hSw
    try dsimp only at hSw
    go_simp
    try (with_reducible rfl)
  try simp only [Act.put, List.setIfInBounds_toArray, List.set_cons_zero, List.set_cons_succ]
  refine wpAnyH_ready (rs := [3]) (by kernel_rfl) (by simp) ?_
  refine AllReadyH.cons rfl (fun K hK => ?_) AllReadyH.nil
  go_simp
  replace hR := hR.drewC
  have kCd : w3.drew.heap[w2.heap.size]? = some (.cells #[.int .i64 C.p, .int .i64 C.c, .int .i64 C.xo, .int .i64 C.xn, .int .i64 C.hd, .int .i64 C.lo, .int .i64 C.dl] 25 (0, 0)) := kC
  refine (counts_any g0 cv C _ hR hp1 hp2).mono ?_
  rintro e w4 ⟨N, rfl, hfw, hN, hR4, hK4⟩
  have hg := Hg0.out
  have hgl := Hgl.out
  have kC4 := kblk hK4 kCd (by omega)
  have kA4 := kblk hK4 (show w3.drew.heap[w.heap.size]? = some (.cells #[.int .i64 0, .int .i64 0, .int .i64 0, .int .i64 0, .int .i64 0, .int .i64 0, .int .i64 0] 25 (0, 0)) from kA) (by omega)
  have kB4 := kblk hK4 (show w3.drew.heap[w.heap.size + 1]? = some (.cells #[.slice none 0 0, .int .i64 0, .slice none 0 0] 29 (0, 0)) from kB) (by omega)
  have hB4 : Below w.heap.size w w4 := hB3.drew.trans (hK4.below hB3.size (by omega))
  have s := blk_cell kC4
  have cA := blk_cell kA4
  have fA := blk_free kA4
  have ht5 := put7_touch w4 w.heap.size C
  have kB5 := (ht5.block _ (blk_lt kB4) (fun hx => by have := List.mem_singleton.1 hx; omega)).trans kB4
  have kC5 := (ht5.block _ (blk_lt kC4) (fun hx => by have := List.mem_singleton.1 hx; omega)).trans kC4
  have kA5 := put7_blk kA4 C
  have hl9 : w.heap.size + 1 + 1 ≤ w3.heap.size := by have := blk_lt kC; omega
  have hN5 : OwnCn (put7 w4 w.heap.size C) w3.heap.size N := OwnCn.put7 (base := w3.heap.size) hN (by omega)
  have hB5 : Below w.heap.size w (put7 w4 w.heap.size C) := hB4.trans (ht5.below hB4.size (fun x hx => by have := List.mem_singleton.1 hx; omega))
  have s5 := blk_cell kC5
  have cB5 := blk_cell kB5
  have fB5 := blk_free kB5
  have ht6 := put3_touch (put7 w4 w.heap.size C) (w.heap.size + 1) (.slice N.aU N.nU N.cU) (.int .i64 N.lo) (.slice N.aP N.nP N.cP)
  have kA6 := (ht6.block _ (blk_lt kA5) (fun hx => by have := List.mem_singleton.1 hx; omega)).trans kA5
  have kC6 := (ht6.block _ (blk_lt kC5) (fun hx => by have := List.mem_singleton.1 hx; omega)).trans kC5
  have kB6 := put3_blk kB5 (.slice N.aU N.nU N.cU) (.int .i64 N.lo) (.slice N.aP N.nP N.cP)
  have HN6 : Hid (OwnCn (put3 (put7 w4 w.heap.size C) (w.heap.size + 1) (.slice N.aU N.nU N.cU) (.int .i64 N.lo) (.slice N.aP N.nP N.cP)) w.heap.size N) := (touch3 hN5 kB5).mono (by omega)
  have HB6 : Hid (Below w.heap.size w (put3 (put7 w4 w.heap.size C) (w.heap.size + 1) (.slice N.aU N.nU N.cU) (.int .i64 N.lo) (.slice N.aP N.nP N.cP))) := hB5.trans (ht6.below hB5.size (fun x hx => by have := List.mem_singleton.1 hx; omega))
  have s6 := blk_cell kC6
  have cA6 := blk_cell kA6
  have cB6 := blk_cell kB6
  clear hg hgl hl9 hR4 hK4 kC4 kA4 kB4 hB4 ht5 kB5 kC5 kA5 hN5 hB5 ht6 kA6 kC6 kB6 hN
  unfold put3 put7 at *
  dsimp only [Cnt.cells]
  go_wp2_with fail
  refine hK.out _ _ s (fun hHeld => ?_)
  clear hK K
  try simp only [Act.put, List.setIfInBounds_toArray, List.set_cons_zero, List.set_cons_succ]
  refine wpAnyH_ready (rs := [4]) (by kernel_rfl) (by simp) ?_
  refine AllReadyH.cons rfl (fun K hK => ?_) AllReadyH.nil
  go_simp
  refine hK.out _ _ s5 (fun hHeld => ?_)
  clear hK K
  try simp only [Act.put, List.setIfInBounds_toArray, List.set_cons_zero, List.set_cons_succ]
  refine wpAnyH_ready (rs := [5]) (by kernel_rfl) (by simp) ?_
  refine AllReadyH.cons rfl (fun K hK => ?_) AllReadyH.nil
  go_simp
  refine hK.out _ _ s6 (fun hHeld => ?_)
  clear hK K
  try simp only [Act.put, List.setIfInBounds_toArray, List.set_cons_zero, List.set_cons_succ]
  refine wpAnyH_done (by kernel_rfl) ?_ _
  clear hHeld s s5 s6 cA fA cB5 fB5
  go_wp2_with fail
  refine bodyPost_ret (v := .tuple #[.agg #[.int .i64 C.p, .int .i64 C.c, .int .i64 C.xo, .int .i64 C.xn, .int .i64 C.hd, .int .i64 C.lo, .int .i64 C.dl], .agg #[.slice N.aU N.nU N.cU, .int .i64 N.lo, .slice N.aP N.nP N.cP]]) (by simp [results, Try.results13, go_sem, cA6, cB6, Cfg.cells]) rfl ?_
  exact ⟨C, N, rfl, hfw, HN6.out.rd, HB6.out⟩
end Go.Proofs.Ytpldaohflojkmaa
