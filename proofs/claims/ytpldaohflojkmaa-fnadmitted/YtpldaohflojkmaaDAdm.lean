/- A configuration, counts and what is to be admitted, as DrawAdmitted draws them. -/
import Derived.Test.YtpldaohflojkmaaDSig
namespace Go.Proofs.Ytpldaohflojkmaa
open Go.RowKit
set_option linter.unusedVariables false
set_option linter.unusedSimpArgs false

structure DS (w W : World) (g : Nat) (cv : Value) (C : Cfg) (N : Cnt) (gC gN : Nat) : Prop where
  rd : Rd g cv W
  kA : W.heap[w.heap.size]? = some (.cells #[.int .i64 0, .int .i64 0, .int .i64 0, .int .i64 0, .int .i64 0, .int .i64 0, .int .i64 0] 25 (0, 0))
  kB : W.heap[w.heap.size + 1]? = some (.cells #[.slice none 0 0, .int .i64 0, .slice none 0 0] 29 (0, 0))
  kC : W.heap[gC]? = some (.cells #[.int .i64 C.p, .int .i64 C.c, .int .i64 C.xo, .int .i64 C.xn, .int .i64 C.hd, .int .i64 C.lo, .int .i64 C.dl] 25 (0, 0))
  kN : W.heap[gN]? = some (.cells #[.slice N.aU N.nU N.cU, .int .i64 N.lo, .slice N.aP N.nP N.cP] 29 (0, 0))
  o : OwnCn W (w.heap.size + 3) N
  b : Below w.heap.size w W
  hg : g = w.heap.size + 2
  lC : w.heap.size + 3 ≤ gC
  lN : w.heap.size + 3 ≤ gN
theorem DS.kept {w W W' : World} {g : Nat} {cv : Value} {C : Cfg} {N : Cnt} {gC gN : Nat} (h : DS w W g cv C N gC gN) (hR : Rd g cv W') (hK : Kept g W W') : DS w W' g cv C N gC gN := by
  have h1 := h.hg
  have h2 := h.lC
  have h3 := h.lN
  exact ⟨hR, kblk hK h.kA (by omega), kblk hK h.kB (by omega), kblk hK h.kC (by omega), kblk hK h.kN (by omega), h.o.kept hK (by omega), h.b.trans (hK.below h.b.size (by omega)), h1, h2, h3⟩
theorem DS.ss {w W : World} {g : Nat} {cv : Value} {C : Cfg} {N : Cnt} {gC gN : Nat} (h : DS w W g cv C N gC gN) : (∀ o, W.cell? ⟨gC, o, none⟩ = (#[.int .i64 C.p, .int .i64 C.c, .int .i64 C.xo, .int .i64 C.xn, .int .i64 C.hd, .int .i64 C.lo, .int .i64 C.dl] : Array Value)[o]?) ∧ (∀ o, W.cell? ⟨gN, o, none⟩ = (#[.slice N.aU N.nU N.cU, .int .i64 N.lo, .slice N.aP N.nP N.cP] : Array Value)[o]?) := ⟨blk_cell h.kC, blk_cell h.kN⟩
theorem DS.fin {w W : World} {g : Nat} {cv : Value} {C : Cfg} {N : Cnt} {gC gN : Nat} (h : DS w W g cv C N gC gN) :
    ((∀ o, (put7 W w.heap.size C).cell? ⟨gC, o, none⟩ = (#[.int .i64 C.p, .int .i64 C.c, .int .i64 C.xo, .int .i64 C.xn, .int .i64 C.hd, .int .i64 C.lo, .int .i64 C.dl] : Array Value)[o]?) ∧ (∀ o, (put7 W w.heap.size C).cell? ⟨gN, o, none⟩ = (#[.slice N.aU N.nU N.cU, .int .i64 N.lo, .slice N.aP N.nP N.cP] : Array Value)[o]?)) ∧ (put7 W w.heap.size C).heap[w.heap.size + 1]? = some (.cells #[.slice none 0 0, .int .i64 0, .slice none 0 0] 29 (0, 0)) ∧
    ((∀ o, (put3 (put7 W w.heap.size C) (w.heap.size + 1) (.slice N.aU N.nU N.cU) (.int .i64 N.lo) (.slice N.aP N.nP N.cP)).cell? ⟨gC, o, none⟩ = (#[.int .i64 C.p, .int .i64 C.c, .int .i64 C.xo, .int .i64 C.xn, .int .i64 C.hd, .int .i64 C.lo, .int .i64 C.dl] : Array Value)[o]?) ∧ (∀ o, (put3 (put7 W w.heap.size C) (w.heap.size + 1) (.slice N.aU N.nU N.cU) (.int .i64 N.lo) (.slice N.aP N.nP N.cP)).cell? ⟨gN, o, none⟩ = (#[.slice N.aU N.nU N.cU, .int .i64 N.lo, .slice N.aP N.nP N.cP] : Array Value)[o]?)) ∧ RdCnt (put3 (put7 W w.heap.size C) (w.heap.size + 1) (.slice N.aU N.nU N.cU) (.int .i64 N.lo) (.slice N.aP N.nP N.cP)) N ∧ Below w.heap.size w (put3 (put7 W w.heap.size C) (w.heap.size + 1) (.slice N.aU N.nU N.cU) (.int .i64 N.lo) (.slice N.aP N.nP N.cP)) ∧ (∀ o, (put3 (put7 W w.heap.size C) (w.heap.size + 1) (.slice N.aU N.nU N.cU) (.int .i64 N.lo) (.slice N.aP N.nP N.cP)).cell? ⟨w.heap.size, o, none⟩ = (#[.int .i64 C.p, .int .i64 C.c, .int .i64 C.xo, .int .i64 C.xn, .int .i64 C.hd, .int .i64 C.lo, .int .i64 C.dl] : Array Value)[o]?) ∧ (∀ o, (put3 (put7 W w.heap.size C) (w.heap.size + 1) (.slice N.aU N.nU N.cU) (.int .i64 N.lo) (.slice N.aP N.nP N.cP)).cell? ⟨w.heap.size + 1, o, none⟩ = (#[.slice N.aU N.nU N.cU, .int .i64 N.lo, .slice N.aP N.nP N.cP] : Array Value)[o]?) := by
  have h2 := h.lC
  have h3 := h.lN
  have ht5 := put7_touch W w.heap.size C
  have kB5 := (ht5.block _ (blk_lt h.kB) (fun hx => by have := List.mem_singleton.1 hx; omega)).trans h.kB
  have kC5 := (ht5.block _ (blk_lt h.kC) (fun hx => by have := List.mem_singleton.1 hx; omega)).trans h.kC
  have kN5 := (ht5.block _ (blk_lt h.kN) (fun hx => by have := List.mem_singleton.1 hx; omega)).trans h.kN
  have kA5 := put7_blk h.kA C
  have hN5 : OwnCn (put7 W w.heap.size C) (w.heap.size + 3) N := OwnCn.put7 h.o (by omega)
  have hB5 : Below w.heap.size w (put7 W w.heap.size C) := h.b.trans (ht5.below h.b.size (fun x hx => by have := List.mem_singleton.1 hx; omega))
  have ht6 := put3_touch (put7 W w.heap.size C) (w.heap.size + 1) (.slice N.aU N.nU N.cU) (.int .i64 N.lo) (.slice N.aP N.nP N.cP)
  have kA6 := (ht6.block _ (blk_lt kA5) (fun hx => by have := List.mem_singleton.1 hx; omega)).trans kA5
  have kC6 := (ht6.block _ (blk_lt kC5) (fun hx => by have := List.mem_singleton.1 hx; omega)).trans kC5
  have kN6 := (ht6.block _ (blk_lt kN5) (fun hx => by have := List.mem_singleton.1 hx; omega)).trans kN5
  have kB6 := put3_blk kB5 (.slice N.aU N.nU N.cU) (.int .i64 N.lo) (.slice N.aP N.nP N.cP)
  exact ⟨⟨blk_cell kC5, blk_cell kN5⟩, kB5, ⟨blk_cell kC6, blk_cell kN6⟩, (touch3 hN5 kB5).rd, hB5.trans (ht6.below hB5.size (fun x hx => by have := List.mem_singleton.1 hx; omega)), blk_cell kA6, blk_cell kB6⟩
set_option maxRecDepth 100000 in
set_option maxHeartbeats 8000000 in
theorem drawAdmitted_any (cv : Value) (len : Nat) (w : World) (h : Code w.heap.size cv len w) (hs : ∃ a n c, cv = .slice a n c) :
    Calls Try.prog 6 #[cv] w fun e w' => ∃ (C : Cfg) (N : Cnt) (port prio cs : Int), e = .returned (.tuple #[.agg C.cells, .agg N.cells, .int .i64 port, .int .i64 prio, .int .i64 cs]) ∧ Few N ∧ RdCnt w' N ∧ Below w.heap.size w w' := by
  obtain ⟨a0, n0, c0, rfl⟩ := hs
  generalize hcv : Value.slice a0 n0 c0 = cv at *
  have hB0 : Below w.heap.size w ((w.alloc (.cells #[.int .i64 0, .int .i64 0, .int .i64 0, .int .i64 0, .int .i64 0, .int .i64 0, .int .i64 0] 25)).alloc (.cells #[.slice none 0 0, .int .i64 0, .slice none 0 0] 29)) := ((Below.refl _ _).alloc (Nat.le_refl _) _).alloc (by simp) _
  have hC0 := CodeC.up h hB0
  have HZ0 : Hid (((w.alloc (.cells #[.int .i64 0, .int .i64 0, .int .i64 0, .int .i64 0, .int .i64 0, .int .i64 0, .int .i64 0] 25)).alloc (.cells #[.slice none 0 0, .int .i64 0, .slice none 0 0] 29)).heap.size = w.heap.size + 2) := by rw [Hid]; simp
  clear h hB0
  go_enter Try.func6, Try.ntmps6
  go_wp2_with fail
  refine (open_any cv len _ hC0 ⟨a0, n0, c0, hcv.symm⟩).mono ?_
  rintro e w1 ⟨rfl, hR, hb⟩
  rw [HZ0.out] at hR
  have hB1 : Below (w.heap.size + 2) ((w.alloc (.cells #[.int .i64 0, .int .i64 0, .int .i64 0, .int .i64 0, .int .i64 0, .int .i64 0, .int .i64 0] 25)).alloc (.cells #[.slice none 0 0, .int .i64 0, .slice none 0 0] 29)) w1 := hb.mono (by rw [HZ0.out]; omega)
  obtain ⟨kA, kB⟩ := laid2 hB1
  have hBw := under2 hB1
  clear hb hC0 hB1
  go_wp2_with fail
  obtain ⟨g0, hg0⟩ : ∃ g0, g0 = w.heap.size + 1 + 1 := ⟨_, rfl⟩
  have Hg0 : Hid (g0 = w.heap.size + 2) := hg0
  rw [show w.heap.size + 2 = g0 from hg0.symm] at hR
  rw [← hg0]
  clear hg0 HZ0
  refine (config_any g0 cv _ hR).mono ?_
  rintro e w2 ⟨C, rfl, hp1, hp2, hR2, hK2⟩
  have hg := Hg0.out
  replace kA := kblk hK2 kA (by omega)
  replace kB := kblk hK2 kB (by omega)
  have hB2 : Below w.heap.size w w2 := hBw.trans (hK2.below hBw.size (by omega))
  have hA := (Below.refl w2.heap.size w2).alloc (Nat.le_refl _) (.cells #[.int .i64 C.p, .int .i64 C.c, .int .i64 C.xo, .int .i64 C.xn, .int .i64 C.hd, .int .i64 C.lo, .int .i64 C.dl] 25)
  have kC := blk_new w2 (.cells #[.int .i64 C.p, .int .i64 C.c, .int .i64 C.xo, .int .i64 C.xn, .int .i64 C.hd, .int .i64 C.lo, .int .i64 C.dl] 25)
  have hR3 := hR2.below hA
  replace kA := (hA.block _ (blk_lt kA)).trans kA
  replace kB := (hA.block _ (blk_lt kB)).trans kB
  have hB3 : Below w.heap.size w (w2.alloc (.cells #[.int .i64 C.p, .int .i64 C.c, .int .i64 C.xo, .int .i64 C.xn, .int .i64 C.hd, .int .i64 C.lo, .int .i64 C.dl] 25)) := hB2.trans (hA.mono hB2.size)
  have HlC : Hid (w.heap.size + 3 ≤ w2.heap.size) := by show w.heap.size + 3 ≤ w2.heap.size; have := hR2.lt; omega
  clear hR hK2 hR2 hA hBw hB2 hg
  unfold Cfg.cells
  have cC := blk_cell kC
  go_wp2_with fail
  generalize w2.heap.size = gC at *
  generalize w2.alloc (.cells #[.int .i64 C.p, .int .i64 C.c, .int .i64 C.xo, .int .i64 C.xn, .int .i64 C.hd, .int .i64 C.lo, .int .i64 C.dl] 25) = w3 at *
  clear cC
  refine (counts_any g0 cv C _ hR3 hp1 hp2).mono ?_
  rintro e w4 ⟨N, rfl, hfw, hN, hR4, hK4⟩
  have hA := (Below.refl w4.heap.size w4).alloc (Nat.le_refl _) (.cells #[.slice N.aU N.nU N.cU, .int .i64 N.lo, .slice N.aP N.nP N.cP] 29)
  have kN := blk_new w4 (.cells #[.slice N.aU N.nU N.cU, .int .i64 N.lo, .slice N.aP N.nP N.cP] 29)
  have hD : DS w (w4.alloc (.cells #[.slice N.aU N.nU N.cU, .int .i64 N.lo, .slice N.aP N.nP N.cP] 29)) g0 cv C N gC w4.heap.size := by
    have hg := Hg0.out
    have hl := HlC.out
    have hl3 : w.heap.size + 3 ≤ w3.heap.size := by have := blk_lt kC; omega
    have hB4 : Below w.heap.size w w4 := hB3.trans (hK4.below hB3.size (by omega))
    exact ⟨hR4.below hA, (hA.block _ (by have := hK4.size; omega)).trans (kblk hK4 kA (by omega)), (hA.block _ (by have := hK4.size; omega)).trans (kblk hK4 kB (by omega)), (hA.block _ (by have := hK4.size; have := blk_lt kC; omega)).trans (kblk hK4 kC (by omega)), kN, (hN.mono hl3).up hA, hB4.trans (hA.mono hB4.size), hg, hl, by have := hK4.size; omega⟩
  clear kA kB kC hB3 hR3 hN hR4 hK4 hA kN
  dsimp only [Cnt.cells]
  go_wp2_with fail
  generalize w4.heap.size = gN at *
  generalize w4.alloc (.cells #[.slice N.aU N.nU N.cU, .int .i64 N.lo, .slice N.aP N.nP N.cP] 29) = w5 at *
  refine (once_any g0 cv 8 _ hD.rd (by omega) (by omega)).mono ?_
  rintro e W ⟨b8, rfl, hR1, hJ1⟩
  replace hD := hD.kept hR1 hJ1
  clear hR1 hJ1
  cases b8
  · have s := hD.ss
    go_wp2_with fail
    refine wp_region_held_drew (S := fun w' => (∀ o, w'.cell? ⟨gC, o, none⟩ = (#[.int .i64 C.p, .int .i64 C.c, .int .i64 C.xo, .int .i64 C.xn, .int .i64 C.hd, .int .i64 C.lo, .int .i64 C.dl] : Array Value)[o]?) ∧ (∀ o, w'.cell? ⟨gN, o, none⟩ = (#[.slice N.aU N.nU N.cU, .int .i64 N.lo, .slice N.aP N.nP N.cP] : Array Value)[o]?)) (by kernel_rfl) s (fun hHeld => ?_)
    refine takeD (i := 0) (some 27) (v := ?_) rfl rfl (by kernel_rfl) (by kernel_rfl) (by kernel_rfl) (fun _ _ _ h => h) (by kernel_rfl) ?_ (by assumption) ?_
    rotate_left
    · intro wx hSw
      obtain ⟨hS1, hS2⟩ := hSw
      go_simp
      try (with_reducible rfl)
    try simp only [Act.put, List.setIfInBounds_toArray, List.set_cons_zero, List.set_cons_succ]
    refine takeD (i := 1) (some 28) (v := ?_) rfl rfl (by kernel_rfl) (by kernel_rfl) (by kernel_rfl) (fun _ _ _ h => h) (by kernel_rfl) ?_ (by assumption) ?_
    rotate_left
    · intro wx hSw
      obtain ⟨hS1, hS2⟩ := hSw
      go_simp
      try (with_reducible rfl)
    try simp only [Act.put, List.setIfInBounds_toArray, List.set_cons_zero, List.set_cons_succ]
    refine takeD (i := 2) (some 29) (v := ?_) rfl rfl (by kernel_rfl) (by kernel_rfl) (by kernel_rfl) (fun _ _ _ h => h) (by kernel_rfl) ?_ (by assumption) ?_
    rotate_left
    · intro wx hSw
      obtain ⟨hS1, hS2⟩ := hSw
      go_simp
      try (with_reducible rfl)
    try simp only [Act.put, List.setIfInBounds_toArray, List.set_cons_zero, List.set_cons_succ]
    refine takeD (i := 4) (some 31) (v := ?_) rfl rfl (by kernel_rfl) (by kernel_rfl) (by kernel_rfl) (fun _ _ _ h => h) (by kernel_rfl) ?_ (by assumption) ?_
    rotate_left
    · intro wx hSw
      obtain ⟨hS1, hS2⟩ := hSw
      go_simp
      try (with_reducible rfl)
    try simp only [Act.put, List.setIfInBounds_toArray, List.set_cons_zero, List.set_cons_succ]
    refine takeD (i := 6) (some 33) (v := ?_) rfl rfl (by kernel_rfl) (by kernel_rfl) (by kernel_rfl) (fun _ _ _ h => h) (by kernel_rfl) ?_ (by assumption) ?_
    rotate_left
    · intro wx hSw
      obtain ⟨hS1, hS2⟩ := hSw
      go_simp
      try (with_reducible rfl)
    try simp only [Act.put, List.setIfInBounds_toArray, List.set_cons_zero, List.set_cons_succ]
    refine wpAnyH_ready (rs := [3]) (by kernel_rfl) (by simp) ?_
    refine AllReadyH.cons rfl (fun K hK => ?_) AllReadyH.nil
    go_simp
    replace hD := hD.kept hD.rd.drewC ((Kept.refl g0 W).drewC)
    replace s := hD.ss
    obtain ⟨Wd, hWd⟩ : ∃ Wd, Wd = W.drew := ⟨_, rfl⟩
    rw [← hWd] at hD s ⊢
    refine (below_any g0 cv 2 _ hD.rd (by omega) (by omega)).mono ?_
    rintro e Wx1 ⟨x1, hx1, rfl, hR1, hJ1⟩
    replace hD := hD.kept hR1 hJ1
    replace s := hD.ss
    clear hR1 hJ1
    go_wp2_with fail
    refine hK.out _ _ s (fun hHeld => ?_)
    clear hK K
    try simp only [Act.put, List.setIfInBounds_toArray, List.set_cons_zero, List.set_cons_succ]
    refine wpAnyH_ready (rs := [5]) (by kernel_rfl) (by simp) ?_
    refine AllReadyH.cons rfl (fun K hK => ?_) AllReadyH.nil
    go_simp
    refine (below_any g0 cv 3 _ hD.rd (by omega) (by omega)).mono ?_
    rintro e Wx2 ⟨x2, hx2, rfl, hR1, hJ1⟩
    replace hD := hD.kept hR1 hJ1
    replace s := hD.ss
    clear hR1 hJ1
    go_wp2_with fail
    refine hK.out _ _ s (fun hHeld => ?_)
    clear hK K
    try simp only [Act.put, List.setIfInBounds_toArray, List.set_cons_zero, List.set_cons_succ]
    refine wpAnyH_ready (rs := [7]) (by kernel_rfl) (by simp) ?_
    refine AllReadyH.cons rfl (fun K hK => ?_) AllReadyH.nil
    go_simp
    refine (below_any g0 cv 5 _ hD.rd (by omega) (by omega)).mono ?_
    rintro e Wx3 ⟨x3, hx3, rfl, hR1, hJ1⟩
    have e_x3 : IntKind.i64.wrap (1 + (x3 : Int)) = 1 + (x3 : Int) := wrapC _ (by omega) (by omega)
    replace hD := hD.kept hR1 hJ1
    replace s := hD.ss
    clear hR1 hJ1
    go_wp2_with fail
    obtain ⟨s5, kB5, s6, f1, f2, cA6, cB6⟩ := hD.fin
    have cA := blk_cell hD.kA
    have fA := blk_free hD.kA
    have cB5 := blk_cell kB5
    have fB5 := blk_free kB5
    have HF1 : Hid (RdCnt (put3 (put7 Wx3 w.heap.size C) (w.heap.size + 1) (.slice N.aU N.nU N.cU) (.int .i64 N.lo) (.slice N.aP N.nP N.cP)) N) := f1
    have HF2 : Hid (Below w.heap.size w (put3 (put7 Wx3 w.heap.size C) (w.heap.size + 1) (.slice N.aU N.nU N.cU) (.int .i64 N.lo) (.slice N.aP N.nP N.cP))) := f2
    clear f1 f2 kB5 hD
    unfold put7 at s5 cB5 fB5
    unfold put3 put7 at s6 cA6 cB6
    refine hK.out _ _ s (fun hHeld => ?_)
    clear hK K
    try simp only [Act.put, List.setIfInBounds_toArray, List.set_cons_zero, List.set_cons_succ]
    refine takeD (i := 8) (some 35) (v := ?_) rfl rfl (by kernel_rfl) (by kernel_rfl) (by kernel_rfl) (fun _ _ _ h => h) (by kernel_rfl) ?_ (by assumption) ?_
    rotate_left
    · intro wx hSw
      obtain ⟨hS1, hS2⟩ := hSw
      go_simp
      try (with_reducible rfl)
    try simp only [Act.put, List.setIfInBounds_toArray, List.set_cons_zero, List.set_cons_succ]
    refine wpAnyH_ready (rs := [9]) (by kernel_rfl) (by simp) ?_
    refine AllReadyH.cons rfl (fun K hK => ?_) AllReadyH.nil
    go_simp
    refine hK.out _ _ s5 (fun hHeld => ?_)
    clear hK K
    try simp only [Act.put, List.setIfInBounds_toArray, List.set_cons_zero, List.set_cons_succ]
    refine wpAnyH_ready (rs := [10]) (by kernel_rfl) (by simp) ?_
    refine AllReadyH.cons rfl (fun K hK => ?_) AllReadyH.nil
    go_simp
    refine hK.out _ _ s6 (fun hHeld => ?_)
    clear hK K
    try simp only [Act.put, List.setIfInBounds_toArray, List.set_cons_zero, List.set_cons_succ]
    refine wpAnyH_ready (rs := [11]) (by kernel_rfl) (by simp) ?_
    refine AllReadyH.cons rfl (fun K hK => ?_) AllReadyH.nil
    go_simp
    refine hK.out _ _ s6 (fun hHeld => ?_)
    clear hK K
    try simp only [Act.put, List.setIfInBounds_toArray, List.set_cons_zero, List.set_cons_succ]
    refine wpAnyH_ready (rs := [12]) (by kernel_rfl) (by simp) ?_
    refine AllReadyH.cons rfl (fun K hK => ?_) AllReadyH.nil
    go_simp
    refine hK.out _ _ s6 (fun hHeld => ?_)
    clear hK K
    try simp only [Act.put, List.setIfInBounds_toArray, List.set_cons_zero, List.set_cons_succ]
    refine wpAnyH_ready (rs := [13]) (by kernel_rfl) (by simp) ?_
    refine AllReadyH.cons rfl (fun K hK => ?_) AllReadyH.nil
    go_simp
    refine hK.out _ _ s6 (fun hHeld => ?_)
    clear hK K
    try simp only [Act.put, List.setIfInBounds_toArray, List.set_cons_zero, List.set_cons_succ]
    refine wpAnyH_done (by kernel_rfl) ?_ _
    clear hHeld s s5 s6 cA fA cB5 fB5
    go_wp2_with fail
    refine bodyPost_ret (v := .tuple #[.agg #[.int .i64 C.p, .int .i64 C.c, .int .i64 C.xo, .int .i64 C.xn, .int .i64 C.hd, .int .i64 C.lo, .int .i64 C.dl], .agg #[.slice N.aU N.nU N.cU, .int .i64 N.lo, .slice N.aP N.nP N.cP], .int .i64 (x1 : Int), .int .i64 (x2 : Int), .int .i64 (1 + (x3 : Int))]) (by simp [results, Try.results6, go_sem, cA6, cB6, Cfg.cells]) rfl ?_
    exact ⟨C, N, (x1 : Int), (x2 : Int), (1 + (x3 : Int)), rfl, hfw, HF1.out, HF2.out⟩
  · have s := hD.ss
    go_wp2_with fail
    refine wp_region_held_drew (S := fun w' => (∀ o, w'.cell? ⟨gC, o, none⟩ = (#[.int .i64 C.p, .int .i64 C.c, .int .i64 C.xo, .int .i64 C.xn, .int .i64 C.hd, .int .i64 C.lo, .int .i64 C.dl] : Array Value)[o]?) ∧ (∀ o, w'.cell? ⟨gN, o, none⟩ = (#[.slice N.aU N.nU N.cU, .int .i64 N.lo, .slice N.aP N.nP N.cP] : Array Value)[o]?)) (by kernel_rfl) s (fun hHeld => ?_)
    refine takeD (i := 0) (some 19) (v := ?_) rfl rfl (by kernel_rfl) (by kernel_rfl) (by kernel_rfl) (fun _ _ _ h => h) (by kernel_rfl) ?_ (by assumption) ?_
    rotate_left
    · intro wx hSw
      obtain ⟨hS1, hS2⟩ := hSw
      go_simp
      try (with_reducible rfl)
    try simp only [Act.put, List.setIfInBounds_toArray, List.set_cons_zero, List.set_cons_succ]
    refine takeD (i := 1) (some 20) (v := ?_) rfl rfl (by kernel_rfl) (by kernel_rfl) (by kernel_rfl) (fun _ _ _ h => h) (by kernel_rfl) ?_ (by assumption) ?_
    rotate_left
    · intro wx hSw
      obtain ⟨hS1, hS2⟩ := hSw
      go_simp
      try (with_reducible rfl)
    try simp only [Act.put, List.setIfInBounds_toArray, List.set_cons_zero, List.set_cons_succ]
    refine takeD (i := 2) (some 21) (v := ?_) rfl rfl (by kernel_rfl) (by kernel_rfl) (by kernel_rfl) (fun _ _ _ h => h) (by kernel_rfl) ?_ (by assumption) ?_
    rotate_left
    · intro wx hSw
      obtain ⟨hS1, hS2⟩ := hSw
      go_simp
      try (with_reducible rfl)
    try simp only [Act.put, List.setIfInBounds_toArray, List.set_cons_zero, List.set_cons_succ]
    refine takeD (i := 4) (some 23) (v := ?_) rfl rfl (by kernel_rfl) (by kernel_rfl) (by kernel_rfl) (fun _ _ _ h => h) (by kernel_rfl) ?_ (by assumption) ?_
    rotate_left
    · intro wx hSw
      obtain ⟨hS1, hS2⟩ := hSw
      go_simp
      try (with_reducible rfl)
    try simp only [Act.put, List.setIfInBounds_toArray, List.set_cons_zero, List.set_cons_succ]
    refine takeD (i := 6) (some 25) (v := ?_) rfl rfl (by kernel_rfl) (by kernel_rfl) (by kernel_rfl) (fun _ _ _ h => h) (by kernel_rfl) ?_ (by assumption) ?_
    rotate_left
    · intro wx hSw
      obtain ⟨hS1, hS2⟩ := hSw
      go_simp
      try (with_reducible rfl)
    try simp only [Act.put, List.setIfInBounds_toArray, List.set_cons_zero, List.set_cons_succ]
    refine wpAnyH_ready (rs := [3]) (by kernel_rfl) (by simp) ?_
    refine AllReadyH.cons rfl (fun K hK => ?_) AllReadyH.nil
    go_simp
    replace hD := hD.kept hD.rd.drewC ((Kept.refl g0 W).drewC)
    replace s := hD.ss
    obtain ⟨Wd, hWd⟩ : ∃ Wd, Wd = W.drew := ⟨_, rfl⟩
    rw [← hWd] at hD s ⊢
    refine (off_any g0 cv 0 3 _ hD.rd (by omega) (by omega) (by omega)).mono ?_
    rintro e Wx1 ⟨x1, rfl, hR1, hJ1⟩
    replace hD := hD.kept hR1 hJ1
    replace s := hD.ss
    clear hR1 hJ1
    go_wp2_with fail
    refine hK.out _ _ s (fun hHeld => ?_)
    clear hK K
    try simp only [Act.put, List.setIfInBounds_toArray, List.set_cons_zero, List.set_cons_succ]
    refine wpAnyH_ready (rs := [5]) (by kernel_rfl) (by simp) ?_
    refine AllReadyH.cons rfl (fun K hK => ?_) AllReadyH.nil
    go_simp
    refine (off_any g0 cv 0 2 _ hD.rd (by omega) (by omega) (by omega)).mono ?_
    rintro e Wx2 ⟨x2, rfl, hR1, hJ1⟩
    replace hD := hD.kept hR1 hJ1
    replace s := hD.ss
    clear hR1 hJ1
    go_wp2_with fail
    refine hK.out _ _ s (fun hHeld => ?_)
    clear hK K
    try simp only [Act.put, List.setIfInBounds_toArray, List.set_cons_zero, List.set_cons_succ]
    refine wpAnyH_ready (rs := [7]) (by kernel_rfl) (by simp) ?_
    refine AllReadyH.cons rfl (fun K hK => ?_) AllReadyH.nil
    go_simp
    refine (off_any g0 cv 1 5 _ hD.rd (by omega) (by omega) (by omega)).mono ?_
    rintro e Wx3 ⟨x3, rfl, hR1, hJ1⟩
    replace hD := hD.kept hR1 hJ1
    replace s := hD.ss
    clear hR1 hJ1
    go_wp2_with fail
    obtain ⟨s5, kB5, s6, f1, f2, cA6, cB6⟩ := hD.fin
    have cA := blk_cell hD.kA
    have fA := blk_free hD.kA
    have cB5 := blk_cell kB5
    have fB5 := blk_free kB5
    have HF1 : Hid (RdCnt (put3 (put7 Wx3 w.heap.size C) (w.heap.size + 1) (.slice N.aU N.nU N.cU) (.int .i64 N.lo) (.slice N.aP N.nP N.cP)) N) := f1
    have HF2 : Hid (Below w.heap.size w (put3 (put7 Wx3 w.heap.size C) (w.heap.size + 1) (.slice N.aU N.nU N.cU) (.int .i64 N.lo) (.slice N.aP N.nP N.cP))) := f2
    clear f1 f2 kB5 hD
    unfold put7 at s5 cB5 fB5
    unfold put3 put7 at s6 cA6 cB6
    refine hK.out _ _ s (fun hHeld => ?_)
    clear hK K
    try simp only [Act.put, List.setIfInBounds_toArray, List.set_cons_zero, List.set_cons_succ]
    refine wpAnyH_ready (rs := [8]) (by kernel_rfl) (by simp) ?_
    refine AllReadyH.cons rfl (fun K hK => ?_) AllReadyH.nil
    go_simp
    refine hK.out _ _ s5 (fun hHeld => ?_)
    clear hK K
    try simp only [Act.put, List.setIfInBounds_toArray, List.set_cons_zero, List.set_cons_succ]
    refine wpAnyH_ready (rs := [9]) (by kernel_rfl) (by simp) ?_
    refine AllReadyH.cons rfl (fun K hK => ?_) AllReadyH.nil
    go_simp
    refine hK.out _ _ s6 (fun hHeld => ?_)
    clear hK K
    try simp only [Act.put, List.setIfInBounds_toArray, List.set_cons_zero, List.set_cons_succ]
    refine wpAnyH_ready (rs := [10]) (by kernel_rfl) (by simp) ?_
    refine AllReadyH.cons rfl (fun K hK => ?_) AllReadyH.nil
    go_simp
    refine hK.out _ _ s6 (fun hHeld => ?_)
    clear hK K
    try simp only [Act.put, List.setIfInBounds_toArray, List.set_cons_zero, List.set_cons_succ]
    refine wpAnyH_ready (rs := [11]) (by kernel_rfl) (by simp) ?_
    refine AllReadyH.cons rfl (fun K hK => ?_) AllReadyH.nil
    go_simp
    refine hK.out _ _ s6 (fun hHeld => ?_)
    clear hK K
    try simp only [Act.put, List.setIfInBounds_toArray, List.set_cons_zero, List.set_cons_succ]
    refine wpAnyH_ready (rs := [12]) (by kernel_rfl) (by simp) ?_
    refine AllReadyH.cons rfl (fun K hK => ?_) AllReadyH.nil
    go_simp
    refine hK.out _ _ s6 (fun hHeld => ?_)
    clear hK K
    try simp only [Act.put, List.setIfInBounds_toArray, List.set_cons_zero, List.set_cons_succ]
    refine wpAnyH_done (by kernel_rfl) ?_ _
    clear hHeld s s5 s6 cA fA cB5 fB5
    go_wp2_with fail
    refine bodyPost_ret (v := .tuple #[.agg #[.int .i64 C.p, .int .i64 C.c, .int .i64 C.xo, .int .i64 C.xn, .int .i64 C.hd, .int .i64 C.lo, .int .i64 C.dl], .agg #[.slice N.aU N.nU N.cU, .int .i64 N.lo, .slice N.aP N.nP N.cP], .int .i64 x1, .int .i64 x2, .int .i64 x3]) (by simp [results, Try.results6, go_sem, cA6, cB6, Cfg.cells]) rfl ?_
    exact ⟨C, N, x1, x2, x3, rfl, hfw, HF1.out, HF2.out⟩
end Go.Proofs.Ytpldaohflojkmaa
