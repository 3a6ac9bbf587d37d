/- Rounds and what goes with them, as the drawers draw them. -/
import Derived.Test.YtnfcmiiibkbmfaaRSame
namespace Go.Proofs.Ytnfcmiiibkbmfaa
open Go.RowKit
set_option linter.unusedVariables false
set_option linter.unusedSimpArgs false

theorem code_alloc {cv : Value} {len : Nat} {w : World} {o : Obj} (h : Code w.heap.size cv len w) : Code (w.alloc o).heap.size cv len (w.alloc o) := by
  have h2 : Code w.heap.size cv len (w.alloc o) := h.keep (Nat.le_refl _) (fun k hk => blk_old _ hk)
  rcases h2 with h2 | ⟨b, off, cap, hv, hb, hl, hc⟩
  · exact .inl h2
  · exact .inr ⟨b, off, cap, hv, by simp; omega, hl, hc⟩
/-- a drawn round in its box, the place of the answer, and the reader -/
structure DW (g : Nat) (cv : Value) (w : World) (bx : Nat) (R : Rnd) (W : World) : Prop where
  rd : Rd g cv W
  bel : Below w.heap.size w W
  box : W.heap[bx]? = some (.cells R.cells 27 (0, 0))
  own : OwnRn W (g + 1) R
  res : W.heap[w.heap.size]? = some (.cells #[.slice none 0 0, .slice none 0 0, .int .i64 0, .bool false, .slice none 0 0] 27 (0, 0))
  lo : w.heap.size < g ∧ g < bx
section
variable {g : Nat} {cv : Value} {w W W' : World} {bx : Nat} {R : Rnd}
theorem DW.keptBy (h : DW g cv w bx R W) (hR : Rd g cv W') (hK : Kept g W W') : DW g cv w bx R W' :=
  ⟨hR, h.bel.trans (hK.below h.bel.size (by have := h.lo; omega)), kblk hK h.box (by have := h.lo; omega), h.own.touch hK.asTouch (fun x hx => by simp at hx; omega), kblk hK h.res (by have := h.lo; omega), h.lo⟩
theorem DW.fin (h : DW g cv w bx R W) :
    (∀ o, (put5 W w.heap.size (.slice R.aQ R.nQ R.cQ) (.slice R.aD R.nD R.cD) (.int .i64 R.turn) (.bool R.fresh) (.slice R.aS R.nS R.cS)).cell? ⟨w.heap.size, o, none⟩ = (#[.slice R.aQ R.nQ R.cQ, .slice R.aD R.nD R.cD, .int .i64 R.turn, .bool R.fresh, .slice R.aS R.nS R.cS] : Array Value)[o]?) ∧ (∀ o, (put5 W w.heap.size (.slice R.aQ R.nQ R.cQ) (.slice R.aD R.nD R.cD) (.int .i64 R.turn) (.bool R.fresh) (.slice R.aS R.nS R.cS)).cell? ⟨bx, o, none⟩ = (#[.slice R.aQ R.nQ R.cQ, .slice R.aD R.nD R.cD, .int .i64 R.turn, .bool R.fresh, .slice R.aS R.nS R.cS] : Array Value)[o]?) ∧ OwnRn (put5 W w.heap.size (.slice R.aQ R.nQ R.cQ) (.slice R.aD R.nD R.cD) (.int .i64 R.turn) (.bool R.fresh) (.slice R.aS R.nS R.cS)) w.heap.size R ∧ Below w.heap.size w (put5 W w.heap.size (.slice R.aQ R.nQ R.cQ) (.slice R.aD R.nD R.cD) (.int .i64 R.turn) (.bool R.fresh) (.slice R.aS R.nS R.cS)) := by
  have ht := put5_touch W w.heap.size (.slice R.aQ R.nQ R.cQ) (.slice R.aD R.nD R.cD) (.int .i64 R.turn) (.bool R.fresh) (.slice R.aS R.nS R.cS)
  have hl := h.lo
  exact ⟨blk_cell (put5_blk h.res _ _ _ _ _), blk_cell ((ht.block _ (blk_lt h.box) (by simp; omega)).trans h.box), (h.own.touch ht (fun x hx => by simp at hx; omega)).mono (by omega), h.bel.trans (ht.below h.bel.size (fun x hx => by simp at hx; omega))⟩
end
set_option maxRecDepth 100000 in
set_option maxHeartbeats 8000000 in
theorem drawWaits_any (cv : Value) (len : Nat) (w : World) (h : Code w.heap.size cv len w) (hs : ∃ a n c, cv = .slice a n c) :
    Calls Try.prog 21 #[cv] w fun e w' => ∃ (R : Rnd) (k s : Int), e = .returned (.tuple #[.agg R.cells, .int .i64 k, .int .i64 s]) ∧ R.Small ∧ OwnRn w' w.heap.size R ∧ Below w.heap.size w w' := by
  obtain ⟨a, n, c, rfl⟩ := hs
  have HB0 : Hid (Below w.heap.size w (w.alloc (.cells #[.slice none 0 0, .slice none 0 0, .int .i64 0, .bool false, .slice none 0 0] 27))) := (Below.refl _ _).alloc (Nat.le_refl _) _
  have HX0 : Hid ((w.alloc (.cells #[.slice none 0 0, .slice none 0 0, .int .i64 0, .bool false, .slice none 0 0] 27)).heap[w.heap.size]? = some (.cells #[.slice none 0 0, .slice none 0 0, .int .i64 0, .bool false, .slice none 0 0] 27 (0, 0))) := blk_new _ _
  have HSz : Hid (w.heap.size < (w.alloc (.cells #[.slice none 0 0, .slice none 0 0, .int .i64 0, .bool false, .slice none 0 0] 27)).heap.size) := by rw [Hid]; simp
  have HC : Hid (Code (w.alloc (.cells #[.slice none 0 0, .slice none 0 0, .int .i64 0, .bool false, .slice none 0 0] 27)).heap.size (.slice a n c) len (w.alloc (.cells #[.slice none 0 0, .slice none 0 0, .int .i64 0, .bool false, .slice none 0 0] 27))) := code_alloc h
  clear h
  go_enter Try.func21, Try.ntmps21
  go_wp2_with fail
  refine (open_any (.slice a n c) len _ HC.out ⟨_, _, _, rfl⟩).mono ?_
  rintro e w1 ⟨rfl, hR, hb⟩
  generalize (w.alloc (.cells #[.slice none 0 0, .slice none 0 0, .int .i64 0, .bool false, .slice none 0 0] 27)).heap.size = g at *
  have HX1 : Hid (w1.heap[w.heap.size]? = some (.cells #[.slice none 0 0, .slice none 0 0, .int .i64 0, .bool false, .slice none 0 0] 27 (0, 0))) := (hb.block _ HSz.out).trans HX0.out
  have HB1 : Hid (Below w.heap.size w w1) := HB0.out.trans (hb.mono (by have := HSz.out; omega))
  clear hb HC HX0 HB0
  go_wp2_with fail
  refine (drawRound_any g (.slice a n c) _ hR).mono ?_
  have hlt := hR.lt
  clear hR
  rintro e w2 ⟨R, rfl, hS, hO, hR, hK⟩
  have HS : Hid R.Small := hS
  have HX2 : Hid (w2.heap[w.heap.size]? = some (.cells #[.slice none 0 0, .slice none 0 0, .int .i64 0, .bool false, .slice none 0 0] 27 (0, 0))) := kblk hK HX1.out (by have := HSz.out; omega)
  have HB2 : Hid (Below w.heap.size w w2) := HB1.out.trans (hK.below HB1.out.size (by have := HSz.out; omega))
  clear hS
  have HD : Hid (DW g (.slice a n c) w w2.heap.size R (w2.alloc (.cells #[.slice R.aQ R.nQ R.cQ, .slice R.aD R.nD R.cD, .int .i64 R.turn, .bool R.fresh, .slice R.aS R.nS R.cS] 27))) := by
    have hb2 : Below w2.heap.size w2 (w2.alloc (.cells #[.slice R.aQ R.nQ R.cQ, .slice R.aD R.nD R.cD, .int .i64 R.turn, .bool R.fresh, .slice R.aS R.nS R.cS] 27)) := (Below.refl _ _).alloc (Nat.le_refl _) _
    exact ⟨hR.alloc _, HB2.out.trans (hb2.mono HB2.out.size), blk_new _ _, (hO.up hb2).mono (by omega), (hb2.block _ (blk_lt HX2.out)).trans HX2.out, HSz.out, by have := hK.size; omega⟩
  clear hO hR hK hlt HX1 HB1 HX2 HB2
  unfold Rnd.cells
  go_wp2_with fail
  generalize w2.alloc (.cells #[.slice R.aQ R.nQ R.cQ, .slice R.aD R.nD R.cD, .int .i64 R.turn, .bool R.fresh, .slice R.aS R.nS R.cS] 27) = w3 at *
  generalize w2.heap.size = bx at *
  have hd : Rd g (.slice a n c) w3.drew ∧ Kept g w3 w3.drew := ⟨HD.out.rd.drewD, (Kept.refl _ _).drewD⟩
  replace HD : Hid (DW g (.slice a n c) w bx R w3.drew) := HD.out.keptBy hd.1 hd.2
  clear hd
  have cA : ∀ o, World.cell? w3.drew ⟨bx, o, none⟩ = (#[.slice R.aQ R.nQ R.cQ, .slice R.aD R.nD R.cD, .int .i64 R.turn, .bool R.fresh, .slice R.aS R.nS R.cS] : Array Value)[o]? := blk_cell HD.out.box
  refine wp_region_held_drew (S := fun w' => ∀ o, w'.cell? ⟨bx, o, none⟩ = (#[.slice R.aQ R.nQ R.cQ, .slice R.aD R.nD R.cD, .int .i64 R.turn, .bool R.fresh, .slice R.aS R.nS R.cS] : Array Value)[o]?) (by kernel_rfl) cA (fun hHeld => ?_)
  generalize w3.drew = V0 at *
  refine takeD (i := 0) (some 11) (v := ?_) rfl rfl (by kernel_rfl) (by kernel_rfl) (by kernel_rfl) (fun _ _ _ h => h) (by kernel_rfl) ?_ (by assumption) ?_
  rotate_left
  · intro wx hSw
    try dsimp only at hSw
    go_simp
    try (with_reducible rfl)
  try simp only [Act.put, List.setIfInBounds_toArray, List.set_cons_zero, List.set_cons_succ]
  refine takeD (i := 1) (some 12) (v := ?_) rfl rfl (by kernel_rfl) (by kernel_rfl) (by kernel_rfl) (fun _ _ _ h => h) (by kernel_rfl) ?_ (by assumption) ?_
  rotate_left
  · intro wx hSw
    try dsimp only at hSw
    go_simp
    try (with_reducible rfl)
  try simp only [Act.put, List.setIfInBounds_toArray, List.set_cons_zero, List.set_cons_succ]
  refine takeD (i := 3) (some 14) (v := ?_) rfl rfl (by kernel_rfl) (by kernel_rfl) (by kernel_rfl) (fun _ _ _ h => h) (by kernel_rfl) ?_ (by assumption) ?_
  rotate_left
  · intro wx hSw
    try dsimp only at hSw
    go_simp
    try (with_reducible rfl)
  try simp only [Act.put, List.setIfInBounds_toArray, List.set_cons_zero, List.set_cons_succ]
  clear hHeld
  refine wpAnyH_ready (rs := [2]) (by kernel_rfl) (by simp) ?_
  refine AllReadyH.cons rfl (fun K hK => ?_) AllReadyH.nil
  go_simp
  refine (off_any g (.slice a n c) 0 2 _ HD.out.rd (by omega) (by omega) (by omega)).mono ?_
  rintro e V1 ⟨k, rfl, hR, hJ⟩
  replace HD : Hid (DW g (.slice a n c) w bx R V1) := HD.out.keptBy hR hJ
  clear hR hJ cA
  have cA : ∀ o, World.cell? V1 ⟨bx, o, none⟩ = (#[.slice R.aQ R.nQ R.cQ, .slice R.aD R.nD R.cD, .int .i64 R.turn, .bool R.fresh, .slice R.aS R.nS R.cS] : Array Value)[o]? := blk_cell HD.out.box
  refine hK.out _ _ cA (fun hHeld => ?_)
  clear hK K
  try simp only [Act.put, List.setIfInBounds_toArray, List.set_cons_zero, List.set_cons_succ]
  clear hHeld
  refine wpAnyH_ready (rs := [4]) (by kernel_rfl) (by simp) ?_
  refine AllReadyH.cons rfl (fun K hK => ?_) AllReadyH.nil
  go_simp
  refine (off_any g (.slice a n c) 1 5 _ HD.out.rd (by omega) (by omega) (by omega)).mono ?_
  rintro e V2 ⟨s, rfl, hR, hJ⟩
  replace HD : Hid (DW g (.slice a n c) w bx R V2) := HD.out.keptBy hR hJ
  clear hR hJ cA
  have cA : ∀ o, World.cell? V2 ⟨bx, o, none⟩ = (#[.slice R.aQ R.nQ R.cQ, .slice R.aD R.nD R.cD, .int .i64 R.turn, .bool R.fresh, .slice R.aS R.nS R.cS] : Array Value)[o]? := blk_cell HD.out.box
  refine hK.out _ _ cA (fun hHeld => ?_)
  clear hK K
  try simp only [Act.put, List.setIfInBounds_toArray, List.set_cons_zero, List.set_cons_succ]
  have cX := blk_cell HD.out.res
  have fX := blk_free HD.out.res
  obtain ⟨f1, f2, f3, f4⟩ := HD.out.fin
  have HE : Hid (_ ∧ _) := ⟨f3, f4⟩
  unfold put5 at f1 f2 HE
  clear f3 f4
  clear hHeld
  refine wpAnyH_ready (rs := [5]) (by kernel_rfl) (by simp) ?_
  refine AllReadyH.cons rfl (fun K hK => ?_) AllReadyH.nil
  go_simp
  clear cA
  have cA := f2
  refine hK.out _ _ cA (fun hHeld => ?_)
  clear hK K
  try simp only [Act.put, List.setIfInBounds_toArray, List.set_cons_zero, List.set_cons_succ]
  clear hHeld
  refine wpAnyH_ready (rs := [6]) (by kernel_rfl) (by simp) ?_
  refine AllReadyH.cons rfl (fun K hK => ?_) AllReadyH.nil
  go_simp
  refine hK.out _ _ cA (fun hHeld => ?_)
  clear hK K
  try simp only [Act.put, List.setIfInBounds_toArray, List.set_cons_zero, List.set_cons_succ]
  clear hHeld
  refine wpAnyH_ready (rs := [7]) (by kernel_rfl) (by simp) ?_
  refine AllReadyH.cons rfl (fun K hK => ?_) AllReadyH.nil
  go_simp
  refine hK.out _ _ cA (fun hHeld => ?_)
  clear hK K
  try simp only [Act.put, List.setIfInBounds_toArray, List.set_cons_zero, List.set_cons_succ]
  refine wpAnyH_done (by kernel_rfl) ?_ _
  clear cA f2 cX fX hHeld
  go_wp2_with fail
  exact bodyPost_ret (v := .tuple #[.agg #[.slice R.aQ R.nQ R.cQ, .slice R.aD R.nD R.cD, .int .i64 R.turn, .bool R.fresh, .slice R.aS R.nS R.cS], .int .i64 k, .int .i64 s]) (by simp [results, Try.results21, go_sem, f1]) rfl ⟨R, k, s, rfl, HS.out, HE.out.1, HE.out.2⟩
set_option maxRecDepth 100000 in
set_option maxHeartbeats 8000000 in
theorem drawPickedAll_any (cv : Value) (len : Nat) (w : World) (h : Code w.heap.size cv len w) (hs : ∃ a n c, cv = .slice a n c) :
    Calls Try.prog 18 #[cv] w fun e w' => ∃ (R : Rnd) (k : Nat), (k : Int) < 24 ∧ e = .returned (.tuple #[.agg R.cells, .int .i64 k]) ∧ R.Small ∧ OwnRn w' w.heap.size R ∧ Below w.heap.size w w' := by
  obtain ⟨a, n, c, rfl⟩ := hs
  have HB0 : Hid (Below w.heap.size w (w.alloc (.cells #[.slice none 0 0, .slice none 0 0, .int .i64 0, .bool false, .slice none 0 0] 27))) := (Below.refl _ _).alloc (Nat.le_refl _) _
  have HX0 : Hid ((w.alloc (.cells #[.slice none 0 0, .slice none 0 0, .int .i64 0, .bool false, .slice none 0 0] 27)).heap[w.heap.size]? = some (.cells #[.slice none 0 0, .slice none 0 0, .int .i64 0, .bool false, .slice none 0 0] 27 (0, 0))) := blk_new _ _
  have HSz : Hid (w.heap.size < (w.alloc (.cells #[.slice none 0 0, .slice none 0 0, .int .i64 0, .bool false, .slice none 0 0] 27)).heap.size) := by rw [Hid]; simp
  have HC : Hid (Code (w.alloc (.cells #[.slice none 0 0, .slice none 0 0, .int .i64 0, .bool false, .slice none 0 0] 27)).heap.size (.slice a n c) len (w.alloc (.cells #[.slice none 0 0, .slice none 0 0, .int .i64 0, .bool false, .slice none 0 0] 27))) := code_alloc h
  clear h
  go_enter Try.func18, Try.ntmps18
  go_wp2_with fail
  refine (open_any (.slice a n c) len _ HC.out ⟨_, _, _, rfl⟩).mono ?_
  rintro e w1 ⟨rfl, hR, hb⟩
  generalize (w.alloc (.cells #[.slice none 0 0, .slice none 0 0, .int .i64 0, .bool false, .slice none 0 0] 27)).heap.size = g at *
  have HX1 : Hid (w1.heap[w.heap.size]? = some (.cells #[.slice none 0 0, .slice none 0 0, .int .i64 0, .bool false, .slice none 0 0] 27 (0, 0))) := (hb.block _ HSz.out).trans HX0.out
  have HB1 : Hid (Below w.heap.size w w1) := HB0.out.trans (hb.mono (by have := HSz.out; omega))
  clear hb HC HX0 HB0
  go_wp2_with fail
  refine (drawRound_any g (.slice a n c) _ hR).mono ?_
  have hlt := hR.lt
  clear hR
  rintro e w2 ⟨R, rfl, hS, hO, hR, hK⟩
  have HS : Hid R.Small := hS
  have HX2 : Hid (w2.heap[w.heap.size]? = some (.cells #[.slice none 0 0, .slice none 0 0, .int .i64 0, .bool false, .slice none 0 0] 27 (0, 0))) := kblk hK HX1.out (by have := HSz.out; omega)
  have HB2 : Hid (Below w.heap.size w w2) := HB1.out.trans (hK.below HB1.out.size (by have := HSz.out; omega))
  clear hS
  have HD : Hid (DW g (.slice a n c) w w2.heap.size R (w2.alloc (.cells #[.slice R.aQ R.nQ R.cQ, .slice R.aD R.nD R.cD, .int .i64 R.turn, .bool R.fresh, .slice R.aS R.nS R.cS] 27))) := by
    have hb2 : Below w2.heap.size w2 (w2.alloc (.cells #[.slice R.aQ R.nQ R.cQ, .slice R.aD R.nD R.cD, .int .i64 R.turn, .bool R.fresh, .slice R.aS R.nS R.cS] 27)) := (Below.refl _ _).alloc (Nat.le_refl _) _
    exact ⟨hR.alloc _, HB2.out.trans (hb2.mono HB2.out.size), blk_new _ _, (hO.up hb2).mono (by omega), (hb2.block _ (blk_lt HX2.out)).trans HX2.out, HSz.out, by have := hK.size; omega⟩
  clear hO hR hK hlt HX1 HB1 HX2 HB2
  unfold Rnd.cells
  go_wp2_with fail
  generalize w2.alloc (.cells #[.slice R.aQ R.nQ R.cQ, .slice R.aD R.nD R.cD, .int .i64 R.turn, .bool R.fresh, .slice R.aS R.nS R.cS] 27) = w3 at *
  generalize w2.heap.size = bx at *
  have hd : Rd g (.slice a n c) w3.drew ∧ Kept g w3 w3.drew := ⟨HD.out.rd.drewD, (Kept.refl _ _).drewD⟩
  replace HD : Hid (DW g (.slice a n c) w bx R w3.drew) := HD.out.keptBy hd.1 hd.2
  clear hd
  have cA : ∀ o, World.cell? w3.drew ⟨bx, o, none⟩ = (#[.slice R.aQ R.nQ R.cQ, .slice R.aD R.nD R.cD, .int .i64 R.turn, .bool R.fresh, .slice R.aS R.nS R.cS] : Array Value)[o]? := blk_cell HD.out.box
  refine wp_region_held_drew (S := fun w' => ∀ o, w'.cell? ⟨bx, o, none⟩ = (#[.slice R.aQ R.nQ R.cQ, .slice R.aD R.nD R.cD, .int .i64 R.turn, .bool R.fresh, .slice R.aS R.nS R.cS] : Array Value)[o]?) (by kernel_rfl) cA (fun hHeld => ?_)
  generalize w3.drew = V0 at *
  refine takeD (i := 0) (some 10) (v := ?_) rfl rfl (by kernel_rfl) (by kernel_rfl) (by kernel_rfl) (fun _ _ _ h => h) (by kernel_rfl) ?_ (by assumption) ?_
  rotate_left
  · intro wx hSw
    try dsimp only at hSw
    go_simp
    try (with_reducible rfl)
  try simp only [Act.put, List.setIfInBounds_toArray, List.set_cons_zero, List.set_cons_succ]
  refine takeD (i := 1) (some 11) (v := ?_) rfl rfl (by kernel_rfl) (by kernel_rfl) (by kernel_rfl) (fun _ _ _ h => h) (by kernel_rfl) ?_ (by assumption) ?_
  rotate_left
  · intro wx hSw
    try dsimp only at hSw
    go_simp
    try (with_reducible rfl)
  try simp only [Act.put, List.setIfInBounds_toArray, List.set_cons_zero, List.set_cons_succ]
  clear hHeld
  refine wpAnyH_ready (rs := [2]) (by kernel_rfl) (by simp) ?_
  refine AllReadyH.cons rfl (fun K hK => ?_) AllReadyH.nil
  go_simp
  refine (below_any g (.slice a n c) 24 _ HD.out.rd (by omega) (by omega)).mono ?_
  rintro e V1 ⟨k, hk, rfl, hR, hJ⟩
  replace HD : Hid (DW g (.slice a n c) w bx R V1) := HD.out.keptBy hR hJ
  clear hR hJ cA
  have cA : ∀ o, World.cell? V1 ⟨bx, o, none⟩ = (#[.slice R.aQ R.nQ R.cQ, .slice R.aD R.nD R.cD, .int .i64 R.turn, .bool R.fresh, .slice R.aS R.nS R.cS] : Array Value)[o]? := blk_cell HD.out.box
  refine hK.out _ _ cA (fun hHeld => ?_)
  clear hK K
  try simp only [Act.put, List.setIfInBounds_toArray, List.set_cons_zero, List.set_cons_succ]
  have cX := blk_cell HD.out.res
  have fX := blk_free HD.out.res
  obtain ⟨f1, f2, f3, f4⟩ := HD.out.fin
  have HE : Hid (_ ∧ _) := ⟨f3, f4⟩
  unfold put5 at f1 f2 HE
  clear f3 f4
  clear hHeld
  refine wpAnyH_ready (rs := [3]) (by kernel_rfl) (by simp) ?_
  refine AllReadyH.cons rfl (fun K hK => ?_) AllReadyH.nil
  go_simp
  clear cA
  have cA := f2
  refine hK.out _ _ cA (fun hHeld => ?_)
  clear hK K
  try simp only [Act.put, List.setIfInBounds_toArray, List.set_cons_zero, List.set_cons_succ]
  clear hHeld
  refine wpAnyH_ready (rs := [4]) (by kernel_rfl) (by simp) ?_
  refine AllReadyH.cons rfl (fun K hK => ?_) AllReadyH.nil
  go_simp
  refine hK.out _ _ cA (fun hHeld => ?_)
  clear hK K
  try simp only [Act.put, List.setIfInBounds_toArray, List.set_cons_zero, List.set_cons_succ]
  refine wpAnyH_done (by kernel_rfl) ?_ _
  clear cA f2 cX fX hHeld
  go_wp2_with fail
  exact bodyPost_ret (v := .tuple #[.agg #[.slice R.aQ R.nQ R.cQ, .slice R.aD R.nD R.cD, .int .i64 R.turn, .bool R.fresh, .slice R.aS R.nS R.cS], .int .i64 k]) (by simp [results, Try.results18, go_sem, f1]) rfl ⟨R, k, hk, rfl, HS.out, HE.out.1, HE.out.2⟩
set_option maxRecDepth 100000 in
set_option maxHeartbeats 8000000 in
theorem drawPicked_any (cv : Value) (len : Nat) (w : World) (h : Code w.heap.size cv len w) (hs : ∃ a n c, cv = .slice a n c) :
    Calls Try.prog 8 #[cv] w fun e w' => ∃ R : Rnd, e = .returned (.agg R.cells) ∧ R.Small ∧ OwnRn w' w.heap.size R ∧ Below w.heap.size w w' := by
  obtain ⟨a, n, c, rfl⟩ := hs
  have HB0 : Hid (Below w.heap.size w (w.alloc (.cells #[.slice none 0 0, .slice none 0 0, .int .i64 0, .bool false, .slice none 0 0] 27))) := (Below.refl _ _).alloc (Nat.le_refl _) _
  have HX0 : Hid ((w.alloc (.cells #[.slice none 0 0, .slice none 0 0, .int .i64 0, .bool false, .slice none 0 0] 27)).heap[w.heap.size]? = some (.cells #[.slice none 0 0, .slice none 0 0, .int .i64 0, .bool false, .slice none 0 0] 27 (0, 0))) := blk_new _ _
  have HSz : Hid (w.heap.size < (w.alloc (.cells #[.slice none 0 0, .slice none 0 0, .int .i64 0, .bool false, .slice none 0 0] 27)).heap.size) := by rw [Hid]; simp
  have HC : Hid (Code (w.alloc (.cells #[.slice none 0 0, .slice none 0 0, .int .i64 0, .bool false, .slice none 0 0] 27)).heap.size (.slice a n c) len (w.alloc (.cells #[.slice none 0 0, .slice none 0 0, .int .i64 0, .bool false, .slice none 0 0] 27))) := code_alloc h
  clear h
  go_enter Try.func8, Try.ntmps8
  go_wp2_with fail
  refine (open_any (.slice a n c) len _ HC.out ⟨_, _, _, rfl⟩).mono ?_
  rintro e w1 ⟨rfl, hR, hb⟩
  generalize (w.alloc (.cells #[.slice none 0 0, .slice none 0 0, .int .i64 0, .bool false, .slice none 0 0] 27)).heap.size = g at *
  have HX1 : Hid (w1.heap[w.heap.size]? = some (.cells #[.slice none 0 0, .slice none 0 0, .int .i64 0, .bool false, .slice none 0 0] 27 (0, 0))) := (hb.block _ HSz.out).trans HX0.out
  have HB1 : Hid (Below w.heap.size w w1) := HB0.out.trans (hb.mono (by have := HSz.out; omega))
  clear hb HC HX0 HB0
  go_wp2_with fail
  refine (drawRound_any g (.slice a n c) _ hR).mono ?_
  have hlt := hR.lt
  clear hR
  rintro e w2 ⟨R, rfl, hS, hO, hR, hK⟩
  have HS : Hid R.Small := hS
  have HX2 : Hid (w2.heap[w.heap.size]? = some (.cells #[.slice none 0 0, .slice none 0 0, .int .i64 0, .bool false, .slice none 0 0] 27 (0, 0))) := kblk hK HX1.out (by have := HSz.out; omega)
  have HB2 : Hid (Below w.heap.size w w2) := HB1.out.trans (hK.below HB1.out.size (by have := HSz.out; omega))
  clear hS
  have ht := put5_touch w2 w.heap.size (.slice R.aQ R.nQ R.cQ) (.slice R.aD R.nD R.cD) (.int .i64 R.turn) (.bool R.fresh) (.slice R.aS R.nS R.cS)
  have f1 := blk_cell (put5_blk HX2.out (.slice R.aQ R.nQ R.cQ) (.slice R.aD R.nD R.cD) (.int .i64 R.turn) (.bool R.fresh) (.slice R.aS R.nS R.cS))
  have HE : Hid (OwnRn (put5 w2 w.heap.size (.slice R.aQ R.nQ R.cQ) (.slice R.aD R.nD R.cD) (.int .i64 R.turn) (.bool R.fresh) (.slice R.aS R.nS R.cS)) w.heap.size R ∧ Below w.heap.size w (put5 w2 w.heap.size (.slice R.aQ R.nQ R.cQ) (.slice R.aD R.nD R.cD) (.int .i64 R.turn) (.bool R.fresh) (.slice R.aS R.nS R.cS))) := by
    have h1 := HB1.out.size
    exact ⟨(hO.touch ht (fun x hx => by simp at hx; have := HSz.out; omega)).mono h1, HB2.out.trans (ht.below HB2.out.size (fun x hx => by simp at hx; omega))⟩
  have cX := blk_cell HX2.out
  have fX := blk_free HX2.out
  unfold put5 at f1 HE
  clear ht hO hR hK hlt HX1 HB1 HX2 HB2
  unfold Rnd.cells
  go_wp2_with fail
  exact bodyPost_ret (v := .agg #[.slice R.aQ R.nQ R.cQ, .slice R.aD R.nD R.cD, .int .i64 R.turn, .bool R.fresh, .slice R.aS R.nS R.cS]) (by simp [results, Try.results8, go_sem, f1]) rfl ⟨R, rfl, HS.out, HE.out.1, HE.out.2⟩
end Go.Proofs.Ytnfcmiiibkbmfaa
