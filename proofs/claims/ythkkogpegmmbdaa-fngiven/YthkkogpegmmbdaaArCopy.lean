/- An arena copied: the specification's contract. -/
import Derived.Test.YthkkogpegmmbdaaArGive
import Derived.Deep.AppendSrc
namespace Go.Proofs.Ythkkogpegmmbdaa
open Go.RowKit
set_option linter.unusedVariables false
set_option linter.unusedSimpArgs false

theorem app_rows {t e : TypeId} {i : TypeInfo} {z : Value} (ht : Try.prog.underlying t = some (.slice e)) (hi : Try.prog.info? e = some i) (hz : i.zero = some z) (hs : i.size = 1) (hbz : i.bytes ≤ 16) (p : Addr) (g o n c : Nat) (f : Nat → Value) (hone : ∀ j, j < n → (f j).oneCell' = true) (l1 : 1 ≤ n) (l2 : n ≤ 60) (W : World) (h : RdRow W (some ⟨g, o, none⟩) n f) :
    ∃ cap W', (Builtin.append_ #[t, t] t #[.slice (some p) 0 0, .slice (some ⟨g, o, none⟩) n c]).run Try.prog W = .ok (.slice (some ⟨W.heap.size, 0, none⟩) n cap) W' ∧ RowTo W.heap.size e n f n W' ∧ Below W.heap.size W W' := by
  have hcell : ∀ j, j < n → W.cell? ⟨g, o + j, none⟩ = some (f j) := fun j hj => by
    obtain ⟨g', o', e', c'⟩ := h j hj
    cases e'
    exact c'
  have hsrc : Src Try.prog i.size t (.slice (some ⟨g, o, none⟩) n c) n ((List.range n).map f) W := by
    refine Src.ofSlice W ht ⟨g, o, none⟩ n c _ (by rw [hs]; simp) (fun j u hu => ?_) (fun u hu => ?_)
    · have hj : j < n := by
        have := (List.getElem?_eq_some_iff.1 hu).1
        simpa using this
      rw [show (⟨g, o, none⟩ : Addr).add j = ⟨g, o + j, none⟩ by unfold Addr.add; split <;> simp_all, hcell j hj]
      simpa [hj] using hu
    · simp at hu
      obtain ⟨j, hj, rfl⟩ := hu
      exact hone j hj
  have hcap : Builtin.nextslicecap (0 + n) 0 * i.bytes ≤ 281474976710656 := by
    have e1 : Builtin.nextslicecap (0 + n) 0 = n := by
      unfold Builtin.nextslicecap
      rw [Nat.zero_add]
      split <;> first | rfl | omega
    rw [e1]
    have := Nat.mul_le_mul l2 hbz
    omega
  have hrun := run_append_grow_src (P := Try.prog) W t t t e i z ht hi hz (some p) 0 0 [] (run_firstCells_some (P := Try.prog) W.drew i.size 0 p 0 0 [] (by simp) (by intro j u h; simp at h)) (.slice (some ⟨g, o, none⟩) n c) n _ hsrc (by omega) (by omega) hcap
  rw [Nat.zero_add] at hrun
  refine ⟨_, _, hrun, ?_, (Below.refl _ _).drew.alloc (Nat.le_refl _) _⟩
  refine ⟨_, blk_new W.drew _, by simp, fun j hj => ?_⟩
  rw [Array.getElem?_append_left (by simpa using hj)]
  simp [hj]

theorem wp_app {o : Oper} {a : Act} {K : Act → World → Prop} {Q : Exit → Act → World → Prop} {W W' : World} {c : Prop} [Decidable c] {E : Prop} (hc : c) (s x : Operand) (t : TypeId) (vs vx v : Value)
    (ho : o.op = .call { callee := .builtin .append, args := #[s, x], argTypes := #[t, t] }) (hty : o.type = t) (hs : a.eval s = vs) (hx : a.eval x = vx)
    (hr : (Builtin.append_ #[t, t] t #[vs, vx]).run Try.prog W = .ok v W') (h : K (a.put o.dst v) W') : if c then o.wp Try.prog a W K Q else E := by
  rw [if_pos hc]
  unfold Oper.wp execOp
  rw [← hty] at hr
  simp only [ho, resolve, invoke, builtin, Sem.run_bind, Sem.run_pure, Result.andThen_ok, List.map_toArray, List.map_cons, List.map_nil, hs, hx, hty]
  rw [hty] at hr
  simp only [hr, Result.andThen_ok]
  exact h

set_option maxHeartbeats 1000000 in
theorem l2Copy_any (a1 b1 : Option Addr) (n c1 d1 : Nat) (fr : Int) (nx : Nat → Int) (dt : Nat → ByteArray) (w : World) (l1 : 1 ≤ n) (l2 : n ≤ 60) (h1 : RdRow w a1 n fun i => .int .i64 (nx i)) (h2 : RdRow w b1 n fun i => .string (dt i)) :
    Calls Try.prog 30 #[.agg #[.slice a1 n c1, .slice b1 n d1, .int .i64 fr]] w fun e w' => ∃ gN gD cN cD, e = .returned (.agg #[.slice (some ⟨gN, 0, none⟩) n cN, .slice (some ⟨gD, 0, none⟩) n cD, .int .i64 fr]) ∧ w.heap.size ≤ gN ∧ w.heap.size ≤ gD ∧ RowTo gN 2 n (fun i => .int .i64 (nx i)) n w' ∧ RowTo gD 9 n (fun i => .string (dt i)) n w' ∧ Below w.heap.size w w' := by
  obtain ⟨i2, hi2, hz20, hz21, hz22⟩ := info_parts info2
  obtain ⟨i9, hi9, hz90, hz91, hz92⟩ := info_parts info9
  obtain ⟨g1, o1, rfl, _⟩ := h1 0 (by omega)
  obtain ⟨g2, o2, rfl, _⟩ := h2 0 (by omega)
  have HP1 := fun (p : Addr) (W : World) (hW : Below w.heap.size w W) => app_rows Try.underlying24 hi2 hz20 hz21 (by omega) p g1 o1 n c1 (fun i => .int .i64 (nx i)) (fun _ _ => rfl) l1 l2 W (h1.up hW)
  have HP2 := fun (p : Addr) (W : World) (hW : Below w.heap.size w W) => app_rows Try.underlying25 hi9 hz90 hz91 (by omega) p g2 o2 n d1 (fun i => .string (dt i)) (fun _ _ => rfl) l1 l2 W (h2.up hW)
  have HQ1 : Hid (∀ (p : Addr) (W : World) (hW : Below w.heap.size w W), _) := HP1
  have HQ2 : Hid (∀ (p : Addr) (W : World) (hW : Below w.heap.size w W), _) := HP2
  clear HP1 HP2 h1 h2
  go_enter Try.func30, Try.ntmps30
  go_wp2_with fail
  obtain ⟨W0, hW0⟩ : ∃ W0 : World, W0 = (w.alloc (.cells #[.slice (some ⟨g1, o1, none⟩) n c1, .slice (some ⟨g2, o2, none⟩) n d1, .int .i64 fr] 27)).alloc (.cells #[.slice none 0 0, .slice none 0 0, .int .i64 0] 27) := ⟨_, rfl⟩
  rw [← hW0]
  have hB : Below (w.heap.size + 1 + 1) ((w.alloc (.cells #[.slice (some ⟨g1, o1, none⟩) n c1, .slice (some ⟨g2, o2, none⟩) n d1, .int .i64 fr] 27)).alloc (.cells #[.slice none 0 0, .slice none 0 0, .int .i64 0] 27)) W0 := by rw [hW0]; exact Below.refl _ _
  clear hW0
  obtain ⟨kA, kR, Bw, zw⟩ := two_boxes hB
  refine wp_region_held_drew (S := fun w' => ∀ o, w'.cell? ⟨w.heap.size, o, none⟩ = (#[.slice (some ⟨g1, o1, none⟩) n c1, .slice (some ⟨g2, o2, none⟩) n d1, .int .i64 fr] : Array Value)[o]?) (by kernel_rfl) (blk_cell kA) (fun hHeld => ?_)
  refine wpAnyH_take (i := 1) (v := ?_) rfl (by kernel_rfl) (by kernel_rfl) (by kernel_rfl) (fun _ _ _ h => h) (Or.inl ⟨by rfl, ?_⟩) (by assumption) ?_
  rotate_left
  · intro wx hSw
    try dsimp only at hSw
    go_simp
    try (with_reducible rfl)
  try simp only [Act.put, List.setIfInBounds_toArray, List.set_cons_zero, List.set_cons_succ]
  refine wpAnyH_take (i := 2) (v := ?_) rfl (by kernel_rfl) (by kernel_rfl) (by kernel_rfl) (fun _ _ _ h => h) (Or.inl ⟨by rfl, ?_⟩) (by assumption) ?_
  rotate_left
  · intro wx hSw
    try dsimp only at hSw
    go_simp
    try (with_reducible rfl)
  try simp only [Act.put, List.setIfInBounds_toArray, List.set_cons_zero, List.set_cons_succ]
  refine wpAnyH_take (i := 5) (v := ?_) rfl (by kernel_rfl) (by kernel_rfl) (by kernel_rfl) (fun _ _ _ h => h) (Or.inl ⟨by rfl, ?_⟩) (by assumption) ?_
  rotate_left
  · intro wx hSw
    try dsimp only at hSw
    go_simp
    try (with_reducible rfl)
  try simp only [Act.put, List.setIfInBounds_toArray, List.set_cons_zero, List.set_cons_succ]
  refine wpAnyH_take (i := 6) (v := ?_) rfl (by kernel_rfl) (by kernel_rfl) (by kernel_rfl) (fun _ _ _ h => h) (Or.inl ⟨by rfl, ?_⟩) (by assumption) ?_
  rotate_left
  · intro wx hSw
    try dsimp only at hSw
    go_simp
    try (with_reducible rfl)
  try simp only [Act.put, List.setIfInBounds_toArray, List.set_cons_zero, List.set_cons_succ]
  refine wpAnyH_take (i := 8) (v := ?_) rfl (by kernel_rfl) (by kernel_rfl) (by kernel_rfl) (fun _ _ _ h => h) (Or.inl ⟨by rfl, ?_⟩) (by assumption) ?_
  rotate_left
  · intro wx hSw
    try dsimp only at hSw
    go_simp
    try (with_reducible rfl)
  try simp only [Act.put, List.setIfInBounds_toArray, List.set_cons_zero, List.set_cons_succ]
  refine wpAnyH_take (i := 9) (v := ?_) rfl (by kernel_rfl) (by kernel_rfl) (by kernel_rfl) (fun _ _ _ h => h) (Or.inl ⟨by rfl, ?_⟩) (by assumption) ?_
  rotate_left
  · intro wx hSw
    try dsimp only at hSw
    go_simp
    try (with_reducible rfl)
  try simp only [Act.put, List.setIfInBounds_toArray, List.set_cons_zero, List.set_cons_succ]
  replace hB := hB.drew
  generalize hE0 : W0.drew = V0 at *
  have eV : W0.heap.size = V0.heap.size := by rw [← hE0]; rfl
  clear kA kR Bw zw
  refine wpAnyH_ready (rs := [0, 4]) (by kernel_rfl) (by simp) ?_
  refine AllReadyH.cons rfl (fun K hK => ?_) (AllReadyH.cons rfl (fun K hK => ?_) AllReadyH.nil)
  · go_simp
    have hbx : Below V0.heap.size V0 (V0.alloc (.cells #[] 2)) := (Below.refl _ _).alloc (Nat.le_refl _) _
    have hzV1 := (two_boxes hB).2.2.2
    have zV1 : V0.heap.size < (V0.alloc (.cells #[] 2)).heap.size := by simp
    replace hB := next2 hB hbx
    clear hbx
    replace hHeld := blk_cell (two_boxes hB).1
    refine hK.out _ _ hHeld (fun hHeld2 => ?_)
    clear hK K hHeld2
    try simp only [Act.put, List.setIfInBounds_toArray, List.set_cons_zero, List.set_cons_succ]
    generalize V0.alloc (.cells #[] 2) = V1 at *
    refine wpAnyH_ready (rs := [3, 4]) (by kernel_rfl) (by simp) ?_
    refine AllReadyH.cons rfl (fun K hK => ?_) (AllReadyH.cons rfl (fun K hK => ?_) AllReadyH.nil)
    · obtain ⟨cN, V2, hrun, rN, hbx⟩ := HQ1.out ⟨V0.heap.size, 0, none⟩ V1 (two_boxes hB).2.2.1
      have hzN := (two_boxes hB).2.2.2
      have zN := hbx.size
      refine wp_app (by kernel_rfl) (.tmp 3) (.tmp 5) 24 _ _ _ rfl rfl rfl rfl hrun ?_
      replace hB := next2 hB hbx
      clear hbx hrun
      replace hHeld := blk_cell (two_boxes hB).1
      refine hK.out _ _ hHeld (fun hHeld2 => ?_)
      clear hK K hHeld2
      try simp only [Act.put, List.setIfInBounds_toArray, List.set_cons_zero, List.set_cons_succ]
      refine wpAnyH_ready (rs := [4]) (by kernel_rfl) (by simp) ?_
      refine AllReadyH.cons rfl (fun K hK => ?_) AllReadyH.nil
      go_simp
      have hbx : Below V2.heap.size V2 (V2.alloc (.cells #[] 9)) := (Below.refl _ _).alloc (Nat.le_refl _) _
      have hzV3 := (two_boxes hB).2.2.2
      have zV3 : V2.heap.size < (V2.alloc (.cells #[] 9)).heap.size := by simp
      replace rN := rN.keep (hbx.block _ rN.lt)
      replace hB := next2 hB hbx
      clear hbx
      replace hHeld := blk_cell (two_boxes hB).1
      refine hK.out _ _ hHeld (fun hHeld2 => ?_)
      clear hK K hHeld2
      try simp only [Act.put, List.setIfInBounds_toArray, List.set_cons_zero, List.set_cons_succ]
      generalize V2.alloc (.cells #[] 9) = V3 at *
      refine wpAnyH_ready (rs := [7]) (by kernel_rfl) (by simp) ?_
      refine AllReadyH.cons rfl (fun K hK => ?_) AllReadyH.nil
      obtain ⟨cD, V4, hrun, rD, hbx⟩ := HQ2.out ⟨V2.heap.size, 0, none⟩ V3 (two_boxes hB).2.2.1
      have hzD := (two_boxes hB).2.2.2
      have zD := hbx.size
      refine wp_app (by kernel_rfl) (.tmp 7) (.tmp 9) 25 _ _ _ rfl rfl rfl rfl hrun ?_
      replace rN := rN.keep (hbx.block _ rN.lt)
      replace hB := next2 hB hbx
      clear hbx hrun
      replace hHeld := blk_cell (two_boxes hB).1
      refine hK.out _ _ hHeld (fun hHeld2 => ?_)
      clear hK K hHeld2
      try simp only [Act.put, List.setIfInBounds_toArray, List.set_cons_zero, List.set_cons_succ]
      refine wpAnyH_ready (rs := [10]) (by kernel_rfl) (by simp) ?_
      refine AllReadyH.cons rfl (fun K hK => ?_) AllReadyH.nil
      go_simp
      refine hK.out _ _ hHeld (fun hHeld2 => ?_)
      clear hK K hHeld2
      try simp only [Act.put, List.setIfInBounds_toArray, List.set_cons_zero, List.set_cons_succ]
      refine wpAnyH_ready (rs := [11]) (by kernel_rfl) (by simp) ?_
      refine AllReadyH.cons rfl (fun K hK => ?_) AllReadyH.nil
      obtain ⟨kA, kR, Bw, zw⟩ := two_boxes hB
      have cR := blk_cell kR
      have fR := blk_free kR
      have lN := rN.lt
      have lD := rD.lt
      have nN : V1.heap.size ≠ w.heap.size + 1 := by omega
      have nD : V3.heap.size ≠ w.heap.size + 1 := by omega
      go_simp
      refine hK.out _ _ (fun o => ?_) (fun hHeld2 => ?_)
      · exact (World.cell?_of_block (w := V4) (a := ⟨w.heap.size, o, none⟩) (((blk_set_ne (by show w.heap.size ≠ _; omega) _).trans (blk_set_ne (by show w.heap.size ≠ _; omega) _)).trans (blk_set_ne (by show w.heap.size ≠ _; omega) _))).trans (hHeld o)
      clear hK K hHeld2
      try simp only [Act.put, List.setIfInBounds_toArray, List.set_cons_zero, List.set_cons_succ]
      refine wpAnyH_done (by kernel_rfl) ?_ _
      go_wp2_with fail
      exact bodyPost_ret (v := .agg #[.slice (some ⟨V1.heap.size, 0, none⟩) n cN, .slice (some ⟨V3.heap.size, 0, none⟩) n cD, .int .i64 fr]) (by simp [results, Try.results30, go_sem, cR]) rfl ⟨_, _, _, _, rfl, by omega, by omega,
        rN.keep (by rw [blk_set_ne nN, blk_set_ne nN, blk_set_ne nN]), rD.keep (by rw [blk_set_ne nD, blk_set_ne nD, blk_set_ne nD]), ((Bw.setCell (by show _ ≤ _ + 1; omega) _).setCell (by show _ ≤ _ + 1; omega) _).setCell (by show _ ≤ _ + 1; omega) _⟩
    · go_simp
      have hbx : Below V1.heap.size V1 (V1.alloc (.cells #[] 9)) := (Below.refl _ _).alloc (Nat.le_refl _) _
      have hzV2 := (two_boxes hB).2.2.2
      have zV2 : V1.heap.size < (V1.alloc (.cells #[] 9)).heap.size := by simp
      replace hB := next2 hB hbx
      clear hbx
      replace hHeld := blk_cell (two_boxes hB).1
      refine hK.out _ _ hHeld (fun hHeld2 => ?_)
      clear hK K hHeld2
      try simp only [Act.put, List.setIfInBounds_toArray, List.set_cons_zero, List.set_cons_succ]
      generalize V1.alloc (.cells #[] 9) = V2 at *
      refine wpAnyH_ready (rs := [3]) (by kernel_rfl) (by simp) ?_
      refine AllReadyH.cons rfl (fun K hK => ?_) AllReadyH.nil
      obtain ⟨cN, V3, hrun, rN, hbx⟩ := HQ1.out ⟨V0.heap.size, 0, none⟩ V2 (two_boxes hB).2.2.1
      have hzN := (two_boxes hB).2.2.2
      have zN := hbx.size
      refine wp_app (by kernel_rfl) (.tmp 3) (.tmp 5) 24 _ _ _ rfl rfl rfl rfl hrun ?_
      replace hB := next2 hB hbx
      clear hbx hrun
      replace hHeld := blk_cell (two_boxes hB).1
      refine hK.out _ _ hHeld (fun hHeld2 => ?_)
      clear hK K hHeld2
      try simp only [Act.put, List.setIfInBounds_toArray, List.set_cons_zero, List.set_cons_succ]
      refine wpAnyH_ready (rs := [7]) (by kernel_rfl) (by simp) ?_
      refine AllReadyH.cons rfl (fun K hK => ?_) AllReadyH.nil
      obtain ⟨cD, V4, hrun, rD, hbx⟩ := HQ2.out ⟨V1.heap.size, 0, none⟩ V3 (two_boxes hB).2.2.1
      have hzD := (two_boxes hB).2.2.2
      have zD := hbx.size
      refine wp_app (by kernel_rfl) (.tmp 7) (.tmp 9) 25 _ _ _ rfl rfl rfl rfl hrun ?_
      replace rN := rN.keep (hbx.block _ rN.lt)
      replace hB := next2 hB hbx
      clear hbx hrun
      replace hHeld := blk_cell (two_boxes hB).1
      refine hK.out _ _ hHeld (fun hHeld2 => ?_)
      clear hK K hHeld2
      try simp only [Act.put, List.setIfInBounds_toArray, List.set_cons_zero, List.set_cons_succ]
      refine wpAnyH_ready (rs := [10]) (by kernel_rfl) (by simp) ?_
      refine AllReadyH.cons rfl (fun K hK => ?_) AllReadyH.nil
      go_simp
      refine hK.out _ _ hHeld (fun hHeld2 => ?_)
      clear hK K hHeld2
      try simp only [Act.put, List.setIfInBounds_toArray, List.set_cons_zero, List.set_cons_succ]
      refine wpAnyH_ready (rs := [11]) (by kernel_rfl) (by simp) ?_
      refine AllReadyH.cons rfl (fun K hK => ?_) AllReadyH.nil
      obtain ⟨kA, kR, Bw, zw⟩ := two_boxes hB
      have cR := blk_cell kR
      have fR := blk_free kR
      have lN := rN.lt
      have lD := rD.lt
      have nN : V2.heap.size ≠ w.heap.size + 1 := by omega
      have nD : V3.heap.size ≠ w.heap.size + 1 := by omega
      go_simp
      refine hK.out _ _ (fun o => ?_) (fun hHeld2 => ?_)
      · exact (World.cell?_of_block (w := V4) (a := ⟨w.heap.size, o, none⟩) (((blk_set_ne (by show w.heap.size ≠ _; omega) _).trans (blk_set_ne (by show w.heap.size ≠ _; omega) _)).trans (blk_set_ne (by show w.heap.size ≠ _; omega) _))).trans (hHeld o)
      clear hK K hHeld2
      try simp only [Act.put, List.setIfInBounds_toArray, List.set_cons_zero, List.set_cons_succ]
      refine wpAnyH_done (by kernel_rfl) ?_ _
      go_wp2_with fail
      exact bodyPost_ret (v := .agg #[.slice (some ⟨V2.heap.size, 0, none⟩) n cN, .slice (some ⟨V3.heap.size, 0, none⟩) n cD, .int .i64 fr]) (by simp [results, Try.results30, go_sem, cR]) rfl ⟨_, _, _, _, rfl, by omega, by omega,
        rN.keep (by rw [blk_set_ne nN, blk_set_ne nN, blk_set_ne nN]), rD.keep (by rw [blk_set_ne nD, blk_set_ne nD, blk_set_ne nD]), ((Bw.setCell (by show _ ≤ _ + 1; omega) _).setCell (by show _ ≤ _ + 1; omega) _).setCell (by show _ ≤ _ + 1; omega) _⟩
  · go_simp
    have hbx : Below V0.heap.size V0 (V0.alloc (.cells #[] 9)) := (Below.refl _ _).alloc (Nat.le_refl _) _
    have hzV1 := (two_boxes hB).2.2.2
    have zV1 : V0.heap.size < (V0.alloc (.cells #[] 9)).heap.size := by simp
    replace hB := next2 hB hbx
    clear hbx
    replace hHeld := blk_cell (two_boxes hB).1
    refine hK.out _ _ hHeld (fun hHeld2 => ?_)
    clear hK K hHeld2
    try simp only [Act.put, List.setIfInBounds_toArray, List.set_cons_zero, List.set_cons_succ]
    generalize V0.alloc (.cells #[] 9) = V1 at *
    refine wpAnyH_ready (rs := [0]) (by kernel_rfl) (by simp) ?_
    refine AllReadyH.cons rfl (fun K hK => ?_) AllReadyH.nil
    go_simp
    have hbx : Below V1.heap.size V1 (V1.alloc (.cells #[] 2)) := (Below.refl _ _).alloc (Nat.le_refl _) _
    have hzV2 := (two_boxes hB).2.2.2
    have zV2 : V1.heap.size < (V1.alloc (.cells #[] 2)).heap.size := by simp
    replace hB := next2 hB hbx
    clear hbx
    replace hHeld := blk_cell (two_boxes hB).1
    refine hK.out _ _ hHeld (fun hHeld2 => ?_)
    clear hK K hHeld2
    try simp only [Act.put, List.setIfInBounds_toArray, List.set_cons_zero, List.set_cons_succ]
    generalize V1.alloc (.cells #[] 2) = V2 at *
    refine wpAnyH_ready (rs := [3]) (by kernel_rfl) (by simp) ?_
    refine AllReadyH.cons rfl (fun K hK => ?_) AllReadyH.nil
    obtain ⟨cN, V3, hrun, rN, hbx⟩ := HQ1.out ⟨V1.heap.size, 0, none⟩ V2 (two_boxes hB).2.2.1
    have hzN := (two_boxes hB).2.2.2
    have zN := hbx.size
    refine wp_app (by kernel_rfl) (.tmp 3) (.tmp 5) 24 _ _ _ rfl rfl rfl rfl hrun ?_
    replace hB := next2 hB hbx
    clear hbx hrun
    replace hHeld := blk_cell (two_boxes hB).1
    refine hK.out _ _ hHeld (fun hHeld2 => ?_)
    clear hK K hHeld2
    try simp only [Act.put, List.setIfInBounds_toArray, List.set_cons_zero, List.set_cons_succ]
    refine wpAnyH_ready (rs := [7]) (by kernel_rfl) (by simp) ?_
    refine AllReadyH.cons rfl (fun K hK => ?_) AllReadyH.nil
    obtain ⟨cD, V4, hrun, rD, hbx⟩ := HQ2.out ⟨V0.heap.size, 0, none⟩ V3 (two_boxes hB).2.2.1
    have hzD := (two_boxes hB).2.2.2
    have zD := hbx.size
    refine wp_app (by kernel_rfl) (.tmp 7) (.tmp 9) 25 _ _ _ rfl rfl rfl rfl hrun ?_
    replace rN := rN.keep (hbx.block _ rN.lt)
    replace hB := next2 hB hbx
    clear hbx hrun
    replace hHeld := blk_cell (two_boxes hB).1
    refine hK.out _ _ hHeld (fun hHeld2 => ?_)
    clear hK K hHeld2
    try simp only [Act.put, List.setIfInBounds_toArray, List.set_cons_zero, List.set_cons_succ]
    refine wpAnyH_ready (rs := [10]) (by kernel_rfl) (by simp) ?_
    refine AllReadyH.cons rfl (fun K hK => ?_) AllReadyH.nil
    go_simp
    refine hK.out _ _ hHeld (fun hHeld2 => ?_)
    clear hK K hHeld2
    try simp only [Act.put, List.setIfInBounds_toArray, List.set_cons_zero, List.set_cons_succ]
    refine wpAnyH_ready (rs := [11]) (by kernel_rfl) (by simp) ?_
    refine AllReadyH.cons rfl (fun K hK => ?_) AllReadyH.nil
    obtain ⟨kA, kR, Bw, zw⟩ := two_boxes hB
    have cR := blk_cell kR
    have fR := blk_free kR
    have lN := rN.lt
    have lD := rD.lt
    have nN : V2.heap.size ≠ w.heap.size + 1 := by omega
    have nD : V3.heap.size ≠ w.heap.size + 1 := by omega
    go_simp
    refine hK.out _ _ (fun o => ?_) (fun hHeld2 => ?_)
    · exact (World.cell?_of_block (w := V4) (a := ⟨w.heap.size, o, none⟩) (((blk_set_ne (by show w.heap.size ≠ _; omega) _).trans (blk_set_ne (by show w.heap.size ≠ _; omega) _)).trans (blk_set_ne (by show w.heap.size ≠ _; omega) _))).trans (hHeld o)
    clear hK K hHeld2
    try simp only [Act.put, List.setIfInBounds_toArray, List.set_cons_zero, List.set_cons_succ]
    refine wpAnyH_done (by kernel_rfl) ?_ _
    go_wp2_with fail
    exact bodyPost_ret (v := .agg #[.slice (some ⟨V2.heap.size, 0, none⟩) n cN, .slice (some ⟨V3.heap.size, 0, none⟩) n cD, .int .i64 fr]) (by simp [results, Try.results30, go_sem, cR]) rfl ⟨_, _, _, _, rfl, by omega, by omega,
      rN.keep (by rw [blk_set_ne nN, blk_set_ne nN, blk_set_ne nN]), rD.keep (by rw [blk_set_ne nD, blk_set_ne nD, blk_set_ne nD]), ((Bw.setCell (by show _ ≤ _ + 1; omega) _).setCell (by show _ ≤ _ + 1; omega) _).setCell (by show _ ≤ _ + 1; omega) _⟩
end Go.Proofs.Ythkkogpegmmbdaa
