/- A lane made anew. -/
import Derived.Test.YtaiodombphpcgaaSwN
import Derived.Test.YtaiodombphpcgaaRnNewI
namespace Go.Proofs.Ytaiodombphpcgaa
open Go.RowKit
set_option linter.unusedVariables false
set_option linter.unusedSimpArgs false

theorem wp_stL {o : Oper} {a : Act} {K : Act → World → Prop} {Q : Exit → Act → World → Prop} {W : World} {cc : Prop} [Decidable cc] {E : Prop} (hc : cc) (d : Option Tmp) (hd : o.dst = d) (x y : Operand) (ho : o.op = .store 51 x y) (g : Nat) (hx : a.eval x = .pointer (some ⟨g, 0, none⟩))
    (cs : Array Value) (hy : a.eval y = .agg cs) (old : Array Value) (hk : W.heap[g]? = some (.cells old 51 (0, 0))) (hs : cs.size = 8) (ho2 : old.size = 8) (h1 : cs.all (·.oneCell') = true) (h : K (a.put d undef) (W.setRow g cs)) : if cc then o.wp Try.prog a W K Q else E := by
  subst hd
  rw [if_pos hc]
  exact wp_store_row 51 x y ho g cs hx hy 51 old hk (by rw [hs]; kernel_rfl) (by omega) h1 h
theorem res_cellL {fn : Func} {i : Tmp} (h : fn.results = #[.cell i 51]) (tmps : Array Value) (w : World) (g : Nat) (cs : Array Value) (hi : tmps[i]?.getD undef = .pointer (some ⟨g, 0, none⟩)) (hk : w.heap[g]? = some (.cells cs 51 (0, 0))) (hs : cs.size = 8) :
    (results fn tmps).run Try.prog w = .ok (.agg cs) w := by
  have := run_loadVar_row (P := Try.prog) w g 51 51 cs (0, 0) _ hk Try.underlying51 rfl (by rw [hs]; kernel_rfl)
  simp [results, h, hi, asAddr, this]
theorem laneQuanta_any (w : World) : Calls Try.prog 35 #[] w fun e w' => e = .returned (.slice (some ⟨w.heap.size, 0, none⟩) 2 2) ∧ w' = w.alloc (.cells #[.int .i64 2, .int .i64 4] 2) := by
  go_enter Try.func35, Try.ntmps35
  go_wp2_with fail
  go_ret
  exact ⟨rfl, rfl⟩
set_option maxRecDepth 100000 in
set_option maxHeartbeats 4000000 in
theorem iLaneNew_any (w : World) : Calls Try.prog 15 #[] w fun e w' => ∃ l : Ln, e = .returned (.agg l.cells) ∧ freshL l ∧ OwnRn w' w.heap.size l.R ∧ (VS w' w.heap.size l.aU 2 fun _ => .slice none 0 0) ∧ Below w.heap.size w w' := by
  have hB : Below w.heap.size w (w.alloc (.cells #[.bool false, .slice none 0 0, .slice none 0 0, .slice none 0 0, .slice none 0 0, .int .i64 0, .bool false, .slice none 0 0] 51)) := (Below.refl _ _).alloc (Nat.le_refl _) _
  have kz := blk_new w (.cells #[.bool false, .slice none 0 0, .slice none 0 0, .slice none 0 0, .slice none 0 0, .int .i64 0, .bool false, .slice none 0 0] 51)
  have hlt : w.heap.size + 1 ≤ (w.alloc (.cells #[.bool false, .slice none 0 0, .slice none 0 0, .slice none 0 0, .slice none 0 0, .int .i64 0, .bool false, .slice none 0 0] 51)).heap.size := by simp
  go_enter Try.func15, Try.ntmps15
  go_wp2_with fail
  generalize w.alloc (.cells #[.bool false, .slice none 0 0, .slice none 0 0, .slice none 0 0, .slice none 0 0, .int .i64 0, .bool false, .slice none 0 0] 51) = W0 at *
  refine (laneQuanta_any W0).mono ?_
  rintro e w1 ⟨rfl, rfl⟩
  have h2 := two_row W0
  have hb0 : Below W0.heap.size W0 (W0.alloc (.cells #[.int .i64 2, .int .i64 4] 2)) := (Below.refl _ _).alloc (Nat.le_refl _) _
  have hl2 : W0.heap.size ≤ (W0.alloc (.cells #[.int .i64 2, .int .i64 4] 2)).heap.size := hb0.size
  replace hB := hB.trans (hb0.mono hB.size)
  replace kz := (hb0.block _ (blk_lt kz)).trans kz
  clear hb0
  generalize W0.alloc (.cells #[.int .i64 2, .int .i64 4] 2) = W1 at *
  generalize W0.heap.size = s0 at *
  go_wp2_with fail
  refine (iRoundNew_any s0 0 2 2 qf W1 (by omega) h2 true ⟨fun _ => qf_ok, fun _ => rfl⟩).mono ?_
  rintro e w2 ⟨R, rfl, hR, hb, hAl⟩
  replace hB := hB.trans (hb.mono hB.size)
  replace kz := (hb.block _ (blk_lt kz)).trans kz
  replace hR : OwnRn w2 (w.heap.size + 1) R := hR.mono (by omega)
  obtain ⟨aQ, nQ, cQ, q, aD, nD, cD, d, turn, fresh, aS, nS, cS, A, L, C, z⟩ := R
  obtain rfl : nQ = 2 := hAl.nQ
  have HAl : Hid (Alike (newM 2 qf true) ⟨aQ, 2, cQ, q, aD, nD, cD, d, turn, fresh, aS, nS, cS, A, L, C, z⟩) := hAl
  have hA := (Below.refl w2.heap.size w2).alloc (Nat.le_refl _) (.cells #[.slice aQ 2 cQ, .slice aD nD cD, .int .i64 turn, .bool fresh, .slice aS nS cS] 49)
  have kR := blk_new w2 (.cells #[.slice aQ 2 cQ, .slice aD nD cD, .int .i64 turn, .bool fresh, .slice aS nS cS] 49)
  have hgr : w.heap.size + 1 ≤ w2.heap.size := by have := hb.size; omega
  replace hR := hR.up hA
  replace hB := hB.trans (hA.mono hB.size)
  replace kz := (hA.block _ (blk_lt kz)).trans kz
  clear hb hA hAl h2 hl2 hlt
  dsimp only [Rnd.cells]
  go_wp2_with fail
  generalize w2.alloc (.cells #[.slice aQ 2 cQ, .slice aD nD cD, .int .i64 turn, .bool fresh, .slice aS nS cS] 49) = W at *
  generalize w2.heap.size = gr at *
  refine wp_region_held_drew (S := fun w' => ∀ o, w'.cell? ⟨gr, o, none⟩ = (#[.slice aQ 2 cQ, .slice aD nD cD, .int .i64 turn, .bool fresh, .slice aS nS cS] : Array Value)[o]?) (by kernel_rfl) (fun o => blk_cell kR o) (fun hHeld => ?_)
  have hd := (Below.refl W.heap.size W).drew
  replace hR := hR.up hd
  replace kR := (hd.block _ (blk_lt kR)).trans kR
  replace kz := (hd.block _ (blk_lt kz)).trans kz
  have hgs := hd.size
  replace hB := hB.trans (hd.mono hB.size)
  clear hd hHeld hgs
  generalize W.drew = V at *
  have hHeld := blk_cell kR
  refine takeD (i := 0) (some 8) (v := ?_) rfl rfl (by kernel_rfl) (by kernel_rfl) (by kernel_rfl) (fun _ _ _ h => h) (by kernel_rfl) ?_ (by assumption) ?_
  rotate_left
  · intro wx hSw
    try dsimp only at hSw
    go_simp
    try (with_reducible rfl)
  try simp only [Act.put, List.setIfInBounds_toArray, List.set_cons_zero, List.set_cons_succ]
  refine takeD (i := 1) (some 9) (v := ?_) rfl rfl (by kernel_rfl) (by kernel_rfl) (by kernel_rfl) (fun _ _ _ h => h) (by kernel_rfl) ?_ (by assumption) ?_
  rotate_left
  · intro wx hSw
    try dsimp only at hSw
    go_simp
    try (with_reducible rfl)
  try simp only [Act.put, List.setIfInBounds_toArray, List.set_cons_zero, List.set_cons_succ]
  refine takeD (i := 2) (some 10) (v := ?_) rfl rfl (by kernel_rfl) (by kernel_rfl) (by kernel_rfl) (fun _ _ _ h => h) (by kernel_rfl) ?_ (by assumption) ?_
  rotate_left
  · intro wx hSw
    try dsimp only at hSw
    go_simp
    try (with_reducible rfl)
  try simp only [Act.put, List.setIfInBounds_toArray, List.set_cons_zero, List.set_cons_succ]
  refine takeD (i := 4) (some 12) (v := ?_) rfl rfl (by kernel_rfl) (by kernel_rfl) (by kernel_rfl) (fun _ _ _ h => h) (by kernel_rfl) ?_ (by assumption) ?_
  rotate_left
  · intro wx hSw
    try dsimp only at hSw
    go_simp
    try (with_reducible rfl)
  try simp only [Act.put, List.setIfInBounds_toArray, List.set_cons_zero, List.set_cons_succ]
  refine wpAnyH_ready (rs := [3]) (by kernel_rfl) (by simp) ?_
  refine AllReadyH.cons rfl (fun K hK => ?_) AllReadyH.nil
  · have m := make_two V
    go_simp
    clear m
    have hA := (Below.refl V.heap.size V).alloc (Nat.le_refl _) (.cells (zSls 2) 28)
    have kU := blk_new V (.cells (zSls 2) 28)
    have gUl : w.heap.size + 1 ≤ V.heap.size := by have := blk_lt kR; omega
    replace hR := hR.up hA
    replace kR := (hA.block _ (blk_lt kR)).trans kR
    replace kz := (hA.block _ (blk_lt kz)).trans kz
    replace hB := hB.trans (hA.mono hB.size)
    clear hA hHeld
    refine hK.out _ _ (blk_cell kR) (fun hHeld => ?_)
    clear hK K
    try simp only [Act.put, List.setIfInBounds_toArray, List.set_cons_zero, List.set_cons_succ]
    generalize V.heap.size = gU at *
    generalize V.alloc (.cells (zSls 2) 28) = V at *
    refine takeD (i := 5) (some 13) (v := ?_) rfl rfl (by kernel_rfl) (by kernel_rfl) (by kernel_rfl) (fun _ _ _ h => h) (by kernel_rfl) ?_ (by assumption) ?_
    rotate_left
    · intro wx hSw
      try dsimp only at hSw
      go_simp
      try (with_reducible rfl)
    try simp only [Act.put, List.setIfInBounds_toArray, List.set_cons_zero, List.set_cons_succ]
    refine wpAnyH_ready (rs := [6]) (by kernel_rfl) (by simp) ?_
    refine AllReadyH.cons rfl (fun K hK => ?_) AllReadyH.nil
    · have ht := setRow_touch V w.heap.size #[.bool false, .slice none 0 0, .slice (some ⟨gU, 0, none⟩) 2 2, .slice aQ 2 cQ, .slice aD nD cD, .int .i64 turn, .bool fresh, .slice aS nS cS]
      have kz3 := setRow_blk (cs := #[.bool false, .slice none 0 0, .slice (some ⟨gU, 0, none⟩) 2 2, .slice aQ 2 cQ, .slice aD nD cD, .int .i64 turn, .bool fresh, .slice aS nS cS]) kz
      have kR2 := (ht.block gr (blk_lt kR) (by simp; omega)).trans kR
      have kU2 := (ht.block gU (blk_lt kU) (by simp; omega)).trans kU
      have cR2 := blk_cell kR2
      have HF : Hid (OwnRn (V.setRow w.heap.size #[.bool false, .slice none 0 0, .slice (some ⟨gU, 0, none⟩) 2 2, .slice aQ 2 cQ, .slice aD nD cD, .int .i64 turn, .bool fresh, .slice aS nS cS]) w.heap.size ⟨aQ, 2, cQ, q, aD, nD, cD, d, turn, fresh, aS, nS, cS, A, L, C, z⟩) := (hR.touch ht (fun x hx => by simp at hx; omega)).mono (by omega)
      have HU : Hid (VS (V.setRow w.heap.size #[.bool false, .slice none 0 0, .slice (some ⟨gU, 0, none⟩) 2 2, .slice aQ 2 cQ, .slice aD nD cD, .int .i64 turn, .bool fresh, .slice aS nS cS]) w.heap.size (some ⟨gU, 0, none⟩) 2 fun _ => .slice none 0 0) := two_vs (by omega) kU2
      have HB : Hid (Below w.heap.size w (V.setRow w.heap.size #[.bool false, .slice none 0 0, .slice (some ⟨gU, 0, none⟩) 2 2, .slice aQ 2 cQ, .slice aD nD cD, .int .i64 turn, .bool fresh, .slice aS nS cS])) := hB.trans (ht.below hB.size (fun x hx => by simp at hx; omega))
      have HK3 : Hid ((V.setRow w.heap.size #[.bool false, .slice none 0 0, .slice (some ⟨gU, 0, none⟩) 2 2, .slice aQ 2 cQ, .slice aD nD cD, .int .i64 turn, .bool fresh, .slice aS nS cS]).heap[w.heap.size]? = some (.cells #[.bool false, .slice none 0 0, .slice (some ⟨gU, 0, none⟩) 2 2, .slice aQ 2 cQ, .slice aD nD cD, .int .i64 turn, .bool fresh, .slice aS nS cS] 51 (0, 0))) := kz3
      refine wp_stL (by kernel_rfl) none rfl (.tmp 0) (.tmp 13) rfl w.heap.size rfl #[.bool false, .slice none 0 0, .slice (some ⟨gU, 0, none⟩) 2 2, .slice aQ 2 cQ, .slice aD nD cD, .int .i64 turn, .bool fresh, .slice aS nS cS] rfl #[.bool false, .slice none 0 0, .slice none 0 0, .slice none 0 0, .slice none 0 0, .int .i64 0, .bool false, .slice none 0 0] kz rfl rfl (by simp [Value.oneCell']) ?_
      clear kz ht kz3 kR2 kU2 hR kU kR hB hHeld
      refine hK.out _ _ cR2 (fun hHeld => ?_)
      clear hK K cR2
      try simp only [Act.put, List.setIfInBounds_toArray, List.set_cons_zero, List.set_cons_succ]
      generalize V.setRow w.heap.size #[.bool false, .slice none 0 0, .slice (some ⟨gU, 0, none⟩) 2 2, .slice aQ 2 cQ, .slice aD nD cD, .int .i64 turn, .bool fresh, .slice aS nS cS] = WF at *
      refine wpAnyH_done (by kernel_rfl) ?_ _
      clear hHeld
      go_wp2_with fail
      exact bodyPost_ret (res_cellL Try.results15 _ _ w.heap.size _ rfl HK3.out rfl) rfl ⟨⟨false, some ⟨gU, 0, none⟩, 2, ⟨aQ, 2, cQ, q, aD, nD, cD, d, turn, fresh, aS, nS, cS, A, L, C, z⟩⟩, rfl, ⟨rfl, HAl.out⟩, HF.out, HU.out, HB.out⟩
end Go.Proofs.Ytaiodombphpcgaa
