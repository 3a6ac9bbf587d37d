/- A table that learns: the specification's answer. -/
import Derived.Test.YtfpomccgmligbaaSLrnM
namespace Go.Proofs.Ytfpomccgmligbaa
open Go.RowKit
set_option linter.unusedVariables false
set_option linter.unusedSimpArgs false

set_option maxHeartbeats 4000000 in
theorem l3Learned_any (a : Option Addr) (n cap : Nat) (f : Nat → Ent) (m p t : Int) (w : World) (hok : tabOk n f) (h : RdEnt w a n f) :
    Calls Try.prog 27 #[.slice a n cap, .int .i64 m, .int .i64 p, .int .i64 t] w fun e w' => ∃ v, e = .returned v ∧ OwnL w' w.heap.size v (learnedL (entsL n f) ⟨m, p, t⟩) ∧ Below w.heap.size w w' := by
  have HR : Hid (RdEnt w a n f) := h
  have HT : Hid (tabOk n f) := hok
  have HO : Hid (entsOk n f) := hok.2
  have h8 := hok.1
  clear h hok
  obtain ⟨i0, hi, hz0, hz1, hz2⟩ := info_parts infoE
  have HI : Hid (Out w ((w.alloc (.cells #[] 31)).alloc (.cells #[.int .i64 m, .int .i64 p, .int .i64 t] 31)) (.slice (some ⟨w.heap.size, 0, none⟩) 0 0) [] ⟨m, p, t⟩) := by
    have e1 : (w.alloc (.cells #[] 31)).heap.size = w.heap.size + 1 := by simp
    have hE := OwnL.empty w w.heap.size (Nat.le_refl _)
    refine ⟨hE.up ((Below.refl _ _).alloc (Nat.le_refl _) _), ((Below.refl _ _).alloc (Nat.le_refl _) _).alloc (by omega) _, ?_, by simp [Value.ownBlock]⟩
    rw [← e1]; exact blk_new _ _
  go_enter Try.func27, Try.ntmps27
  go_wp2_with fail
  go_loopw [9, 11, 12] (fun v d i wr => ∃ (k : Nat) (b : Bool) (L : List Ent), k ≤ n ∧ i = .int .i64 k ∧ d = .bool b ∧ St1 f ⟨m, p, t⟩ k b L ∧ Out w wr v L ⟨m, p, t⟩) (fun _ _ i _ => n - (intOf i).toNat)
  case atStart => exact ⟨0, false, [], Nat.zero_le _, rfl, rfl, .inl ⟨rfl, fun y hy => by simp [entsL] at hy, rfl⟩, HI.out⟩
  case round =>
    obtain ⟨k, d, L, hk, rfl, rfl, hst, hO⟩ := hrel
    have hL := st1_len hst
    clear HI
    have cX := blk_cell hO.box
    by_cases hlt : k < n
    · have hlt' : (k : Int) < n := by omega
      obtain ⟨g, o, rfl, c1, c2, c3⟩ := (HR.out.up hO.below) k hlt
      cases d
      · have HSt : Hid (St1 f ⟨m, p, t⟩ k false L) := hst
        clear hst
        rcases Int.lt_trichotomy (f k).m m with hm | hm | hm
        · have HS : Hid (St1 f ⟨m, p, t⟩ (k + 1) false (L ++ [f k])) := st1_less HSt.out hm
          generalize f k = y at *
          obtain ⟨ym, yp, yt⟩ := y
          dsimp only at c1 c2 c3 hm
          have h1 : ¬ m ≤ ym := by omega
          have h2 : (ym != m) = true := by simp; omega
          go_wp2_with (at_builtin; refine wpList_append_own_at _ rfl (.tmp 48) (.tmp 53) 24 rfl w.heap.size 31 i0 (.agg #[.int .i64 0, .int .i64 0, .int .i64 0]) 3 24 Try.underlying24 hi hz0 hz1 hz2 rfl (by decide) _ (L.length) _ rfl (World.ownsRow.alloc hO.own _) ⟨wr.heap.size, 0, none⟩ 1 1 (cellsE ⟨ym, yp, yt⟩) rfl rfl (cells_three_new wr ⟨ym, yp, yt⟩ _) (oneE _) (by unfold maxLen; omega) (by omega) (by have := hO.below.size; simp; omega) ?_; intro v2 w2 hown2 hgrow2 hnil2 hat2; obtain ⟨gg2, cap2, rfl⟩ := own_succ hown2; have hO2 := hO.app hown2 hgrow2 hat2; clear hown2 hgrow2 hnil2 hat2)
          clear cX c1 c2 c3 hO
          go_roundw
          case rel => exact ⟨k + 1, false, _, by omega, by go_num, rfl, HS.out, hO2⟩
          case measure => simp [intOf]; omega
        · have HS : Hid (St1 f ⟨m, p, t⟩ (k + 1) true (L ++ [⟨m, p, t⟩])) := st1_same HSt.out hm
          have HRk : Hid (∀ w2, Below w.heap.size w w2 → w2.cell? ⟨g, o + k * 3, none⟩ = some (.int .i64 (f k).m)) := fun w2 hb => by
            obtain ⟨g', o', eg, c, _, _⟩ := (HR.out.up hb) k hlt
            cases eg; exact c
          generalize f k = y at *
          obtain ⟨ym, yp, yt⟩ := y
          dsimp only at c1 c2 c3 hm HRk
          have h1 : m ≤ ym := by omega
          have h2 : (ym != m) = false := by simp [hm]
          clear hm
          go_wp2_with ((at_builtin; refine wpList_append_own_at _ rfl (.tmp 37) (.tmp 39) 24 rfl w.heap.size 31 i0 (.agg #[.int .i64 0, .int .i64 0, .int .i64 0]) 3 24 Try.underlying24 hi hz0 hz1 hz2 rfl (by decide) _ (L.length) _ rfl (World.ownsRow.alloc hO.own _) ⟨wr.heap.size, 0, none⟩ 1 1 (cellsE ⟨m, p, t⟩) rfl rfl (cells_three_new wr ⟨m, p, t⟩ _) (oneE _) (by unfold maxLen; omega) (by omega) (by have := hO.below.size; simp; omega) ?_; intro v2 w2 hown2 hgrow2 hnil2 hat2; obtain ⟨gg2, cap2, rfl⟩ := own_succ hown2; have hO2 := hO.app hown2 hgrow2 hat2; clear hown2 hgrow2 hnil2 hat2); have c1 := HRk.out _ hO2.below)
          clear cX c1 c2 c3 hO
          go_roundw
          case rel => exact ⟨k + 1, true, _, by omega, by go_num, rfl, HS.out, hO2⟩
          case measure => simp [intOf]; omega
        · have HS : Hid (St1 f ⟨m, p, t⟩ (k + 1) true (L ++ [⟨m, p, t⟩] ++ [f k])) := st1_more HSt.out hm
          have HRk : Hid (∀ w2, Below w.heap.size w w2 → w2.cell? ⟨g, o + k * 3, none⟩ = some (.int .i64 (f k).m) ∧ w2.cell? ⟨g, o + k * 3 + 1, none⟩ = some (.int .i64 (f k).p) ∧ w2.cell? ⟨g, o + k * 3 + 2, none⟩ = some (.int .i64 (f k).t)) := fun w2 hb => by
            obtain ⟨g', o', eg, ca, cb, cc⟩ := (HR.out.up hb) k hlt
            cases eg; exact ⟨ca, cb, cc⟩
          generalize f k = y at *
          obtain ⟨ym, yp, yt⟩ := y
          dsimp only at c1 c2 c3 hm HRk
          have h1 : m ≤ ym := by omega
          have h2 : (ym != m) = true := by simp; omega
          have hLL : (L ++ [(⟨m, p, t⟩ : Ent)]).length = L.length + 1 := by simp
          go_wp2_with (first | ((at_builtin; refine wpList_append_own_at _ rfl (.tmp 37) (.tmp 39) 24 rfl w.heap.size 31 i0 (.agg #[.int .i64 0, .int .i64 0, .int .i64 0]) 3 24 Try.underlying24 hi hz0 hz1 hz2 rfl (by decide) _ (L.length) _ rfl (World.ownsRow.alloc hO.own _) ⟨wr.heap.size, 0, none⟩ 1 1 (cellsE ⟨m, p, t⟩) rfl rfl (cells_three_new wr ⟨m, p, t⟩ _) (oneE _) (by unfold maxLen; omega) (by omega) (by have := hO.below.size; simp; omega) ?_; intro v2 w2 hown2 hgrow2 hnil2 hat2; obtain ⟨gg2, cap2, rfl⟩ := own_succ hown2; have hO2 := hO.app hown2 hgrow2 hat2; clear hown2 hgrow2 hnil2 hat2); obtain ⟨c1, c2, c3⟩ := HRk.out _ hO2.below) | (at_builtin; refine wpList_append_own_at _ rfl (.tmp 48) (.tmp 53) 24 rfl w.heap.size 31 i0 (.agg #[.int .i64 0, .int .i64 0, .int .i64 0]) 3 24 Try.underlying24 hi hz0 hz1 hz2 rfl (by decide) _ ((L ++ [(⟨m, p, t⟩ : Ent)]).length) _ rfl (World.ownsRow.alloc hO2.own _) ⟨w2.heap.size, 0, none⟩ 1 1 (cellsE ⟨ym, yp, yt⟩) rfl rfl (cells_three_new w2 ⟨ym, yp, yt⟩ _) (oneE _) (by unfold maxLen; omega) (by omega) (by have := hO2.below.size; simp; omega) ?_; intro v3 w3 hown3 hgrow3 hnil3 hat3; obtain ⟨gg3, cap3, rfl⟩ := own_succ hown3; have hO3 := hO2.app hown3 hgrow3 hat3; clear hown3 hgrow3 hnil3 hat3))
          clear cX c1 c2 c3 hO hO2
          go_roundw
          case rel => exact ⟨k + 1, true, _, by omega, by go_num, rfl, HS.out, by rw [hLL] at hO3; exact hO3⟩
          case measure => simp [intOf]; omega
      · obtain ⟨hm, hs⟩ := st1_done HO.out hlt hst
        have HS : Hid (St1 f ⟨m, p, t⟩ (k + 1) true (L ++ [f k])) := hs
        clear hst hs
        generalize f k = y at *
        obtain ⟨ym, yp, yt⟩ := y
        dsimp only at c1 c2 c3 hm
        have h2 : (ym != m) = true := by simp; omega
        go_wp2_with (at_builtin; refine wpList_append_own_at _ rfl (.tmp 48) (.tmp 53) 24 rfl w.heap.size 31 i0 (.agg #[.int .i64 0, .int .i64 0, .int .i64 0]) 3 24 Try.underlying24 hi hz0 hz1 hz2 rfl (by decide) _ (L.length) _ rfl (World.ownsRow.alloc hO.own _) ⟨wr.heap.size, 0, none⟩ 1 1 (cellsE ⟨ym, yp, yt⟩) rfl rfl (cells_three_new wr ⟨ym, yp, yt⟩ _) (oneE _) (by unfold maxLen; omega) (by omega) (by have := hO.below.size; simp; omega) ?_; intro v2 w2 hown2 hgrow2 hnil2 hat2; obtain ⟨gg2, cap2, rfl⟩ := own_succ hown2; have hO2 := hO.app hown2 hgrow2 hat2; clear hown2 hgrow2 hnil2 hat2)
        clear cX c1 c2 c3 hO
        go_roundw
        case rel => exact ⟨k + 1, true, _, by omega, by go_num, rfl, HS.out, hO2⟩
        case measure => simp [intOf]; omega
    · obtain rfl : k = n := by omega
      have HE : Hid ((if d then L else L ++ [⟨m, p, t⟩]) = insE ⟨m, p, t⟩ (notM m (entsL k f))) := st1_end hst
      clear hst
      have hb8 : L.length ≤ 9 := by omega
      cases d
      · have HE2 : Hid (L ++ [⟨m, p, t⟩] = insE ⟨m, p, t⟩ (notM m (entsL k f))) := HE.out
        by_cases h9 : L.length + 1 ≤ 8
        · have h9' : ((L.length + 1 : Nat) : Int) ≤ 8 := by omega
          have HQ : Hid (L ++ [⟨m, p, t⟩] = learnedL (entsL k f) ⟨m, p, t⟩) := by
            rw [Hid, HE2.out]; exact learned_short (by rw [← HE2.out]; simp; omega)
          go_wp2_with (at_builtin; refine wpList_append_own_at _ rfl (.tmp 57) (.tmp 59) 24 rfl w.heap.size 31 i0 (.agg #[.int .i64 0, .int .i64 0, .int .i64 0]) 3 24 Try.underlying24 hi hz0 hz1 hz2 rfl (by decide) _ (L.length) _ rfl (World.ownsRow.alloc hO.own _) ⟨wr.heap.size, 0, none⟩ 1 1 (cellsE ⟨m, p, t⟩) rfl rfl (cells_three_new wr ⟨m, p, t⟩ _) (oneE _) (by unfold maxLen; omega) (by omega) (by have := hO.below.size; simp; omega) ?_; intro v2 w2 hown2 hgrow2 hnil2 hat2; obtain ⟨gg2, cap2, rfl⟩ := own_succ hown2; have hO2 := hO.app hown2 hgrow2 hat2; clear hown2 hgrow2 hnil2 hat2)
          go_ret
          exact ⟨_, rfl, by rw [← HQ.out]; exact hO2.own, hO2.below⟩
        · have h9' : ¬ ((L.length + 1 : Nat) : Int) ≤ 8 := by omega
          go_wp2_with (at_builtin; refine wpList_append_own_at _ rfl (.tmp 57) (.tmp 59) 24 rfl w.heap.size 31 i0 (.agg #[.int .i64 0, .int .i64 0, .int .i64 0]) 3 24 Try.underlying24 hi hz0 hz1 hz2 rfl (by decide) _ (L.length) _ rfl (World.ownsRow.alloc hO.own _) ⟨wr.heap.size, 0, none⟩ 1 1 (cellsE ⟨m, p, t⟩) rfl rfl (cells_three_new wr ⟨m, p, t⟩ _) (oneE _) (by unfold maxLen; omega) (by omega) (by have := hO.below.size; simp; omega) ?_; intro v2 w2 hown2 hgrow2 hnil2 hat2; obtain ⟨gg2, cap2, rfl⟩ := own_succ hown2; have hO2 := hO.app hown2 hgrow2 hat2; clear hown2 hgrow2 hnil2 hat2)
          have hMl : (L ++ [(⟨m, p, t⟩ : Ent)]).length = L.length + 1 := by simp
          have HM : Hid (L ++ [(⟨m, p, t⟩ : Ent)] = insE ⟨m, p, t⟩ (notM m (entsL k f))) := HE2.out
          have h9N : L.length + 1 ≤ 10 ∧ ¬ L.length + 1 ≤ 8 := ⟨by omega, h9⟩
          generalize hMM : L ++ [(⟨m, p, t⟩ : Ent)] = M at *
          generalize hNN : L.length + 1 = N at *
          have HN : Hid (M.length = N) := hMl
          have HO2 : Hid (Out w w2 (.slice (some ⟨gg2, 0, none⟩) N cap2) M ⟨m, p, t⟩) := hO2
          have hrow : RowTo gg2 31 (N * 3) (flat fun i => M.getD i default) (N * 3) w2 := by
            rcases hO2.own.row with ⟨e, _⟩ | ⟨g', cap', e, _, hr⟩
            · cases e
            · cases e; rw [hMl] at hr; exact hr
          obtain ⟨fo, hfo⟩ : ∃ fo : Nat → Ent, fo = fun i => M.getD i default := ⟨_, rfl⟩
          have HFo : Hid (fo = fun i => M.getD i default) := hfo
          rw [← hfo] at hrow
          have HRw : Hid (RowTo gg2 31 (N * 3) (flat fo) (N * 3) w2) := hrow
          obtain ⟨wB, hwB⟩ : ∃ wB : World, wB = w2 := ⟨_, rfl⟩
          have HWB : Hid (wB = w2) := hwB
          have hN10 := h9N.1
          have HLong : Hid (∀ o, o < M.length → bestO (notM m M) = some (M.getD o default) → M.take o ++ M.drop (o + 1) = learnedL (entsL k f) ⟨m, p, t⟩) := fun o ho hb => by
            rw [HM.out] at ho hb ⊢
            exact learned_long (x := ⟨m, p, t⟩) (entsL_sorted HO.out) (by rw [entsL_len]; exact h8) (by
              have hh := h9N.2
              rw [← hMl, HM.out] at hh
              exact hh) ho hb
          have HNe : Hid (notM m M ≠ []) := fun e => by
            rw [HM.out] at e
            have e2 : notM m (notM m (entsL k f)) = [] := by
              have := notM_insE_self ⟨m, p, t⟩ (notM m (entsL k f))
              exact this.symm.trans e
            rw [notM_all (fun y hy => notM_ne hy)] at e2
            have e3 := congrArg List.length HM.out
            rw [insE_len, e2, hMl] at e3
            have := h9N.2
            simp at e3
            omega
          have H9N : Hid (¬ N ≤ 8) := h9N.2
          clear hrow hfo hO2 hMl h9N h9 h9' cX hO hwB
          go_loopw [13, 14] (fun old i wr => ∃ (k : Nat) (q : Int), k ≤ N ∧ i = .int .i64 k ∧ old = .int .i64 q ∧ St2 fo m k q ∧ Same wB wr) (fun _ i _ => N - (intOf i).toNat)
          case atStart => exact ⟨0, -1, Nat.zero_le _, rfl, rfl, .inl ⟨rfl, by simp [entsL, notM]⟩, by rw [HWB.out]; exact Same.refl _⟩
          case round =>
            obtain ⟨k, q, hk, rfl, rfl, hst, hS⟩ := hrel
            have HSt : Hid (St2 fo m k q) := hst
            have HSm : Hid (Same wB wr) := hS
            have HC : Hid (∀ i, i < N → wr.cell? ⟨gg2, i * 3, none⟩ = some (.int .i64 (fo i).m) ∧ wr.cell? ⟨gg2, i * 3 + 2, none⟩ = some (.int .i64 (fo i).t)) := fun i hi => by
              rw [hS.cell, hS.cell, HWB.out, HRw.out.at _ (by omega), HRw.out.at _ (by omega), flat0, flat2]
              exact ⟨rfl, rfl⟩
            clear hst hS
            by_cases hlt : k < N
            · have hlt' : (k : Int) < N := by omega
              obtain ⟨q1, q2⟩ := HC.out k hlt
              by_cases hm : (fo k).m = m
              · have hmq : ((fo k).m != m) = false := by simp [hm]
                have HS2 : Hid (St2 fo m (k + 1) q) := st2_pass HSt.out hm
                clear hm
                go_wp2_with fail
                refine wp_region_held_drew (S := fun w' => w'.cell? ⟨gg2, k * 3, none⟩ = some (.int .i64 (fo k).m) ∧ w'.cell? ⟨gg2, k * 3 + 2, none⟩ = some (.int .i64 (fo k).t)) (by kernel_rfl) ⟨q1, q2⟩ (fun hHeld => ?_)
                refine takeD (i := 0) (some 71) (v := ?_) rfl rfl (by kernel_rfl) (by kernel_rfl) (by kernel_rfl) (fun _ _ _ h => h) (by kernel_rfl) ?_ (by assumption) ?_
                rotate_left
                · intro wx hSw
                  obtain ⟨hS1, hS2⟩ := hSw
                  go_simp
                  try (with_reducible rfl)
                try simp only [Act.put, List.setIfInBounds_toArray, List.set_cons_zero, List.set_cons_succ]
                refine takeD (i := 1) (some 72) (v := ?_) rfl rfl (by kernel_rfl) (by kernel_rfl) (by kernel_rfl) (fun _ _ _ h => h) (by kernel_rfl) ?_ (by assumption) ?_
                rotate_left
                · intro wx hSw
                  obtain ⟨hS1, hS2⟩ := hSw
                  go_simp
                  try (with_reducible rfl)
                try simp only [Act.put, List.setIfInBounds_toArray, List.set_cons_zero, List.set_cons_succ]
                refine takeD (i := 2) (some 73) (v := ?_) rfl rfl (by kernel_rfl) (by kernel_rfl) (by kernel_rfl) (fun _ _ _ h => h) (by kernel_rfl) ?_ (by assumption) ?_
                rotate_left
                · intro wx hSw
                  obtain ⟨hS1, hS2⟩ := hSw
                  go_simp
                  try (with_reducible rfl)
                try simp only [Act.put, List.setIfInBounds_toArray, List.set_cons_zero, List.set_cons_succ]
                refine takeD (i := 3) (some 74) (v := ?_) rfl rfl (by kernel_rfl) (by kernel_rfl) (by kernel_rfl) (fun _ _ _ h => h) (by kernel_rfl) ?_ (by assumption) ?_
                rotate_left
                · intro wx hSw
                  obtain ⟨hS1, hS2⟩ := hSw
                  go_simp
                  try (with_reducible rfl)
                try simp only [Act.put, List.setIfInBounds_toArray, List.set_cons_zero, List.set_cons_succ]
                refine takeD (i := 4) (some 75) (v := ?_) rfl rfl (by kernel_rfl) (by kernel_rfl) (by kernel_rfl) (fun _ _ _ h => h) (by kernel_rfl) ?_ (by assumption) ?_
                rotate_left
                · intro wx hSw
                  obtain ⟨hS1, hS2⟩ := hSw
                  go_simp
                  try (with_reducible rfl)
                try simp only [Act.put, List.setIfInBounds_toArray, List.set_cons_zero, List.set_cons_succ]
                refine takeD (i := 5) (some 76) (v := ?_) rfl rfl (by kernel_rfl) (by kernel_rfl) (by kernel_rfl) (fun _ _ _ h => h) (by kernel_rfl) ?_ (by assumption) ?_
                rotate_left
                · intro wx hSw
                  obtain ⟨hS1, hS2⟩ := hSw
                  go_simp
                  try (with_reducible rfl)
                try simp only [Act.put, List.setIfInBounds_toArray, List.set_cons_zero, List.set_cons_succ]
                refine takeD (i := 6) (some 77) (v := ?_) rfl rfl (by kernel_rfl) (by kernel_rfl) (by kernel_rfl) (fun _ _ _ h => h) (by kernel_rfl) ?_ (by assumption) ?_
                rotate_left
                · intro wx hSw
                  obtain ⟨hS1, hS2⟩ := hSw
                  go_simp
                  try (with_reducible rfl)
                try simp only [Act.put, List.setIfInBounds_toArray, List.set_cons_zero, List.set_cons_succ]
                refine takeD (i := 7) (some 78) (v := ?_) rfl rfl (by kernel_rfl) (by kernel_rfl) (by kernel_rfl) (fun _ _ _ h => h) (by kernel_rfl) ?_ (by assumption) ?_
                rotate_left
                · intro wx hSw
                  obtain ⟨hS1, hS2⟩ := hSw
                  go_simp
                  try (with_reducible rfl)
                try simp only [Act.put, List.setIfInBounds_toArray, List.set_cons_zero, List.set_cons_succ]
                refine skipD (i := 8) (some 79) rfl rfl (by kernel_rfl) (by kernel_rfl) (by kernel_rfl) (fun _ _ _ h => h) (by kernel_rfl) (by assumption) ?_
                try simp only [Act.put, List.setIfInBounds_toArray, List.set_cons_zero, List.set_cons_succ]
                refine skipD (i := 9) (some 80) rfl rfl (by kernel_rfl) (by kernel_rfl) (by kernel_rfl) (fun _ _ _ h => h) (by kernel_rfl) (by assumption) ?_
                try simp only [Act.put, List.setIfInBounds_toArray, List.set_cons_zero, List.set_cons_succ]
                refine skipD (i := 10) (some 81) rfl rfl (by kernel_rfl) (by kernel_rfl) (by kernel_rfl) (fun _ _ _ h => h) (by kernel_rfl) (by assumption) ?_
                try simp only [Act.put, List.setIfInBounds_toArray, List.set_cons_zero, List.set_cons_succ]
                refine skipD (i := 11) (some 82) rfl rfl (by kernel_rfl) (by kernel_rfl) (by kernel_rfl) (fun _ _ _ h => h) (by kernel_rfl) (by assumption) ?_
                try simp only [Act.put, List.setIfInBounds_toArray, List.set_cons_zero, List.set_cons_succ]
                refine skipD (i := 12) (some 83) rfl rfl (by kernel_rfl) (by kernel_rfl) (by kernel_rfl) (fun _ _ _ h => h) (by kernel_rfl) (by assumption) ?_
                try simp only [Act.put, List.setIfInBounds_toArray, List.set_cons_zero, List.set_cons_succ]
                refine skipD (i := 13) (some 84) rfl rfl (by kernel_rfl) (by kernel_rfl) (by kernel_rfl) (fun _ _ _ h => h) (by kernel_rfl) (by assumption) ?_
                try simp only [Act.put, List.setIfInBounds_toArray, List.set_cons_zero, List.set_cons_succ]
                refine skipD (i := 14) (some 85) rfl rfl (by kernel_rfl) (by kernel_rfl) (by kernel_rfl) (fun _ _ _ h => h) (by kernel_rfl) (by assumption) ?_
                try simp only [Act.put, List.setIfInBounds_toArray, List.set_cons_zero, List.set_cons_succ]
                refine skipD (i := 15) (some 86) rfl rfl (by kernel_rfl) (by kernel_rfl) (by kernel_rfl) (fun _ _ _ h => h) (by kernel_rfl) (by assumption) ?_
                try simp only [Act.put, List.setIfInBounds_toArray, List.set_cons_zero, List.set_cons_succ]
                refine skipD (i := 16) (some 87) rfl rfl (by kernel_rfl) (by kernel_rfl) (by kernel_rfl) (fun _ _ _ h => h) (by kernel_rfl) (by assumption) ?_
                try simp only [Act.put, List.setIfInBounds_toArray, List.set_cons_zero, List.set_cons_succ]
                refine skipD (i := 17) (some 88) rfl rfl (by kernel_rfl) (by kernel_rfl) (by kernel_rfl) (fun _ _ _ h => h) (by kernel_rfl) (by assumption) ?_
                try simp only [Act.put, List.setIfInBounds_toArray, List.set_cons_zero, List.set_cons_succ]
                refine skipD (i := 18) (some 89) rfl rfl (by kernel_rfl) (by kernel_rfl) (by kernel_rfl) (fun _ _ _ h => h) (by kernel_rfl) (by assumption) ?_
                try simp only [Act.put, List.setIfInBounds_toArray, List.set_cons_zero, List.set_cons_succ]
                refine skipD (i := 19) (some 90) rfl rfl (by kernel_rfl) (by kernel_rfl) (by kernel_rfl) (fun _ _ _ h => h) (by kernel_rfl) (by assumption) ?_
                try simp only [Act.put, List.setIfInBounds_toArray, List.set_cons_zero, List.set_cons_succ]
                refine skipD (i := 20) (some 91) rfl rfl (by kernel_rfl) (by kernel_rfl) (by kernel_rfl) (fun _ _ _ h => h) (by kernel_rfl) (by assumption) ?_
                try simp only [Act.put, List.setIfInBounds_toArray, List.set_cons_zero, List.set_cons_succ]
                refine skipD (i := 21) (some 92) rfl rfl (by kernel_rfl) (by kernel_rfl) (by kernel_rfl) (fun _ _ _ h => h) (by kernel_rfl) (by assumption) ?_
                try simp only [Act.put, List.setIfInBounds_toArray, List.set_cons_zero, List.set_cons_succ]
                refine skipD (i := 22) (some 93) rfl rfl (by kernel_rfl) (by kernel_rfl) (by kernel_rfl) (fun _ _ _ h => h) (by kernel_rfl) (by assumption) ?_
                try simp only [Act.put, List.setIfInBounds_toArray, List.set_cons_zero, List.set_cons_succ]
                refine takeD (i := 23) (some 94) (v := ?_) rfl rfl (by kernel_rfl) (by kernel_rfl) (by kernel_rfl) (fun _ _ _ h => h) (by kernel_rfl) ?_ (by assumption) ?_
                rotate_left
                · intro wx hSw
                  obtain ⟨hS1, hS2⟩ := hSw
                  go_simp
                  try (with_reducible rfl)
                try simp only [Act.put, List.setIfInBounds_toArray, List.set_cons_zero, List.set_cons_succ]
                refine wpAnyH_done (by kernel_rfl) ?_ _
                clear hHeld q1 q2
                go_wp2_with fail
                go_roundw
                case rel => exact ⟨k + 1, q, by omega, by go_num, rfl, HS2.out, HSm.out.drewN 1⟩
                case measure => simp [intOf]; omega
              · have hmq : ((fo k).m != m) = true := by simp [hm]
                rcases Int.lt_or_le q 0 with h0 | h0
                · have HS2 : Hid (St2 fo m (k + 1) k) := st2_first HSt.out hm h0
                  clear hm
                  go_wp2_with fail
                  refine wp_region_held_drew (S := fun w' => w'.cell? ⟨gg2, k * 3, none⟩ = some (.int .i64 (fo k).m) ∧ w'.cell? ⟨gg2, k * 3 + 2, none⟩ = some (.int .i64 (fo k).t)) (by kernel_rfl) ⟨q1, q2⟩ (fun hHeld => ?_)
                  refine takeD (i := 0) (some 71) (v := ?_) rfl rfl (by kernel_rfl) (by kernel_rfl) (by kernel_rfl) (fun _ _ _ h => h) (by kernel_rfl) ?_ (by assumption) ?_
                  rotate_left
                  · intro wx hSw
                    obtain ⟨hS1, hS2⟩ := hSw
                    go_simp
                    try (with_reducible rfl)
                  try simp only [Act.put, List.setIfInBounds_toArray, List.set_cons_zero, List.set_cons_succ]
                  refine takeD (i := 1) (some 72) (v := ?_) rfl rfl (by kernel_rfl) (by kernel_rfl) (by kernel_rfl) (fun _ _ _ h => h) (by kernel_rfl) ?_ (by assumption) ?_
                  rotate_left
                  · intro wx hSw
                    obtain ⟨hS1, hS2⟩ := hSw
                    go_simp
                    try (with_reducible rfl)
                  try simp only [Act.put, List.setIfInBounds_toArray, List.set_cons_zero, List.set_cons_succ]
                  refine takeD (i := 2) (some 73) (v := ?_) rfl rfl (by kernel_rfl) (by kernel_rfl) (by kernel_rfl) (fun _ _ _ h => h) (by kernel_rfl) ?_ (by assumption) ?_
                  rotate_left
                  · intro wx hSw
                    obtain ⟨hS1, hS2⟩ := hSw
                    go_simp
                    try (with_reducible rfl)
                  try simp only [Act.put, List.setIfInBounds_toArray, List.set_cons_zero, List.set_cons_succ]
                  refine takeD (i := 3) (some 74) (v := ?_) rfl rfl (by kernel_rfl) (by kernel_rfl) (by kernel_rfl) (fun _ _ _ h => h) (by kernel_rfl) ?_ (by assumption) ?_
                  rotate_left
                  · intro wx hSw
                    obtain ⟨hS1, hS2⟩ := hSw
                    go_simp
                    try (with_reducible rfl)
                  try simp only [Act.put, List.setIfInBounds_toArray, List.set_cons_zero, List.set_cons_succ]
                  refine takeD (i := 4) (some 75) (v := ?_) rfl rfl (by kernel_rfl) (by kernel_rfl) (by kernel_rfl) (fun _ _ _ h => h) (by kernel_rfl) ?_ (by assumption) ?_
                  rotate_left
                  · intro wx hSw
                    obtain ⟨hS1, hS2⟩ := hSw
                    go_simp
                    try (with_reducible rfl)
                  try simp only [Act.put, List.setIfInBounds_toArray, List.set_cons_zero, List.set_cons_succ]
                  refine takeD (i := 5) (some 76) (v := ?_) rfl rfl (by kernel_rfl) (by kernel_rfl) (by kernel_rfl) (fun _ _ _ h => h) (by kernel_rfl) ?_ (by assumption) ?_
                  rotate_left
                  · intro wx hSw
                    obtain ⟨hS1, hS2⟩ := hSw
                    go_simp
                    try (with_reducible rfl)
                  try simp only [Act.put, List.setIfInBounds_toArray, List.set_cons_zero, List.set_cons_succ]
                  refine takeD (i := 6) (some 77) (v := ?_) rfl rfl (by kernel_rfl) (by kernel_rfl) (by kernel_rfl) (fun _ _ _ h => h) (by kernel_rfl) ?_ (by assumption) ?_
                  rotate_left
                  · intro wx hSw
                    obtain ⟨hS1, hS2⟩ := hSw
                    go_simp
                    try (with_reducible rfl)
                  try simp only [Act.put, List.setIfInBounds_toArray, List.set_cons_zero, List.set_cons_succ]
                  refine takeD (i := 7) (some 78) (v := ?_) rfl rfl (by kernel_rfl) (by kernel_rfl) (by kernel_rfl) (fun _ _ _ h => h) (by kernel_rfl) ?_ (by assumption) ?_
                  rotate_left
                  · intro wx hSw
                    obtain ⟨hS1, hS2⟩ := hSw
                    go_simp
                    try (with_reducible rfl)
                  try simp only [Act.put, List.setIfInBounds_toArray, List.set_cons_zero, List.set_cons_succ]
                  refine takeD (i := 8) (some 79) (v := ?_) rfl rfl (by kernel_rfl) (by kernel_rfl) (by kernel_rfl) (fun _ _ _ h => h) (by kernel_rfl) ?_ (by assumption) ?_
                  rotate_left
                  · intro wx hSw
                    obtain ⟨hS1, hS2⟩ := hSw
                    go_simp
                    try (with_reducible rfl)
                  try simp only [Act.put, List.setIfInBounds_toArray, List.set_cons_zero, List.set_cons_succ]
                  refine takeD (i := 9) (some 80) (v := ?_) rfl rfl (by kernel_rfl) (by kernel_rfl) (by kernel_rfl) (fun _ _ _ h => h) (by kernel_rfl) ?_ (by assumption) ?_
                  rotate_left
                  · intro wx hSw
                    obtain ⟨hS1, hS2⟩ := hSw
                    go_simp
                    try (with_reducible rfl)
                  try simp only [Act.put, List.setIfInBounds_toArray, List.set_cons_zero, List.set_cons_succ]
                  refine takeD (i := 10) (some 81) (v := ?_) rfl rfl (by kernel_rfl) (by kernel_rfl) (by kernel_rfl) (fun _ _ _ h => h) (by kernel_rfl) ?_ (by assumption) ?_
                  rotate_left
                  · intro wx hSw
                    obtain ⟨hS1, hS2⟩ := hSw
                    go_simp
                    try (with_reducible rfl)
                  try simp only [Act.put, List.setIfInBounds_toArray, List.set_cons_zero, List.set_cons_succ]
                  refine skipD (i := 11) (some 82) rfl rfl (by kernel_rfl) (by kernel_rfl) (by kernel_rfl) (fun _ _ _ h => h) (by kernel_rfl) (by assumption) ?_
                  try simp only [Act.put, List.setIfInBounds_toArray, List.set_cons_zero, List.set_cons_succ]
                  refine skipD (i := 12) (some 83) rfl rfl (by kernel_rfl) (by kernel_rfl) (by kernel_rfl) (fun _ _ _ h => h) (by kernel_rfl) (by assumption) ?_
                  try simp only [Act.put, List.setIfInBounds_toArray, List.set_cons_zero, List.set_cons_succ]
                  refine skipD (i := 13) (some 84) rfl rfl (by kernel_rfl) (by kernel_rfl) (by kernel_rfl) (fun _ _ _ h => h) (by kernel_rfl) (by assumption) ?_
                  try simp only [Act.put, List.setIfInBounds_toArray, List.set_cons_zero, List.set_cons_succ]
                  refine skipD (i := 14) (some 85) rfl rfl (by kernel_rfl) (by kernel_rfl) (by kernel_rfl) (fun _ _ _ h => h) (by kernel_rfl) (by assumption) ?_
                  try simp only [Act.put, List.setIfInBounds_toArray, List.set_cons_zero, List.set_cons_succ]
                  refine skipD (i := 15) (some 86) rfl rfl (by kernel_rfl) (by kernel_rfl) (by kernel_rfl) (fun _ _ _ h => h) (by kernel_rfl) (by assumption) ?_
                  try simp only [Act.put, List.setIfInBounds_toArray, List.set_cons_zero, List.set_cons_succ]
                  refine skipD (i := 16) (some 87) rfl rfl (by kernel_rfl) (by kernel_rfl) (by kernel_rfl) (fun _ _ _ h => h) (by kernel_rfl) (by assumption) ?_
                  try simp only [Act.put, List.setIfInBounds_toArray, List.set_cons_zero, List.set_cons_succ]
                  refine skipD (i := 17) (some 88) rfl rfl (by kernel_rfl) (by kernel_rfl) (by kernel_rfl) (fun _ _ _ h => h) (by kernel_rfl) (by assumption) ?_
                  try simp only [Act.put, List.setIfInBounds_toArray, List.set_cons_zero, List.set_cons_succ]
                  refine skipD (i := 18) (some 89) rfl rfl (by kernel_rfl) (by kernel_rfl) (by kernel_rfl) (fun _ _ _ h => h) (by kernel_rfl) (by assumption) ?_
                  try simp only [Act.put, List.setIfInBounds_toArray, List.set_cons_zero, List.set_cons_succ]
                  refine skipD (i := 19) (some 90) rfl rfl (by kernel_rfl) (by kernel_rfl) (by kernel_rfl) (fun _ _ _ h => h) (by kernel_rfl) (by assumption) ?_
                  try simp only [Act.put, List.setIfInBounds_toArray, List.set_cons_zero, List.set_cons_succ]
                  refine skipD (i := 20) (some 91) rfl rfl (by kernel_rfl) (by kernel_rfl) (by kernel_rfl) (fun _ _ _ h => h) (by kernel_rfl) (by assumption) ?_
                  try simp only [Act.put, List.setIfInBounds_toArray, List.set_cons_zero, List.set_cons_succ]
                  refine skipD (i := 21) (some 92) rfl rfl (by kernel_rfl) (by kernel_rfl) (by kernel_rfl) (fun _ _ _ h => h) (by kernel_rfl) (by assumption) ?_
                  try simp only [Act.put, List.setIfInBounds_toArray, List.set_cons_zero, List.set_cons_succ]
                  refine takeD (i := 22) (some 93) (v := ?_) rfl rfl (by kernel_rfl) (by kernel_rfl) (by kernel_rfl) (fun _ _ _ h => h) (by kernel_rfl) ?_ (by assumption) ?_
                  rotate_left
                  · intro wx hSw
                    obtain ⟨hS1, hS2⟩ := hSw
                    go_simp
                    try (with_reducible rfl)
                  try simp only [Act.put, List.setIfInBounds_toArray, List.set_cons_zero, List.set_cons_succ]
                  refine takeD (i := 23) (some 94) (v := ?_) rfl rfl (by kernel_rfl) (by kernel_rfl) (by kernel_rfl) (fun _ _ _ h => h) (by kernel_rfl) ?_ (by assumption) ?_
                  rotate_left
                  · intro wx hSw
                    obtain ⟨hS1, hS2⟩ := hSw
                    go_simp
                    try (with_reducible rfl)
                  try simp only [Act.put, List.setIfInBounds_toArray, List.set_cons_zero, List.set_cons_succ]
                  refine wpAnyH_done (by kernel_rfl) ?_ _
                  clear hHeld q1 q2
                  go_wp2_with fail
                  go_roundw
                  case rel => exact ⟨k + 1, k, by omega, by go_num, rfl, HS2.out, HSm.out.drewN 1⟩
                  case measure => simp [intOf]; omega
                · obtain ⟨o, rfl⟩ := Int.eq_ofNat_of_zero_le h0
                  obtain ⟨hok2, hA, hB⟩ := st2_next HSt.out hm
                  have HA : Hid ((fo k).t < (fo o).t → St2 fo m (k + 1) k) := hA
                  have HB : Hid (¬ (fo k).t < (fo o).t → St2 fo m (k + 1) o) := hB
                  have q3 := (HC.out o (by omega)).2
                  have ho' : (o : Int) < N := by omega
                  have h0' : ¬ (o : Int) < 0 := by omega
                  clear hA hB hm h0
                  by_cases ht : (fo k).t < (fo o).t
                  · have HS2 : Hid (St2 fo m (k + 1) k) := HA.out ht
                    go_wp2_with fail
                    refine wp_region_held_drew (S := fun w' => w'.cell? ⟨gg2, k * 3, none⟩ = some (.int .i64 (fo k).m) ∧ w'.cell? ⟨gg2, k * 3 + 2, none⟩ = some (.int .i64 (fo k).t) ∧ w'.cell? ⟨gg2, o * 3 + 2, none⟩ = some (.int .i64 (fo o).t)) (by kernel_rfl) ⟨q1, q2, q3⟩ (fun hHeld => ?_)
                    refine takeD (i := 0) (some 71) (v := ?_) rfl rfl (by kernel_rfl) (by kernel_rfl) (by kernel_rfl) (fun _ _ _ h => h) (by kernel_rfl) ?_ (by assumption) ?_
                    rotate_left
                    · intro wx hSw
                      obtain ⟨hS1, hS2, hS3⟩ := hSw
                      go_simp
                      try (with_reducible rfl)
                    try simp only [Act.put, List.setIfInBounds_toArray, List.set_cons_zero, List.set_cons_succ]
                    refine takeD (i := 1) (some 72) (v := ?_) rfl rfl (by kernel_rfl) (by kernel_rfl) (by kernel_rfl) (fun _ _ _ h => h) (by kernel_rfl) ?_ (by assumption) ?_
                    rotate_left
                    · intro wx hSw
                      obtain ⟨hS1, hS2, hS3⟩ := hSw
                      go_simp
                      try (with_reducible rfl)
                    try simp only [Act.put, List.setIfInBounds_toArray, List.set_cons_zero, List.set_cons_succ]
                    refine takeD (i := 2) (some 73) (v := ?_) rfl rfl (by kernel_rfl) (by kernel_rfl) (by kernel_rfl) (fun _ _ _ h => h) (by kernel_rfl) ?_ (by assumption) ?_
                    rotate_left
                    · intro wx hSw
                      obtain ⟨hS1, hS2, hS3⟩ := hSw
                      go_simp
                      try (with_reducible rfl)
                    try simp only [Act.put, List.setIfInBounds_toArray, List.set_cons_zero, List.set_cons_succ]
                    refine takeD (i := 3) (some 74) (v := ?_) rfl rfl (by kernel_rfl) (by kernel_rfl) (by kernel_rfl) (fun _ _ _ h => h) (by kernel_rfl) ?_ (by assumption) ?_
                    rotate_left
                    · intro wx hSw
                      obtain ⟨hS1, hS2, hS3⟩ := hSw
                      go_simp
                      try (with_reducible rfl)
                    try simp only [Act.put, List.setIfInBounds_toArray, List.set_cons_zero, List.set_cons_succ]
                    refine takeD (i := 4) (some 75) (v := ?_) rfl rfl (by kernel_rfl) (by kernel_rfl) (by kernel_rfl) (fun _ _ _ h => h) (by kernel_rfl) ?_ (by assumption) ?_
                    rotate_left
                    · intro wx hSw
                      obtain ⟨hS1, hS2, hS3⟩ := hSw
                      go_simp
                      try (with_reducible rfl)
                    try simp only [Act.put, List.setIfInBounds_toArray, List.set_cons_zero, List.set_cons_succ]
                    refine takeD (i := 5) (some 76) (v := ?_) rfl rfl (by kernel_rfl) (by kernel_rfl) (by kernel_rfl) (fun _ _ _ h => h) (by kernel_rfl) ?_ (by assumption) ?_
                    rotate_left
                    · intro wx hSw
                      obtain ⟨hS1, hS2, hS3⟩ := hSw
                      go_simp
                      try (with_reducible rfl)
                    try simp only [Act.put, List.setIfInBounds_toArray, List.set_cons_zero, List.set_cons_succ]
                    refine takeD (i := 6) (some 77) (v := ?_) rfl rfl (by kernel_rfl) (by kernel_rfl) (by kernel_rfl) (fun _ _ _ h => h) (by kernel_rfl) ?_ (by assumption) ?_
                    rotate_left
                    · intro wx hSw
                      obtain ⟨hS1, hS2, hS3⟩ := hSw
                      go_simp
                      try (with_reducible rfl)
                    try simp only [Act.put, List.setIfInBounds_toArray, List.set_cons_zero, List.set_cons_succ]
                    refine takeD (i := 7) (some 78) (v := ?_) rfl rfl (by kernel_rfl) (by kernel_rfl) (by kernel_rfl) (fun _ _ _ h => h) (by kernel_rfl) ?_ (by assumption) ?_
                    rotate_left
                    · intro wx hSw
                      obtain ⟨hS1, hS2, hS3⟩ := hSw
                      go_simp
                      try (with_reducible rfl)
                    try simp only [Act.put, List.setIfInBounds_toArray, List.set_cons_zero, List.set_cons_succ]
                    refine takeD (i := 8) (some 79) (v := ?_) rfl rfl (by kernel_rfl) (by kernel_rfl) (by kernel_rfl) (fun _ _ _ h => h) (by kernel_rfl) ?_ (by assumption) ?_
                    rotate_left
                    · intro wx hSw
                      obtain ⟨hS1, hS2, hS3⟩ := hSw
                      go_simp
                      try (with_reducible rfl)
                    try simp only [Act.put, List.setIfInBounds_toArray, List.set_cons_zero, List.set_cons_succ]
                    refine takeD (i := 9) (some 80) (v := ?_) rfl rfl (by kernel_rfl) (by kernel_rfl) (by kernel_rfl) (fun _ _ _ h => h) (by kernel_rfl) ?_ (by assumption) ?_
                    rotate_left
                    · intro wx hSw
                      obtain ⟨hS1, hS2, hS3⟩ := hSw
                      go_simp
                      try (with_reducible rfl)
                    try simp only [Act.put, List.setIfInBounds_toArray, List.set_cons_zero, List.set_cons_succ]
                    refine takeD (i := 10) (some 81) (v := ?_) rfl rfl (by kernel_rfl) (by kernel_rfl) (by kernel_rfl) (fun _ _ _ h => h) (by kernel_rfl) ?_ (by assumption) ?_
                    rotate_left
                    · intro wx hSw
                      obtain ⟨hS1, hS2, hS3⟩ := hSw
                      go_simp
                      try (with_reducible rfl)
                    try simp only [Act.put, List.setIfInBounds_toArray, List.set_cons_zero, List.set_cons_succ]
                    refine takeD (i := 11) (some 82) (v := ?_) rfl rfl (by kernel_rfl) (by kernel_rfl) (by kernel_rfl) (fun _ _ _ h => h) (by kernel_rfl) ?_ (by assumption) ?_
                    rotate_left
                    · intro wx hSw
                      obtain ⟨hS1, hS2, hS3⟩ := hSw
                      go_simp
                      try (with_reducible rfl)
                    try simp only [Act.put, List.setIfInBounds_toArray, List.set_cons_zero, List.set_cons_succ]
                    refine takeD (i := 12) (some 83) (v := ?_) rfl rfl (by kernel_rfl) (by kernel_rfl) (by kernel_rfl) (fun _ _ _ h => h) (by kernel_rfl) ?_ (by assumption) ?_
                    rotate_left
                    · intro wx hSw
                      obtain ⟨hS1, hS2, hS3⟩ := hSw
                      go_simp
                      try (with_reducible rfl)
                    try simp only [Act.put, List.setIfInBounds_toArray, List.set_cons_zero, List.set_cons_succ]
                    refine takeD (i := 13) (some 84) (v := ?_) rfl rfl (by kernel_rfl) (by kernel_rfl) (by kernel_rfl) (fun _ _ _ h => h) (by kernel_rfl) ?_ (by assumption) ?_
                    rotate_left
                    · intro wx hSw
                      obtain ⟨hS1, hS2, hS3⟩ := hSw
                      go_simp
                      try (with_reducible rfl)
                    try simp only [Act.put, List.setIfInBounds_toArray, List.set_cons_zero, List.set_cons_succ]
                    refine takeD (i := 14) (some 85) (v := ?_) rfl rfl (by kernel_rfl) (by kernel_rfl) (by kernel_rfl) (fun _ _ _ h => h) (by kernel_rfl) ?_ (by assumption) ?_
                    rotate_left
                    · intro wx hSw
                      obtain ⟨hS1, hS2, hS3⟩ := hSw
                      go_simp
                      try (with_reducible rfl)
                    try simp only [Act.put, List.setIfInBounds_toArray, List.set_cons_zero, List.set_cons_succ]
                    refine takeD (i := 15) (some 86) (v := ?_) rfl rfl (by kernel_rfl) (by kernel_rfl) (by kernel_rfl) (fun _ _ _ h => h) (by kernel_rfl) ?_ (by assumption) ?_
                    rotate_left
                    · intro wx hSw
                      obtain ⟨hS1, hS2, hS3⟩ := hSw
                      go_simp
                      try (with_reducible rfl)
                    try simp only [Act.put, List.setIfInBounds_toArray, List.set_cons_zero, List.set_cons_succ]
                    refine takeD (i := 16) (some 87) (v := ?_) rfl rfl (by kernel_rfl) (by kernel_rfl) (by kernel_rfl) (fun _ _ _ h => h) (by kernel_rfl) ?_ (by assumption) ?_
                    rotate_left
                    · intro wx hSw
                      obtain ⟨hS1, hS2, hS3⟩ := hSw
                      go_simp
                      try (with_reducible rfl)
                    try simp only [Act.put, List.setIfInBounds_toArray, List.set_cons_zero, List.set_cons_succ]
                    refine takeD (i := 17) (some 88) (v := ?_) rfl rfl (by kernel_rfl) (by kernel_rfl) (by kernel_rfl) (fun _ _ _ h => h) (by kernel_rfl) ?_ (by assumption) ?_
                    rotate_left
                    · intro wx hSw
                      obtain ⟨hS1, hS2, hS3⟩ := hSw
                      go_simp
                      try (with_reducible rfl)
                    try simp only [Act.put, List.setIfInBounds_toArray, List.set_cons_zero, List.set_cons_succ]
                    refine takeD (i := 18) (some 89) (v := ?_) rfl rfl (by kernel_rfl) (by kernel_rfl) (by kernel_rfl) (fun _ _ _ h => h) (by kernel_rfl) ?_ (by assumption) ?_
                    rotate_left
                    · intro wx hSw
                      obtain ⟨hS1, hS2, hS3⟩ := hSw
                      go_simp
                      try (with_reducible rfl)
                    try simp only [Act.put, List.setIfInBounds_toArray, List.set_cons_zero, List.set_cons_succ]
                    refine takeD (i := 19) (some 90) (v := ?_) rfl rfl (by kernel_rfl) (by kernel_rfl) (by kernel_rfl) (fun _ _ _ h => h) (by kernel_rfl) ?_ (by assumption) ?_
                    rotate_left
                    · intro wx hSw
                      obtain ⟨hS1, hS2, hS3⟩ := hSw
                      go_simp
                      try (with_reducible rfl)
                    try simp only [Act.put, List.setIfInBounds_toArray, List.set_cons_zero, List.set_cons_succ]
                    refine takeD (i := 20) (some 91) (v := ?_) rfl rfl (by kernel_rfl) (by kernel_rfl) (by kernel_rfl) (fun _ _ _ h => h) (by kernel_rfl) ?_ (by assumption) ?_
                    rotate_left
                    · intro wx hSw
                      obtain ⟨hS1, hS2, hS3⟩ := hSw
                      go_simp
                      try (with_reducible rfl)
                    try simp only [Act.put, List.setIfInBounds_toArray, List.set_cons_zero, List.set_cons_succ]
                    refine takeD (i := 21) (some 92) (v := ?_) rfl rfl (by kernel_rfl) (by kernel_rfl) (by kernel_rfl) (fun _ _ _ h => h) (by kernel_rfl) ?_ (by assumption) ?_
                    rotate_left
                    · intro wx hSw
                      obtain ⟨hS1, hS2, hS3⟩ := hSw
                      go_simp
                      try (with_reducible rfl)
                    try simp only [Act.put, List.setIfInBounds_toArray, List.set_cons_zero, List.set_cons_succ]
                    refine takeD (i := 22) (some 93) (v := ?_) rfl rfl (by kernel_rfl) (by kernel_rfl) (by kernel_rfl) (fun _ _ _ h => h) (by kernel_rfl) ?_ (by assumption) ?_
                    rotate_left
                    · intro wx hSw
                      obtain ⟨hS1, hS2, hS3⟩ := hSw
                      go_simp
                      try (with_reducible rfl)
                    try simp only [Act.put, List.setIfInBounds_toArray, List.set_cons_zero, List.set_cons_succ]
                    refine takeD (i := 23) (some 94) (v := ?_) rfl rfl (by kernel_rfl) (by kernel_rfl) (by kernel_rfl) (fun _ _ _ h => h) (by kernel_rfl) ?_ (by assumption) ?_
                    rotate_left
                    · intro wx hSw
                      obtain ⟨hS1, hS2, hS3⟩ := hSw
                      go_simp
                      try (with_reducible rfl)
                    try simp only [Act.put, List.setIfInBounds_toArray, List.set_cons_zero, List.set_cons_succ]
                    refine wpAnyH_done (by kernel_rfl) ?_ _
                    clear hHeld q1 q2 q3
                    go_wp2_with fail
                    go_roundw
                    case rel => exact ⟨k + 1, k, by omega, by go_num, rfl, HS2.out, HSm.out.drewN 1⟩
                    case measure => simp [intOf]; omega
                  · have HS2 : Hid (St2 fo m (k + 1) o) := HB.out ht
                    go_wp2_with fail
                    refine wp_region_held_drew (S := fun w' => w'.cell? ⟨gg2, k * 3, none⟩ = some (.int .i64 (fo k).m) ∧ w'.cell? ⟨gg2, k * 3 + 2, none⟩ = some (.int .i64 (fo k).t) ∧ w'.cell? ⟨gg2, o * 3 + 2, none⟩ = some (.int .i64 (fo o).t)) (by kernel_rfl) ⟨q1, q2, q3⟩ (fun hHeld => ?_)
                    refine takeD (i := 0) (some 71) (v := ?_) rfl rfl (by kernel_rfl) (by kernel_rfl) (by kernel_rfl) (fun _ _ _ h => h) (by kernel_rfl) ?_ (by assumption) ?_
                    rotate_left
                    · intro wx hSw
                      obtain ⟨hS1, hS2, hS3⟩ := hSw
                      go_simp
                      try (with_reducible rfl)
                    try simp only [Act.put, List.setIfInBounds_toArray, List.set_cons_zero, List.set_cons_succ]
                    refine takeD (i := 1) (some 72) (v := ?_) rfl rfl (by kernel_rfl) (by kernel_rfl) (by kernel_rfl) (fun _ _ _ h => h) (by kernel_rfl) ?_ (by assumption) ?_
                    rotate_left
                    · intro wx hSw
                      obtain ⟨hS1, hS2, hS3⟩ := hSw
                      go_simp
                      try (with_reducible rfl)
                    try simp only [Act.put, List.setIfInBounds_toArray, List.set_cons_zero, List.set_cons_succ]
                    refine takeD (i := 2) (some 73) (v := ?_) rfl rfl (by kernel_rfl) (by kernel_rfl) (by kernel_rfl) (fun _ _ _ h => h) (by kernel_rfl) ?_ (by assumption) ?_
                    rotate_left
                    · intro wx hSw
                      obtain ⟨hS1, hS2, hS3⟩ := hSw
                      go_simp
                      try (with_reducible rfl)
                    try simp only [Act.put, List.setIfInBounds_toArray, List.set_cons_zero, List.set_cons_succ]
                    refine takeD (i := 3) (some 74) (v := ?_) rfl rfl (by kernel_rfl) (by kernel_rfl) (by kernel_rfl) (fun _ _ _ h => h) (by kernel_rfl) ?_ (by assumption) ?_
                    rotate_left
                    · intro wx hSw
                      obtain ⟨hS1, hS2, hS3⟩ := hSw
                      go_simp
                      try (with_reducible rfl)
                    try simp only [Act.put, List.setIfInBounds_toArray, List.set_cons_zero, List.set_cons_succ]
                    refine takeD (i := 4) (some 75) (v := ?_) rfl rfl (by kernel_rfl) (by kernel_rfl) (by kernel_rfl) (fun _ _ _ h => h) (by kernel_rfl) ?_ (by assumption) ?_
                    rotate_left
                    · intro wx hSw
                      obtain ⟨hS1, hS2, hS3⟩ := hSw
                      go_simp
                      try (with_reducible rfl)
                    try simp only [Act.put, List.setIfInBounds_toArray, List.set_cons_zero, List.set_cons_succ]
                    refine takeD (i := 5) (some 76) (v := ?_) rfl rfl (by kernel_rfl) (by kernel_rfl) (by kernel_rfl) (fun _ _ _ h => h) (by kernel_rfl) ?_ (by assumption) ?_
                    rotate_left
                    · intro wx hSw
                      obtain ⟨hS1, hS2, hS3⟩ := hSw
                      go_simp
                      try (with_reducible rfl)
                    try simp only [Act.put, List.setIfInBounds_toArray, List.set_cons_zero, List.set_cons_succ]
                    refine takeD (i := 6) (some 77) (v := ?_) rfl rfl (by kernel_rfl) (by kernel_rfl) (by kernel_rfl) (fun _ _ _ h => h) (by kernel_rfl) ?_ (by assumption) ?_
                    rotate_left
                    · intro wx hSw
                      obtain ⟨hS1, hS2, hS3⟩ := hSw
                      go_simp
                      try (with_reducible rfl)
                    try simp only [Act.put, List.setIfInBounds_toArray, List.set_cons_zero, List.set_cons_succ]
                    refine takeD (i := 7) (some 78) (v := ?_) rfl rfl (by kernel_rfl) (by kernel_rfl) (by kernel_rfl) (fun _ _ _ h => h) (by kernel_rfl) ?_ (by assumption) ?_
                    rotate_left
                    · intro wx hSw
                      obtain ⟨hS1, hS2, hS3⟩ := hSw
                      go_simp
                      try (with_reducible rfl)
                    try simp only [Act.put, List.setIfInBounds_toArray, List.set_cons_zero, List.set_cons_succ]
                    refine takeD (i := 8) (some 79) (v := ?_) rfl rfl (by kernel_rfl) (by kernel_rfl) (by kernel_rfl) (fun _ _ _ h => h) (by kernel_rfl) ?_ (by assumption) ?_
                    rotate_left
                    · intro wx hSw
                      obtain ⟨hS1, hS2, hS3⟩ := hSw
                      go_simp
                      try (with_reducible rfl)
                    try simp only [Act.put, List.setIfInBounds_toArray, List.set_cons_zero, List.set_cons_succ]
                    refine takeD (i := 9) (some 80) (v := ?_) rfl rfl (by kernel_rfl) (by kernel_rfl) (by kernel_rfl) (fun _ _ _ h => h) (by kernel_rfl) ?_ (by assumption) ?_
                    rotate_left
                    · intro wx hSw
                      obtain ⟨hS1, hS2, hS3⟩ := hSw
                      go_simp
                      try (with_reducible rfl)
                    try simp only [Act.put, List.setIfInBounds_toArray, List.set_cons_zero, List.set_cons_succ]
                    refine takeD (i := 10) (some 81) (v := ?_) rfl rfl (by kernel_rfl) (by kernel_rfl) (by kernel_rfl) (fun _ _ _ h => h) (by kernel_rfl) ?_ (by assumption) ?_
                    rotate_left
                    · intro wx hSw
                      obtain ⟨hS1, hS2, hS3⟩ := hSw
                      go_simp
                      try (with_reducible rfl)
                    try simp only [Act.put, List.setIfInBounds_toArray, List.set_cons_zero, List.set_cons_succ]
                    refine takeD (i := 11) (some 82) (v := ?_) rfl rfl (by kernel_rfl) (by kernel_rfl) (by kernel_rfl) (fun _ _ _ h => h) (by kernel_rfl) ?_ (by assumption) ?_
                    rotate_left
                    · intro wx hSw
                      obtain ⟨hS1, hS2, hS3⟩ := hSw
                      go_simp
                      try (with_reducible rfl)
                    try simp only [Act.put, List.setIfInBounds_toArray, List.set_cons_zero, List.set_cons_succ]
                    refine takeD (i := 12) (some 83) (v := ?_) rfl rfl (by kernel_rfl) (by kernel_rfl) (by kernel_rfl) (fun _ _ _ h => h) (by kernel_rfl) ?_ (by assumption) ?_
                    rotate_left
                    · intro wx hSw
                      obtain ⟨hS1, hS2, hS3⟩ := hSw
                      go_simp
                      try (with_reducible rfl)
                    try simp only [Act.put, List.setIfInBounds_toArray, List.set_cons_zero, List.set_cons_succ]
                    refine takeD (i := 13) (some 84) (v := ?_) rfl rfl (by kernel_rfl) (by kernel_rfl) (by kernel_rfl) (fun _ _ _ h => h) (by kernel_rfl) ?_ (by assumption) ?_
                    rotate_left
                    · intro wx hSw
                      obtain ⟨hS1, hS2, hS3⟩ := hSw
                      go_simp
                      try (with_reducible rfl)
                    try simp only [Act.put, List.setIfInBounds_toArray, List.set_cons_zero, List.set_cons_succ]
                    refine takeD (i := 14) (some 85) (v := ?_) rfl rfl (by kernel_rfl) (by kernel_rfl) (by kernel_rfl) (fun _ _ _ h => h) (by kernel_rfl) ?_ (by assumption) ?_
                    rotate_left
                    · intro wx hSw
                      obtain ⟨hS1, hS2, hS3⟩ := hSw
                      go_simp
                      try (with_reducible rfl)
                    try simp only [Act.put, List.setIfInBounds_toArray, List.set_cons_zero, List.set_cons_succ]
                    refine takeD (i := 15) (some 86) (v := ?_) rfl rfl (by kernel_rfl) (by kernel_rfl) (by kernel_rfl) (fun _ _ _ h => h) (by kernel_rfl) ?_ (by assumption) ?_
                    rotate_left
                    · intro wx hSw
                      obtain ⟨hS1, hS2, hS3⟩ := hSw
                      go_simp
                      try (with_reducible rfl)
                    try simp only [Act.put, List.setIfInBounds_toArray, List.set_cons_zero, List.set_cons_succ]
                    refine takeD (i := 16) (some 87) (v := ?_) rfl rfl (by kernel_rfl) (by kernel_rfl) (by kernel_rfl) (fun _ _ _ h => h) (by kernel_rfl) ?_ (by assumption) ?_
                    rotate_left
                    · intro wx hSw
                      obtain ⟨hS1, hS2, hS3⟩ := hSw
                      go_simp
                      try (with_reducible rfl)
                    try simp only [Act.put, List.setIfInBounds_toArray, List.set_cons_zero, List.set_cons_succ]
                    refine takeD (i := 17) (some 88) (v := ?_) rfl rfl (by kernel_rfl) (by kernel_rfl) (by kernel_rfl) (fun _ _ _ h => h) (by kernel_rfl) ?_ (by assumption) ?_
                    rotate_left
                    · intro wx hSw
                      obtain ⟨hS1, hS2, hS3⟩ := hSw
                      go_simp
                      try (with_reducible rfl)
                    try simp only [Act.put, List.setIfInBounds_toArray, List.set_cons_zero, List.set_cons_succ]
                    refine takeD (i := 18) (some 89) (v := ?_) rfl rfl (by kernel_rfl) (by kernel_rfl) (by kernel_rfl) (fun _ _ _ h => h) (by kernel_rfl) ?_ (by assumption) ?_
                    rotate_left
                    · intro wx hSw
                      obtain ⟨hS1, hS2, hS3⟩ := hSw
                      go_simp
                      try (with_reducible rfl)
                    try simp only [Act.put, List.setIfInBounds_toArray, List.set_cons_zero, List.set_cons_succ]
                    refine takeD (i := 19) (some 90) (v := ?_) rfl rfl (by kernel_rfl) (by kernel_rfl) (by kernel_rfl) (fun _ _ _ h => h) (by kernel_rfl) ?_ (by assumption) ?_
                    rotate_left
                    · intro wx hSw
                      obtain ⟨hS1, hS2, hS3⟩ := hSw
                      go_simp
                      try (with_reducible rfl)
                    try simp only [Act.put, List.setIfInBounds_toArray, List.set_cons_zero, List.set_cons_succ]
                    refine takeD (i := 20) (some 91) (v := ?_) rfl rfl (by kernel_rfl) (by kernel_rfl) (by kernel_rfl) (fun _ _ _ h => h) (by kernel_rfl) ?_ (by assumption) ?_
                    rotate_left
                    · intro wx hSw
                      obtain ⟨hS1, hS2, hS3⟩ := hSw
                      go_simp
                      try (with_reducible rfl)
                    try simp only [Act.put, List.setIfInBounds_toArray, List.set_cons_zero, List.set_cons_succ]
                    refine takeD (i := 21) (some 92) (v := ?_) rfl rfl (by kernel_rfl) (by kernel_rfl) (by kernel_rfl) (fun _ _ _ h => h) (by kernel_rfl) ?_ (by assumption) ?_
                    rotate_left
                    · intro wx hSw
                      obtain ⟨hS1, hS2, hS3⟩ := hSw
                      go_simp
                      try (with_reducible rfl)
                    try simp only [Act.put, List.setIfInBounds_toArray, List.set_cons_zero, List.set_cons_succ]
                    refine takeD (i := 22) (some 93) (v := ?_) rfl rfl (by kernel_rfl) (by kernel_rfl) (by kernel_rfl) (fun _ _ _ h => h) (by kernel_rfl) ?_ (by assumption) ?_
                    rotate_left
                    · intro wx hSw
                      obtain ⟨hS1, hS2, hS3⟩ := hSw
                      go_simp
                      try (with_reducible rfl)
                    try simp only [Act.put, List.setIfInBounds_toArray, List.set_cons_zero, List.set_cons_succ]
                    refine takeD (i := 23) (some 94) (v := ?_) rfl rfl (by kernel_rfl) (by kernel_rfl) (by kernel_rfl) (fun _ _ _ h => h) (by kernel_rfl) ?_ (by assumption) ?_
                    rotate_left
                    · intro wx hSw
                      obtain ⟨hS1, hS2, hS3⟩ := hSw
                      go_simp
                      try (with_reducible rfl)
                    try simp only [Act.put, List.setIfInBounds_toArray, List.set_cons_zero, List.set_cons_succ]
                    refine wpAnyH_done (by kernel_rfl) ?_ _
                    clear hHeld q1 q2 q3
                    go_wp2_with fail
                    go_roundw
                    case rel => exact ⟨k + 1, o, by omega, by go_num, rfl, HS2.out, HSm.out.drewN 1⟩
                    case measure => simp [intOf]; omega
            · obtain rfl : k = N := by omega
              have he : entsL k fo = M := by
                rw [HFo.out]
                conv => lhs; rw [← HN.out]
                exact entsL_getD M
              rcases HSt.out with ⟨h1, h2⟩ | ⟨o, ho, hq, h3, h4⟩
              · rw [he] at h2
                exact absurd h2 HNe.out
              subst hq
              rw [he] at h4
              have hLast := HLong.out o (by rw [HN.out]; exact ho) (h4.trans (by rw [HFo.out]))
              have hown : OwnL wr.drew w.heap.size (.slice (some ⟨gg2, 0, none⟩) k cap2) M := OwnL.up HO2.out.own (by rw [← HWB.out]; exact (HSm.out.below _).drew)
              have hBd : Below w.heap.size w wr.drew := HO2.out.below.trans (by rw [← HWB.out]; exact (HSm.out.below _).drew)
              have hwo : IntKind.i64.wrap ((o : Int) + 1) = (o : Int) + 1 := wrapE _ (by omega) (by omega)
              have hto : ((o : Int) + 1).toNat = o + 1 := by omega
              have ho' : (o : Int) < k := by omega
              have ho1 : (o : Int) + 1 ≤ k := by omega
              have ho0 : (0 : Int) ≤ (o : Int) + 1 := by omega
              have hck : k ≤ cap2 := by
                rcases hown.2 with ⟨e, _⟩ | ⟨g', cap', cur, e, _, _, hkc, _⟩
                · cases e
                · cases e; rw [HN.out] at hkc; exact hkc
              have hck' : (k : Int) ≤ cap2 := by omega
              have hco : (o : Int) ≤ cap2 := by omega
              have hco1 : (o : Int) + 1 ≤ cap2 := by omega
              by_cases hcc : cap2 = o + 1
              · have hko : k = o + 1 := by omega
                obtain ⟨v1, W2, v2, W3, hrun1, hrun2, hOwn, hBel⟩ := cutRun (o := o) 0 hown HN.out (by omega) ho hBd.size (.inr hko) cap2 0
                rw [hLast] at hOwn
                have HBel : Hid (Below w.heap.size w W3) := hBd.trans hBel
                have hz1 : k - (o + 1) = 0 := by omega
                have hz2 : (0 : Nat) = o + 1 - (o + 1) := by omega
                have HR2a : Hid ((Builtin.append_ #[24, 24] 24 #[v1, .slice (some ⟨gg2, 0, none⟩) 0 0]).run Try.prog W2 = .ok v2 W3) := by rw [hz1] at hrun2; exact hrun2
                have HR2b : Hid ((Builtin.append_ #[24, 24] 24 #[v1, .slice (some ⟨gg2, 0, none⟩) 0 (o + 1 - (o + 1))]).run Try.prog W2 = .ok v2 W3) := by rw [← hz2]; exact HR2a.out
                have HR2c : Hid ((Builtin.append_ #[24, 24] 24 #[v1, .slice (some ⟨gg2, 0, none⟩) (k - (o + 1)) (o + 1 - (o + 1))]).run Try.prog W2 = .ok v2 W3) := by rw [← hz2]; exact hrun2
                clear hz1 hz2 hBel hown hBd h3 h4 he hLast hko
                subst hcc
                have hoo : (o : Int) ≤ (o : Int) + 1 := by omega
                go_wp2_with fail
                refine wp_region_held_drew (S := fun _ => True) (by kernel_rfl) True.intro (fun hHeld => ?_)
                refine takeD (i := 1) (some 97) (v := ?_) rfl rfl (by kernel_rfl) (by kernel_rfl) (by kernel_rfl) (fun _ _ _ h => h) (by kernel_rfl) ?_ (by assumption) ?_
                rotate_left
                · intro wx hSw
                  try dsimp only at hSw
                  go_simp
                  try (with_reducible rfl)
                try simp only [Act.put, List.setIfInBounds_toArray, List.set_cons_zero, List.set_cons_succ]
                refine takeD (i := 2) (some 98) (v := ?_) rfl rfl (by kernel_rfl) (by kernel_rfl) (by kernel_rfl) (fun _ _ _ h => h) (by kernel_rfl) ?_ (by assumption) ?_
                rotate_left
                · intro wx hSw
                  try dsimp only at hSw
                  go_simp
                  try (with_reducible rfl)
                try simp only [Act.put, List.setIfInBounds_toArray, List.set_cons_zero, List.set_cons_succ]
                refine takeD (i := 3) (some 99) (v := ?_) rfl rfl (by kernel_rfl) (by kernel_rfl) (by kernel_rfl) (fun _ _ _ h => h) (by kernel_rfl) ?_ (by assumption) ?_
                rotate_left
                · intro wx hSw
                  try dsimp only at hSw
                  go_simp
                  try (with_reducible rfl)
                try simp only [Act.put, List.setIfInBounds_toArray, List.set_cons_zero, List.set_cons_succ]
                refine takeD (i := 5) (some 101) (v := ?_) rfl rfl (by kernel_rfl) (by kernel_rfl) (by kernel_rfl) (fun _ _ _ h => h) (by kernel_rfl) ?_ (by assumption) ?_
                rotate_left
                · intro wx hSw
                  try dsimp only at hSw
                  go_simp
                  try (with_reducible rfl)
                try simp only [Act.put, List.setIfInBounds_toArray, List.set_cons_zero, List.set_cons_succ]
                refine takeD (i := 6) (some 102) (v := ?_) rfl rfl (by kernel_rfl) (by kernel_rfl) (by kernel_rfl) (fun _ _ _ h => h) (by kernel_rfl) ?_ (by assumption) ?_
                rotate_left
                · intro wx hSw
                  try dsimp only at hSw
                  go_simp
                  try (with_reducible rfl)
                try simp only [Act.put, List.setIfInBounds_toArray, List.set_cons_zero, List.set_cons_succ]
                refine takeD (i := 7) (some 103) (v := ?_) rfl rfl (by kernel_rfl) (by kernel_rfl) (by kernel_rfl) (fun _ _ _ h => h) (by kernel_rfl) ?_ (by assumption) ?_
                rotate_left
                · intro wx hSw
                  try dsimp only at hSw
                  go_simp
                  try (with_reducible rfl)
                try simp only [Act.put, List.setIfInBounds_toArray, List.set_cons_zero, List.set_cons_succ]
                refine takeD (i := 8) (some 104) (v := ?_) rfl rfl (by kernel_rfl) (by kernel_rfl) (by kernel_rfl) (fun _ _ _ h => h) (by kernel_rfl) ?_ (by assumption) ?_
                rotate_left
                · intro wx hSw
                  try dsimp only at hSw
                  go_simp
                  try (with_reducible rfl)
                try simp only [Act.put, List.setIfInBounds_toArray, List.set_cons_zero, List.set_cons_succ]
                refine wpAnyH_ready (rs := [0]) (by kernel_rfl) (by simp) ?_
                refine AllReadyH.cons rfl (fun K hK => ?_) AllReadyH.nil
                go_simp
                refine hK.out _ _ True.intro (fun hHeld => ?_)
                clear hK K
                try simp only [Act.put, List.setIfInBounds_toArray, List.set_cons_zero, List.set_cons_succ]
                refine wpAnyH_ready (rs := [4]) (by kernel_rfl) (by simp) ?_
                refine AllReadyH.cons rfl (fun K hK => ?_) AllReadyH.nil
                refine wp_appD (by kernel_rfl) (some 100) (.tmp 96) (.tmp 99) 24 _ _ _ rfl rfl rfl rfl rfl hrun1 ?_
                refine hK.out _ _ True.intro (fun hHeld => ?_)
                clear hK K
                try simp only [Act.put, List.setIfInBounds_toArray, List.set_cons_zero, List.set_cons_succ]
                refine wpAnyH_ready (rs := [9]) (by kernel_rfl) (by simp) ?_
                refine AllReadyH.cons rfl (fun K hK => ?_) AllReadyH.nil
                refine wp_appD (by kernel_rfl) (some 105) (.tmp 100) (.tmp 104) 24 _ _ _ rfl rfl rfl rfl rfl (by first | exact hrun2 | exact HR2a.out | exact HR2b.out | exact HR2c.out | (simp [go_sem]; exact hrun2)) ?_
                refine hK.out _ _ True.intro (fun hHeld => ?_)
                clear hK K
                try simp only [Act.put, List.setIfInBounds_toArray, List.set_cons_zero, List.set_cons_succ]
                refine takeD (i := 10) (some 8) (v := ?_) rfl rfl (by kernel_rfl) (by kernel_rfl) (by kernel_rfl) (fun _ _ _ h => h) (by kernel_rfl) ?_ (by assumption) ?_
                rotate_left
                · intro wx hSw
                  try dsimp only at hSw
                  go_simp
                  try (with_reducible rfl)
                try simp only [Act.put, List.setIfInBounds_toArray, List.set_cons_zero, List.set_cons_succ]
                refine wpAnyH_done (by kernel_rfl) ?_ _
                go_wp2_with fail
                go_ret
                exact ⟨_, rfl, hOwn, HBel.out⟩
              · obtain ⟨v1, W2, v2, W3, hrun1, hrun2, hOwn, hBel⟩ := cutRun (o := o) ((o + 1) * 3) hown HN.out (by omega) ho hBd.size (.inl rfl) cap2 (cap2 - (o + 1))
                rw [hLast] at hOwn
                have HBel : Hid (Below w.heap.size w W3) := hBd.trans hBel
                clear hBel hown hBd h3 h4 he hLast
                go_wp2_with fail
                refine wp_region_held_drew (S := fun _ => True) (by kernel_rfl) True.intro (fun hHeld => ?_)
                refine takeD (i := 1) (some 97) (v := ?_) rfl rfl (by kernel_rfl) (by kernel_rfl) (by kernel_rfl) (fun _ _ _ h => h) (by kernel_rfl) ?_ (by assumption) ?_
                rotate_left
                · intro wx hSw
                  try dsimp only at hSw
                  go_simp
                  try (with_reducible rfl)
                try simp only [Act.put, List.setIfInBounds_toArray, List.set_cons_zero, List.set_cons_succ]
                refine takeD (i := 2) (some 98) (v := ?_) rfl rfl (by kernel_rfl) (by kernel_rfl) (by kernel_rfl) (fun _ _ _ h => h) (by kernel_rfl) ?_ (by assumption) ?_
                rotate_left
                · intro wx hSw
                  try dsimp only at hSw
                  go_simp
                  try (with_reducible rfl)
                try simp only [Act.put, List.setIfInBounds_toArray, List.set_cons_zero, List.set_cons_succ]
                refine takeD (i := 3) (some 99) (v := ?_) rfl rfl (by kernel_rfl) (by kernel_rfl) (by kernel_rfl) (fun _ _ _ h => h) (by kernel_rfl) ?_ (by assumption) ?_
                rotate_left
                · intro wx hSw
                  try dsimp only at hSw
                  go_simp
                  try (with_reducible rfl)
                try simp only [Act.put, List.setIfInBounds_toArray, List.set_cons_zero, List.set_cons_succ]
                refine takeD (i := 5) (some 101) (v := ?_) rfl rfl (by kernel_rfl) (by kernel_rfl) (by kernel_rfl) (fun _ _ _ h => h) (by kernel_rfl) ?_ (by assumption) ?_
                rotate_left
                · intro wx hSw
                  try dsimp only at hSw
                  go_simp
                  try (with_reducible rfl)
                try simp only [Act.put, List.setIfInBounds_toArray, List.set_cons_zero, List.set_cons_succ]
                refine takeD (i := 6) (some 102) (v := ?_) rfl rfl (by kernel_rfl) (by kernel_rfl) (by kernel_rfl) (fun _ _ _ h => h) (by kernel_rfl) ?_ (by assumption) ?_
                rotate_left
                · intro wx hSw
                  try dsimp only at hSw
                  go_simp
                  try (with_reducible rfl)
                try simp only [Act.put, List.setIfInBounds_toArray, List.set_cons_zero, List.set_cons_succ]
                refine takeD (i := 7) (some 103) (v := ?_) rfl rfl (by kernel_rfl) (by kernel_rfl) (by kernel_rfl) (fun _ _ _ h => h) (by kernel_rfl) ?_ (by assumption) ?_
                rotate_left
                · intro wx hSw
                  try dsimp only at hSw
                  go_simp
                  try (with_reducible rfl)
                try simp only [Act.put, List.setIfInBounds_toArray, List.set_cons_zero, List.set_cons_succ]
                refine takeD (i := 8) (some 104) (v := ?_) rfl rfl (by kernel_rfl) (by kernel_rfl) (by kernel_rfl) (fun _ _ _ h => h) (by kernel_rfl) ?_ (by assumption) ?_
                rotate_left
                · intro wx hSw
                  try dsimp only at hSw
                  go_simp
                  try (with_reducible rfl)
                try simp only [Act.put, List.setIfInBounds_toArray, List.set_cons_zero, List.set_cons_succ]
                refine wpAnyH_ready (rs := [0]) (by kernel_rfl) (by simp) ?_
                refine AllReadyH.cons rfl (fun K hK => ?_) AllReadyH.nil
                go_simp
                refine hK.out _ _ True.intro (fun hHeld => ?_)
                clear hK K
                try simp only [Act.put, List.setIfInBounds_toArray, List.set_cons_zero, List.set_cons_succ]
                refine wpAnyH_ready (rs := [4]) (by kernel_rfl) (by simp) ?_
                refine AllReadyH.cons rfl (fun K hK => ?_) AllReadyH.nil
                refine wp_appD (by kernel_rfl) (some 100) (.tmp 96) (.tmp 99) 24 _ _ _ rfl rfl rfl rfl rfl hrun1 ?_
                refine hK.out _ _ True.intro (fun hHeld => ?_)
                clear hK K
                try simp only [Act.put, List.setIfInBounds_toArray, List.set_cons_zero, List.set_cons_succ]
                refine wpAnyH_ready (rs := [9]) (by kernel_rfl) (by simp) ?_
                refine AllReadyH.cons rfl (fun K hK => ?_) AllReadyH.nil
                refine wp_appD (by kernel_rfl) (some 105) (.tmp 100) (.tmp 104) 24 _ _ _ rfl rfl rfl rfl rfl (by first | exact hrun2 | exact HR2a.out | exact HR2b.out | exact HR2c.out | (simp [go_sem]; exact hrun2)) ?_
                refine hK.out _ _ True.intro (fun hHeld => ?_)
                clear hK K
                try simp only [Act.put, List.setIfInBounds_toArray, List.set_cons_zero, List.set_cons_succ]
                refine takeD (i := 10) (some 8) (v := ?_) rfl rfl (by kernel_rfl) (by kernel_rfl) (by kernel_rfl) (fun _ _ _ h => h) (by kernel_rfl) ?_ (by assumption) ?_
                rotate_left
                · intro wx hSw
                  try dsimp only at hSw
                  go_simp
                  try (with_reducible rfl)
                try simp only [Act.put, List.setIfInBounds_toArray, List.set_cons_zero, List.set_cons_succ]
                refine wpAnyH_done (by kernel_rfl) ?_ _
                go_wp2_with fail
                go_ret
                exact ⟨_, rfl, hOwn, HBel.out⟩
      · have HE2 : Hid (L = insE ⟨m, p, t⟩ (notM m (entsL k f))) := HE.out
        rcases hO.own.row with ⟨e, e2⟩ | ⟨gg2, cap2, e, _, _⟩
        · exfalso
          have := congrArg List.length HE2.out
          rw [insE_len, e2] at this
          simp at this
        subst e
        by_cases h9 : L.length ≤ 8
        · have h9' : ((L.length : Nat) : Int) ≤ 8 := by omega
          have HQ : Hid (L = learnedL (entsL k f) ⟨m, p, t⟩) := by
            rw [Hid]
            conv => lhs; rw [HE2.out]
            exact learned_short (by rw [← HE2.out]; exact h9)
          go_wp2_with fail
          go_ret
          exact ⟨_, rfl, by rw [← HQ.out]; exact hO.own, hO.below⟩
        · have h9' : ¬ ((L.length : Nat) : Int) ≤ 8 := by omega
          go_wp2_with fail
          have HM : Hid (L = insE ⟨m, p, t⟩ (notM m (entsL k f))) := HE2.out
          have h9N : L.length ≤ 10 ∧ ¬ L.length ≤ 8 := ⟨by omega, h9⟩
          have hO2 := hO
          obtain ⟨N, hNN⟩ : ∃ N, N = L.length := ⟨_, rfl⟩
          have hMl : L.length = N := hNN.symm
          rw [← hNN] at h9N hO2 ⊢
          clear hNN
          have HN : Hid (L.length = N) := hMl
          have HO2 : Hid (Out w wr (.slice (some ⟨gg2, 0, none⟩) N cap2) L ⟨m, p, t⟩) := hO2
          have hrow : RowTo gg2 31 (N * 3) (flat fun i => L.getD i default) (N * 3) wr := by
            rcases hO2.own.row with ⟨e, _⟩ | ⟨g', cap', e, _, hr⟩
            · cases e
            · cases e; rw [hMl] at hr; exact hr
          obtain ⟨fo, hfo⟩ : ∃ fo : Nat → Ent, fo = fun i => L.getD i default := ⟨_, rfl⟩
          have HFo : Hid (fo = fun i => L.getD i default) := hfo
          rw [← hfo] at hrow
          have HRw : Hid (RowTo gg2 31 (N * 3) (flat fo) (N * 3) wr) := hrow
          obtain ⟨wB, hwB⟩ : ∃ wB : World, wB = wr := ⟨_, rfl⟩
          have HWB : Hid (wB = wr) := hwB
          have hN10 := h9N.1
          have HLong : Hid (∀ o, o < L.length → bestO (notM m L) = some (L.getD o default) → L.take o ++ L.drop (o + 1) = learnedL (entsL k f) ⟨m, p, t⟩) := fun o ho hb => by
            rw [HM.out] at ho hb ⊢
            exact learned_long (x := ⟨m, p, t⟩) (entsL_sorted HO.out) (by rw [entsL_len]; exact h8) (by
              have hh := h9N.2
              rw [← hMl, HM.out] at hh
              exact hh) ho hb
          have HNe : Hid (notM m L ≠ []) := fun e => by
            rw [HM.out] at e
            have e2 : notM m (notM m (entsL k f)) = [] := by
              have := notM_insE_self ⟨m, p, t⟩ (notM m (entsL k f))
              exact this.symm.trans e
            rw [notM_all (fun y hy => notM_ne hy)] at e2
            have e3 := congrArg List.length HM.out
            rw [insE_len, e2, hMl] at e3
            have := h9N.2
            simp at e3
            omega
          have H9N : Hid (¬ N ≤ 8) := h9N.2
          clear hrow hfo hO2 hMl h9N h9 h9' cX hO hwB
          go_loopw [13, 14] (fun old i wr => ∃ (k : Nat) (q : Int), k ≤ N ∧ i = .int .i64 k ∧ old = .int .i64 q ∧ St2 fo m k q ∧ Same wB wr) (fun _ i _ => N - (intOf i).toNat)
          case atStart => exact ⟨0, -1, Nat.zero_le _, rfl, rfl, .inl ⟨rfl, by simp [entsL, notM]⟩, by rw [HWB.out]; exact Same.refl _⟩
          case round =>
            obtain ⟨k, q, hk, rfl, rfl, hst, hS⟩ := hrel
            have HSt : Hid (St2 fo m k q) := hst
            have HSm : Hid (Same wB wr) := hS
            have HC : Hid (∀ i, i < N → wr.cell? ⟨gg2, i * 3, none⟩ = some (.int .i64 (fo i).m) ∧ wr.cell? ⟨gg2, i * 3 + 2, none⟩ = some (.int .i64 (fo i).t)) := fun i hi => by
              rw [hS.cell, hS.cell, HWB.out, HRw.out.at _ (by omega), HRw.out.at _ (by omega), flat0, flat2]
              exact ⟨rfl, rfl⟩
            clear hst hS
            by_cases hlt : k < N
            · have hlt' : (k : Int) < N := by omega
              obtain ⟨q1, q2⟩ := HC.out k hlt
              by_cases hm : (fo k).m = m
              · have hmq : ((fo k).m != m) = false := by simp [hm]
                have HS2 : Hid (St2 fo m (k + 1) q) := st2_pass HSt.out hm
                clear hm
                go_wp2_with fail
                refine wp_region_held_drew (S := fun w' => w'.cell? ⟨gg2, k * 3, none⟩ = some (.int .i64 (fo k).m) ∧ w'.cell? ⟨gg2, k * 3 + 2, none⟩ = some (.int .i64 (fo k).t)) (by kernel_rfl) ⟨q1, q2⟩ (fun hHeld => ?_)
                refine takeD (i := 0) (some 71) (v := ?_) rfl rfl (by kernel_rfl) (by kernel_rfl) (by kernel_rfl) (fun _ _ _ h => h) (by kernel_rfl) ?_ (by assumption) ?_
                rotate_left
                · intro wx hSw
                  obtain ⟨hS1, hS2⟩ := hSw
                  go_simp
                  try (with_reducible rfl)
                try simp only [Act.put, List.setIfInBounds_toArray, List.set_cons_zero, List.set_cons_succ]
                refine takeD (i := 1) (some 72) (v := ?_) rfl rfl (by kernel_rfl) (by kernel_rfl) (by kernel_rfl) (fun _ _ _ h => h) (by kernel_rfl) ?_ (by assumption) ?_
                rotate_left
                · intro wx hSw
                  obtain ⟨hS1, hS2⟩ := hSw
                  go_simp
                  try (with_reducible rfl)
                try simp only [Act.put, List.setIfInBounds_toArray, List.set_cons_zero, List.set_cons_succ]
                refine takeD (i := 2) (some 73) (v := ?_) rfl rfl (by kernel_rfl) (by kernel_rfl) (by kernel_rfl) (fun _ _ _ h => h) (by kernel_rfl) ?_ (by assumption) ?_
                rotate_left
                · intro wx hSw
                  obtain ⟨hS1, hS2⟩ := hSw
                  go_simp
                  try (with_reducible rfl)
                try simp only [Act.put, List.setIfInBounds_toArray, List.set_cons_zero, List.set_cons_succ]
                refine takeD (i := 3) (some 74) (v := ?_) rfl rfl (by kernel_rfl) (by kernel_rfl) (by kernel_rfl) (fun _ _ _ h => h) (by kernel_rfl) ?_ (by assumption) ?_
                rotate_left
                · intro wx hSw
                  obtain ⟨hS1, hS2⟩ := hSw
                  go_simp
                  try (with_reducible rfl)
                try simp only [Act.put, List.setIfInBounds_toArray, List.set_cons_zero, List.set_cons_succ]
                refine takeD (i := 4) (some 75) (v := ?_) rfl rfl (by kernel_rfl) (by kernel_rfl) (by kernel_rfl) (fun _ _ _ h => h) (by kernel_rfl) ?_ (by assumption) ?_
                rotate_left
                · intro wx hSw
                  obtain ⟨hS1, hS2⟩ := hSw
                  go_simp
                  try (with_reducible rfl)
                try simp only [Act.put, List.setIfInBounds_toArray, List.set_cons_zero, List.set_cons_succ]
                refine takeD (i := 5) (some 76) (v := ?_) rfl rfl (by kernel_rfl) (by kernel_rfl) (by kernel_rfl) (fun _ _ _ h => h) (by kernel_rfl) ?_ (by assumption) ?_
                rotate_left
                · intro wx hSw
                  obtain ⟨hS1, hS2⟩ := hSw
                  go_simp
                  try (with_reducible rfl)
                try simp only [Act.put, List.setIfInBounds_toArray, List.set_cons_zero, List.set_cons_succ]
                refine takeD (i := 6) (some 77) (v := ?_) rfl rfl (by kernel_rfl) (by kernel_rfl) (by kernel_rfl) (fun _ _ _ h => h) (by kernel_rfl) ?_ (by assumption) ?_
                rotate_left
                · intro wx hSw
                  obtain ⟨hS1, hS2⟩ := hSw
                  go_simp
                  try (with_reducible rfl)
                try simp only [Act.put, List.setIfInBounds_toArray, List.set_cons_zero, List.set_cons_succ]
                refine takeD (i := 7) (some 78) (v := ?_) rfl rfl (by kernel_rfl) (by kernel_rfl) (by kernel_rfl) (fun _ _ _ h => h) (by kernel_rfl) ?_ (by assumption) ?_
                rotate_left
                · intro wx hSw
                  obtain ⟨hS1, hS2⟩ := hSw
                  go_simp
                  try (with_reducible rfl)
                try simp only [Act.put, List.setIfInBounds_toArray, List.set_cons_zero, List.set_cons_succ]
                refine skipD (i := 8) (some 79) rfl rfl (by kernel_rfl) (by kernel_rfl) (by kernel_rfl) (fun _ _ _ h => h) (by kernel_rfl) (by assumption) ?_
                try simp only [Act.put, List.setIfInBounds_toArray, List.set_cons_zero, List.set_cons_succ]
                refine skipD (i := 9) (some 80) rfl rfl (by kernel_rfl) (by kernel_rfl) (by kernel_rfl) (fun _ _ _ h => h) (by kernel_rfl) (by assumption) ?_
                try simp only [Act.put, List.setIfInBounds_toArray, List.set_cons_zero, List.set_cons_succ]
                refine skipD (i := 10) (some 81) rfl rfl (by kernel_rfl) (by kernel_rfl) (by kernel_rfl) (fun _ _ _ h => h) (by kernel_rfl) (by assumption) ?_
                try simp only [Act.put, List.setIfInBounds_toArray, List.set_cons_zero, List.set_cons_succ]
                refine skipD (i := 11) (some 82) rfl rfl (by kernel_rfl) (by kernel_rfl) (by kernel_rfl) (fun _ _ _ h => h) (by kernel_rfl) (by assumption) ?_
                try simp only [Act.put, List.setIfInBounds_toArray, List.set_cons_zero, List.set_cons_succ]
                refine skipD (i := 12) (some 83) rfl rfl (by kernel_rfl) (by kernel_rfl) (by kernel_rfl) (fun _ _ _ h => h) (by kernel_rfl) (by assumption) ?_
                try simp only [Act.put, List.setIfInBounds_toArray, List.set_cons_zero, List.set_cons_succ]
                refine skipD (i := 13) (some 84) rfl rfl (by kernel_rfl) (by kernel_rfl) (by kernel_rfl) (fun _ _ _ h => h) (by kernel_rfl) (by assumption) ?_
                try simp only [Act.put, List.setIfInBounds_toArray, List.set_cons_zero, List.set_cons_succ]
                refine skipD (i := 14) (some 85) rfl rfl (by kernel_rfl) (by kernel_rfl) (by kernel_rfl) (fun _ _ _ h => h) (by kernel_rfl) (by assumption) ?_
                try simp only [Act.put, List.setIfInBounds_toArray, List.set_cons_zero, List.set_cons_succ]
                refine skipD (i := 15) (some 86) rfl rfl (by kernel_rfl) (by kernel_rfl) (by kernel_rfl) (fun _ _ _ h => h) (by kernel_rfl) (by assumption) ?_
                try simp only [Act.put, List.setIfInBounds_toArray, List.set_cons_zero, List.set_cons_succ]
                refine skipD (i := 16) (some 87) rfl rfl (by kernel_rfl) (by kernel_rfl) (by kernel_rfl) (fun _ _ _ h => h) (by kernel_rfl) (by assumption) ?_
                try simp only [Act.put, List.setIfInBounds_toArray, List.set_cons_zero, List.set_cons_succ]
                refine skipD (i := 17) (some 88) rfl rfl (by kernel_rfl) (by kernel_rfl) (by kernel_rfl) (fun _ _ _ h => h) (by kernel_rfl) (by assumption) ?_
                try simp only [Act.put, List.setIfInBounds_toArray, List.set_cons_zero, List.set_cons_succ]
                refine skipD (i := 18) (some 89) rfl rfl (by kernel_rfl) (by kernel_rfl) (by kernel_rfl) (fun _ _ _ h => h) (by kernel_rfl) (by assumption) ?_
                try simp only [Act.put, List.setIfInBounds_toArray, List.set_cons_zero, List.set_cons_succ]
                refine skipD (i := 19) (some 90) rfl rfl (by kernel_rfl) (by kernel_rfl) (by kernel_rfl) (fun _ _ _ h => h) (by kernel_rfl) (by assumption) ?_
                try simp only [Act.put, List.setIfInBounds_toArray, List.set_cons_zero, List.set_cons_succ]
                refine skipD (i := 20) (some 91) rfl rfl (by kernel_rfl) (by kernel_rfl) (by kernel_rfl) (fun _ _ _ h => h) (by kernel_rfl) (by assumption) ?_
                try simp only [Act.put, List.setIfInBounds_toArray, List.set_cons_zero, List.set_cons_succ]
                refine skipD (i := 21) (some 92) rfl rfl (by kernel_rfl) (by kernel_rfl) (by kernel_rfl) (fun _ _ _ h => h) (by kernel_rfl) (by assumption) ?_
                try simp only [Act.put, List.setIfInBounds_toArray, List.set_cons_zero, List.set_cons_succ]
                refine skipD (i := 22) (some 93) rfl rfl (by kernel_rfl) (by kernel_rfl) (by kernel_rfl) (fun _ _ _ h => h) (by kernel_rfl) (by assumption) ?_
                try simp only [Act.put, List.setIfInBounds_toArray, List.set_cons_zero, List.set_cons_succ]
                refine takeD (i := 23) (some 94) (v := ?_) rfl rfl (by kernel_rfl) (by kernel_rfl) (by kernel_rfl) (fun _ _ _ h => h) (by kernel_rfl) ?_ (by assumption) ?_
                rotate_left
                · intro wx hSw
                  obtain ⟨hS1, hS2⟩ := hSw
                  go_simp
                  try (with_reducible rfl)
                try simp only [Act.put, List.setIfInBounds_toArray, List.set_cons_zero, List.set_cons_succ]
                refine wpAnyH_done (by kernel_rfl) ?_ _
                clear hHeld q1 q2
                go_wp2_with fail
                go_roundw
                case rel => exact ⟨k + 1, q, by omega, by go_num, rfl, HS2.out, HSm.out.drewN 1⟩
                case measure => simp [intOf]; omega
              · have hmq : ((fo k).m != m) = true := by simp [hm]
                rcases Int.lt_or_le q 0 with h0 | h0
                · have HS2 : Hid (St2 fo m (k + 1) k) := st2_first HSt.out hm h0
                  clear hm
                  go_wp2_with fail
                  refine wp_region_held_drew (S := fun w' => w'.cell? ⟨gg2, k * 3, none⟩ = some (.int .i64 (fo k).m) ∧ w'.cell? ⟨gg2, k * 3 + 2, none⟩ = some (.int .i64 (fo k).t)) (by kernel_rfl) ⟨q1, q2⟩ (fun hHeld => ?_)
                  refine takeD (i := 0) (some 71) (v := ?_) rfl rfl (by kernel_rfl) (by kernel_rfl) (by kernel_rfl) (fun _ _ _ h => h) (by kernel_rfl) ?_ (by assumption) ?_
                  rotate_left
                  · intro wx hSw
                    obtain ⟨hS1, hS2⟩ := hSw
                    go_simp
                    try (with_reducible rfl)
                  try simp only [Act.put, List.setIfInBounds_toArray, List.set_cons_zero, List.set_cons_succ]
                  refine takeD (i := 1) (some 72) (v := ?_) rfl rfl (by kernel_rfl) (by kernel_rfl) (by kernel_rfl) (fun _ _ _ h => h) (by kernel_rfl) ?_ (by assumption) ?_
                  rotate_left
                  · intro wx hSw
                    obtain ⟨hS1, hS2⟩ := hSw
                    go_simp
                    try (with_reducible rfl)
                  try simp only [Act.put, List.setIfInBounds_toArray, List.set_cons_zero, List.set_cons_succ]
                  refine takeD (i := 2) (some 73) (v := ?_) rfl rfl (by kernel_rfl) (by kernel_rfl) (by kernel_rfl) (fun _ _ _ h => h) (by kernel_rfl) ?_ (by assumption) ?_
                  rotate_left
                  · intro wx hSw
                    obtain ⟨hS1, hS2⟩ := hSw
                    go_simp
                    try (with_reducible rfl)
                  try simp only [Act.put, List.setIfInBounds_toArray, List.set_cons_zero, List.set_cons_succ]
                  refine takeD (i := 3) (some 74) (v := ?_) rfl rfl (by kernel_rfl) (by kernel_rfl) (by kernel_rfl) (fun _ _ _ h => h) (by kernel_rfl) ?_ (by assumption) ?_
                  rotate_left
                  · intro wx hSw
                    obtain ⟨hS1, hS2⟩ := hSw
                    go_simp
                    try (with_reducible rfl)
                  try simp only [Act.put, List.setIfInBounds_toArray, List.set_cons_zero, List.set_cons_succ]
                  refine takeD (i := 4) (some 75) (v := ?_) rfl rfl (by kernel_rfl) (by kernel_rfl) (by kernel_rfl) (fun _ _ _ h => h) (by kernel_rfl) ?_ (by assumption) ?_
                  rotate_left
                  · intro wx hSw
                    obtain ⟨hS1, hS2⟩ := hSw
                    go_simp
                    try (with_reducible rfl)
                  try simp only [Act.put, List.setIfInBounds_toArray, List.set_cons_zero, List.set_cons_succ]
                  refine takeD (i := 5) (some 76) (v := ?_) rfl rfl (by kernel_rfl) (by kernel_rfl) (by kernel_rfl) (fun _ _ _ h => h) (by kernel_rfl) ?_ (by assumption) ?_
                  rotate_left
                  · intro wx hSw
                    obtain ⟨hS1, hS2⟩ := hSw
                    go_simp
                    try (with_reducible rfl)
                  try simp only [Act.put, List.setIfInBounds_toArray, List.set_cons_zero, List.set_cons_succ]
                  refine takeD (i := 6) (some 77) (v := ?_) rfl rfl (by kernel_rfl) (by kernel_rfl) (by kernel_rfl) (fun _ _ _ h => h) (by kernel_rfl) ?_ (by assumption) ?_
                  rotate_left
                  · intro wx hSw
                    obtain ⟨hS1, hS2⟩ := hSw
                    go_simp
                    try (with_reducible rfl)
                  try simp only [Act.put, List.setIfInBounds_toArray, List.set_cons_zero, List.set_cons_succ]
                  refine takeD (i := 7) (some 78) (v := ?_) rfl rfl (by kernel_rfl) (by kernel_rfl) (by kernel_rfl) (fun _ _ _ h => h) (by kernel_rfl) ?_ (by assumption) ?_
                  rotate_left
                  · intro wx hSw
                    obtain ⟨hS1, hS2⟩ := hSw
                    go_simp
                    try (with_reducible rfl)
                  try simp only [Act.put, List.setIfInBounds_toArray, List.set_cons_zero, List.set_cons_succ]
                  refine takeD (i := 8) (some 79) (v := ?_) rfl rfl (by kernel_rfl) (by kernel_rfl) (by kernel_rfl) (fun _ _ _ h => h) (by kernel_rfl) ?_ (by assumption) ?_
                  rotate_left
                  · intro wx hSw
                    obtain ⟨hS1, hS2⟩ := hSw
                    go_simp
                    try (with_reducible rfl)
                  try simp only [Act.put, List.setIfInBounds_toArray, List.set_cons_zero, List.set_cons_succ]
                  refine takeD (i := 9) (some 80) (v := ?_) rfl rfl (by kernel_rfl) (by kernel_rfl) (by kernel_rfl) (fun _ _ _ h => h) (by kernel_rfl) ?_ (by assumption) ?_
                  rotate_left
                  · intro wx hSw
                    obtain ⟨hS1, hS2⟩ := hSw
                    go_simp
                    try (with_reducible rfl)
                  try simp only [Act.put, List.setIfInBounds_toArray, List.set_cons_zero, List.set_cons_succ]
                  refine takeD (i := 10) (some 81) (v := ?_) rfl rfl (by kernel_rfl) (by kernel_rfl) (by kernel_rfl) (fun _ _ _ h => h) (by kernel_rfl) ?_ (by assumption) ?_
                  rotate_left
                  · intro wx hSw
                    obtain ⟨hS1, hS2⟩ := hSw
                    go_simp
                    try (with_reducible rfl)
                  try simp only [Act.put, List.setIfInBounds_toArray, List.set_cons_zero, List.set_cons_succ]
                  refine skipD (i := 11) (some 82) rfl rfl (by kernel_rfl) (by kernel_rfl) (by kernel_rfl) (fun _ _ _ h => h) (by kernel_rfl) (by assumption) ?_
                  try simp only [Act.put, List.setIfInBounds_toArray, List.set_cons_zero, List.set_cons_succ]
                  refine skipD (i := 12) (some 83) rfl rfl (by kernel_rfl) (by kernel_rfl) (by kernel_rfl) (fun _ _ _ h => h) (by kernel_rfl) (by assumption) ?_
                  try simp only [Act.put, List.setIfInBounds_toArray, List.set_cons_zero, List.set_cons_succ]
                  refine skipD (i := 13) (some 84) rfl rfl (by kernel_rfl) (by kernel_rfl) (by kernel_rfl) (fun _ _ _ h => h) (by kernel_rfl) (by assumption) ?_
                  try simp only [Act.put, List.setIfInBounds_toArray, List.set_cons_zero, List.set_cons_succ]
                  refine skipD (i := 14) (some 85) rfl rfl (by kernel_rfl) (by kernel_rfl) (by kernel_rfl) (fun _ _ _ h => h) (by kernel_rfl) (by assumption) ?_
                  try simp only [Act.put, List.setIfInBounds_toArray, List.set_cons_zero, List.set_cons_succ]
                  refine skipD (i := 15) (some 86) rfl rfl (by kernel_rfl) (by kernel_rfl) (by kernel_rfl) (fun _ _ _ h => h) (by kernel_rfl) (by assumption) ?_
                  try simp only [Act.put, List.setIfInBounds_toArray, List.set_cons_zero, List.set_cons_succ]
                  refine skipD (i := 16) (some 87) rfl rfl (by kernel_rfl) (by kernel_rfl) (by kernel_rfl) (fun _ _ _ h => h) (by kernel_rfl) (by assumption) ?_
                  try simp only [Act.put, List.setIfInBounds_toArray, List.set_cons_zero, List.set_cons_succ]
                  refine skipD (i := 17) (some 88) rfl rfl (by kernel_rfl) (by kernel_rfl) (by kernel_rfl) (fun _ _ _ h => h) (by kernel_rfl) (by assumption) ?_
                  try simp only [Act.put, List.setIfInBounds_toArray, List.set_cons_zero, List.set_cons_succ]
                  refine skipD (i := 18) (some 89) rfl rfl (by kernel_rfl) (by kernel_rfl) (by kernel_rfl) (fun _ _ _ h => h) (by kernel_rfl) (by assumption) ?_
                  try simp only [Act.put, List.setIfInBounds_toArray, List.set_cons_zero, List.set_cons_succ]
                  refine skipD (i := 19) (some 90) rfl rfl (by kernel_rfl) (by kernel_rfl) (by kernel_rfl) (fun _ _ _ h => h) (by kernel_rfl) (by assumption) ?_
                  try simp only [Act.put, List.setIfInBounds_toArray, List.set_cons_zero, List.set_cons_succ]
                  refine skipD (i := 20) (some 91) rfl rfl (by kernel_rfl) (by kernel_rfl) (by kernel_rfl) (fun _ _ _ h => h) (by kernel_rfl) (by assumption) ?_
                  try simp only [Act.put, List.setIfInBounds_toArray, List.set_cons_zero, List.set_cons_succ]
                  refine skipD (i := 21) (some 92) rfl rfl (by kernel_rfl) (by kernel_rfl) (by kernel_rfl) (fun _ _ _ h => h) (by kernel_rfl) (by assumption) ?_
                  try simp only [Act.put, List.setIfInBounds_toArray, List.set_cons_zero, List.set_cons_succ]
                  refine takeD (i := 22) (some 93) (v := ?_) rfl rfl (by kernel_rfl) (by kernel_rfl) (by kernel_rfl) (fun _ _ _ h => h) (by kernel_rfl) ?_ (by assumption) ?_
                  rotate_left
                  · intro wx hSw
                    obtain ⟨hS1, hS2⟩ := hSw
                    go_simp
                    try (with_reducible rfl)
                  try simp only [Act.put, List.setIfInBounds_toArray, List.set_cons_zero, List.set_cons_succ]
                  refine takeD (i := 23) (some 94) (v := ?_) rfl rfl (by kernel_rfl) (by kernel_rfl) (by kernel_rfl) (fun _ _ _ h => h) (by kernel_rfl) ?_ (by assumption) ?_
                  rotate_left
                  · intro wx hSw
                    obtain ⟨hS1, hS2⟩ := hSw
                    go_simp
                    try (with_reducible rfl)
                  try simp only [Act.put, List.setIfInBounds_toArray, List.set_cons_zero, List.set_cons_succ]
                  refine wpAnyH_done (by kernel_rfl) ?_ _
                  clear hHeld q1 q2
                  go_wp2_with fail
                  go_roundw
                  case rel => exact ⟨k + 1, k, by omega, by go_num, rfl, HS2.out, HSm.out.drewN 1⟩
                  case measure => simp [intOf]; omega
                · obtain ⟨o, rfl⟩ := Int.eq_ofNat_of_zero_le h0
                  obtain ⟨hok2, hA, hB⟩ := st2_next HSt.out hm
                  have HA : Hid ((fo k).t < (fo o).t → St2 fo m (k + 1) k) := hA
                  have HB : Hid (¬ (fo k).t < (fo o).t → St2 fo m (k + 1) o) := hB
                  have q3 := (HC.out o (by omega)).2
                  have ho' : (o : Int) < N := by omega
                  have h0' : ¬ (o : Int) < 0 := by omega
                  clear hA hB hm h0
                  by_cases ht : (fo k).t < (fo o).t
                  · have HS2 : Hid (St2 fo m (k + 1) k) := HA.out ht
                    go_wp2_with fail
                    refine wp_region_held_drew (S := fun w' => w'.cell? ⟨gg2, k * 3, none⟩ = some (.int .i64 (fo k).m) ∧ w'.cell? ⟨gg2, k * 3 + 2, none⟩ = some (.int .i64 (fo k).t) ∧ w'.cell? ⟨gg2, o * 3 + 2, none⟩ = some (.int .i64 (fo o).t)) (by kernel_rfl) ⟨q1, q2, q3⟩ (fun hHeld => ?_)
                    refine takeD (i := 0) (some 71) (v := ?_) rfl rfl (by kernel_rfl) (by kernel_rfl) (by kernel_rfl) (fun _ _ _ h => h) (by kernel_rfl) ?_ (by assumption) ?_
                    rotate_left
                    · intro wx hSw
                      obtain ⟨hS1, hS2, hS3⟩ := hSw
                      go_simp
                      try (with_reducible rfl)
                    try simp only [Act.put, List.setIfInBounds_toArray, List.set_cons_zero, List.set_cons_succ]
                    refine takeD (i := 1) (some 72) (v := ?_) rfl rfl (by kernel_rfl) (by kernel_rfl) (by kernel_rfl) (fun _ _ _ h => h) (by kernel_rfl) ?_ (by assumption) ?_
                    rotate_left
                    · intro wx hSw
                      obtain ⟨hS1, hS2, hS3⟩ := hSw
                      go_simp
                      try (with_reducible rfl)
                    try simp only [Act.put, List.setIfInBounds_toArray, List.set_cons_zero, List.set_cons_succ]
                    refine takeD (i := 2) (some 73) (v := ?_) rfl rfl (by kernel_rfl) (by kernel_rfl) (by kernel_rfl) (fun _ _ _ h => h) (by kernel_rfl) ?_ (by assumption) ?_
                    rotate_left
                    · intro wx hSw
                      obtain ⟨hS1, hS2, hS3⟩ := hSw
                      go_simp
                      try (with_reducible rfl)
                    try simp only [Act.put, List.setIfInBounds_toArray, List.set_cons_zero, List.set_cons_succ]
                    refine takeD (i := 3) (some 74) (v := ?_) rfl rfl (by kernel_rfl) (by kernel_rfl) (by kernel_rfl) (fun _ _ _ h => h) (by kernel_rfl) ?_ (by assumption) ?_
                    rotate_left
                    · intro wx hSw
                      obtain ⟨hS1, hS2, hS3⟩ := hSw
                      go_simp
                      try (with_reducible rfl)
                    try simp only [Act.put, List.setIfInBounds_toArray, List.set_cons_zero, List.set_cons_succ]
                    refine takeD (i := 4) (some 75) (v := ?_) rfl rfl (by kernel_rfl) (by kernel_rfl) (by kernel_rfl) (fun _ _ _ h => h) (by kernel_rfl) ?_ (by assumption) ?_
                    rotate_left
                    · intro wx hSw
                      obtain ⟨hS1, hS2, hS3⟩ := hSw
                      go_simp
                      try (with_reducible rfl)
                    try simp only [Act.put, List.setIfInBounds_toArray, List.set_cons_zero, List.set_cons_succ]
                    refine takeD (i := 5) (some 76) (v := ?_) rfl rfl (by kernel_rfl) (by kernel_rfl) (by kernel_rfl) (fun _ _ _ h => h) (by kernel_rfl) ?_ (by assumption) ?_
                    rotate_left
                    · intro wx hSw
                      obtain ⟨hS1, hS2, hS3⟩ := hSw
                      go_simp
                      try (with_reducible rfl)
                    try simp only [Act.put, List.setIfInBounds_toArray, List.set_cons_zero, List.set_cons_succ]
                    refine takeD (i := 6) (some 77) (v := ?_) rfl rfl (by kernel_rfl) (by kernel_rfl) (by kernel_rfl) (fun _ _ _ h => h) (by kernel_rfl) ?_ (by assumption) ?_
                    rotate_left
                    · intro wx hSw
                      obtain ⟨hS1, hS2, hS3⟩ := hSw
                      go_simp
                      try (with_reducible rfl)
                    try simp only [Act.put, List.setIfInBounds_toArray, List.set_cons_zero, List.set_cons_succ]
                    refine takeD (i := 7) (some 78) (v := ?_) rfl rfl (by kernel_rfl) (by kernel_rfl) (by kernel_rfl) (fun _ _ _ h => h) (by kernel_rfl) ?_ (by assumption) ?_
                    rotate_left
                    · intro wx hSw
                      obtain ⟨hS1, hS2, hS3⟩ := hSw
                      go_simp
                      try (with_reducible rfl)
                    try simp only [Act.put, List.setIfInBounds_toArray, List.set_cons_zero, List.set_cons_succ]
                    refine takeD (i := 8) (some 79) (v := ?_) rfl rfl (by kernel_rfl) (by kernel_rfl) (by kernel_rfl) (fun _ _ _ h => h) (by kernel_rfl) ?_ (by assumption) ?_
                    rotate_left
                    · intro wx hSw
                      obtain ⟨hS1, hS2, hS3⟩ := hSw
                      go_simp
                      try (with_reducible rfl)
                    try simp only [Act.put, List.setIfInBounds_toArray, List.set_cons_zero, List.set_cons_succ]
                    refine takeD (i := 9) (some 80) (v := ?_) rfl rfl (by kernel_rfl) (by kernel_rfl) (by kernel_rfl) (fun _ _ _ h => h) (by kernel_rfl) ?_ (by assumption) ?_
                    rotate_left
                    · intro wx hSw
                      obtain ⟨hS1, hS2, hS3⟩ := hSw
                      go_simp
                      try (with_reducible rfl)
                    try simp only [Act.put, List.setIfInBounds_toArray, List.set_cons_zero, List.set_cons_succ]
                    refine takeD (i := 10) (some 81) (v := ?_) rfl rfl (by kernel_rfl) (by kernel_rfl) (by kernel_rfl) (fun _ _ _ h => h) (by kernel_rfl) ?_ (by assumption) ?_
                    rotate_left
                    · intro wx hSw
                      obtain ⟨hS1, hS2, hS3⟩ := hSw
                      go_simp
                      try (with_reducible rfl)
                    try simp only [Act.put, List.setIfInBounds_toArray, List.set_cons_zero, List.set_cons_succ]
                    refine takeD (i := 11) (some 82) (v := ?_) rfl rfl (by kernel_rfl) (by kernel_rfl) (by kernel_rfl) (fun _ _ _ h => h) (by kernel_rfl) ?_ (by assumption) ?_
                    rotate_left
                    · intro wx hSw
                      obtain ⟨hS1, hS2, hS3⟩ := hSw
                      go_simp
                      try (with_reducible rfl)
                    try simp only [Act.put, List.setIfInBounds_toArray, List.set_cons_zero, List.set_cons_succ]
                    refine takeD (i := 12) (some 83) (v := ?_) rfl rfl (by kernel_rfl) (by kernel_rfl) (by kernel_rfl) (fun _ _ _ h => h) (by kernel_rfl) ?_ (by assumption) ?_
                    rotate_left
                    · intro wx hSw
                      obtain ⟨hS1, hS2, hS3⟩ := hSw
                      go_simp
                      try (with_reducible rfl)
                    try simp only [Act.put, List.setIfInBounds_toArray, List.set_cons_zero, List.set_cons_succ]
                    refine takeD (i := 13) (some 84) (v := ?_) rfl rfl (by kernel_rfl) (by kernel_rfl) (by kernel_rfl) (fun _ _ _ h => h) (by kernel_rfl) ?_ (by assumption) ?_
                    rotate_left
                    · intro wx hSw
                      obtain ⟨hS1, hS2, hS3⟩ := hSw
                      go_simp
                      try (with_reducible rfl)
                    try simp only [Act.put, List.setIfInBounds_toArray, List.set_cons_zero, List.set_cons_succ]
                    refine takeD (i := 14) (some 85) (v := ?_) rfl rfl (by kernel_rfl) (by kernel_rfl) (by kernel_rfl) (fun _ _ _ h => h) (by kernel_rfl) ?_ (by assumption) ?_
                    rotate_left
                    · intro wx hSw
                      obtain ⟨hS1, hS2, hS3⟩ := hSw
                      go_simp
                      try (with_reducible rfl)
                    try simp only [Act.put, List.setIfInBounds_toArray, List.set_cons_zero, List.set_cons_succ]
                    refine takeD (i := 15) (some 86) (v := ?_) rfl rfl (by kernel_rfl) (by kernel_rfl) (by kernel_rfl) (fun _ _ _ h => h) (by kernel_rfl) ?_ (by assumption) ?_
                    rotate_left
                    · intro wx hSw
                      obtain ⟨hS1, hS2, hS3⟩ := hSw
                      go_simp
                      try (with_reducible rfl)
                    try simp only [Act.put, List.setIfInBounds_toArray, List.set_cons_zero, List.set_cons_succ]
                    refine takeD (i := 16) (some 87) (v := ?_) rfl rfl (by kernel_rfl) (by kernel_rfl) (by kernel_rfl) (fun _ _ _ h => h) (by kernel_rfl) ?_ (by assumption) ?_
                    rotate_left
                    · intro wx hSw
                      obtain ⟨hS1, hS2, hS3⟩ := hSw
                      go_simp
                      try (with_reducible rfl)
                    try simp only [Act.put, List.setIfInBounds_toArray, List.set_cons_zero, List.set_cons_succ]
                    refine takeD (i := 17) (some 88) (v := ?_) rfl rfl (by kernel_rfl) (by kernel_rfl) (by kernel_rfl) (fun _ _ _ h => h) (by kernel_rfl) ?_ (by assumption) ?_
                    rotate_left
                    · intro wx hSw
                      obtain ⟨hS1, hS2, hS3⟩ := hSw
                      go_simp
                      try (with_reducible rfl)
                    try simp only [Act.put, List.setIfInBounds_toArray, List.set_cons_zero, List.set_cons_succ]
                    refine takeD (i := 18) (some 89) (v := ?_) rfl rfl (by kernel_rfl) (by kernel_rfl) (by kernel_rfl) (fun _ _ _ h => h) (by kernel_rfl) ?_ (by assumption) ?_
                    rotate_left
                    · intro wx hSw
                      obtain ⟨hS1, hS2, hS3⟩ := hSw
                      go_simp
                      try (with_reducible rfl)
                    try simp only [Act.put, List.setIfInBounds_toArray, List.set_cons_zero, List.set_cons_succ]
                    refine takeD (i := 19) (some 90) (v := ?_) rfl rfl (by kernel_rfl) (by kernel_rfl) (by kernel_rfl) (fun _ _ _ h => h) (by kernel_rfl) ?_ (by assumption) ?_
                    rotate_left
                    · intro wx hSw
                      obtain ⟨hS1, hS2, hS3⟩ := hSw
                      go_simp
                      try (with_reducible rfl)
                    try simp only [Act.put, List.setIfInBounds_toArray, List.set_cons_zero, List.set_cons_succ]
                    refine takeD (i := 20) (some 91) (v := ?_) rfl rfl (by kernel_rfl) (by kernel_rfl) (by kernel_rfl) (fun _ _ _ h => h) (by kernel_rfl) ?_ (by assumption) ?_
                    rotate_left
                    · intro wx hSw
                      obtain ⟨hS1, hS2, hS3⟩ := hSw
                      go_simp
                      try (with_reducible rfl)
                    try simp only [Act.put, List.setIfInBounds_toArray, List.set_cons_zero, List.set_cons_succ]
                    refine takeD (i := 21) (some 92) (v := ?_) rfl rfl (by kernel_rfl) (by kernel_rfl) (by kernel_rfl) (fun _ _ _ h => h) (by kernel_rfl) ?_ (by assumption) ?_
                    rotate_left
                    · intro wx hSw
                      obtain ⟨hS1, hS2, hS3⟩ := hSw
                      go_simp
                      try (with_reducible rfl)
                    try simp only [Act.put, List.setIfInBounds_toArray, List.set_cons_zero, List.set_cons_succ]
                    refine takeD (i := 22) (some 93) (v := ?_) rfl rfl (by kernel_rfl) (by kernel_rfl) (by kernel_rfl) (fun _ _ _ h => h) (by kernel_rfl) ?_ (by assumption) ?_
                    rotate_left
                    · intro wx hSw
                      obtain ⟨hS1, hS2, hS3⟩ := hSw
                      go_simp
                      try (with_reducible rfl)
                    try simp only [Act.put, List.setIfInBounds_toArray, List.set_cons_zero, List.set_cons_succ]
                    refine takeD (i := 23) (some 94) (v := ?_) rfl rfl (by kernel_rfl) (by kernel_rfl) (by kernel_rfl) (fun _ _ _ h => h) (by kernel_rfl) ?_ (by assumption) ?_
                    rotate_left
                    · intro wx hSw
                      obtain ⟨hS1, hS2, hS3⟩ := hSw
                      go_simp
                      try (with_reducible rfl)
                    try simp only [Act.put, List.setIfInBounds_toArray, List.set_cons_zero, List.set_cons_succ]
                    refine wpAnyH_done (by kernel_rfl) ?_ _
                    clear hHeld q1 q2 q3
                    go_wp2_with fail
                    go_roundw
                    case rel => exact ⟨k + 1, k, by omega, by go_num, rfl, HS2.out, HSm.out.drewN 1⟩
                    case measure => simp [intOf]; omega
                  · have HS2 : Hid (St2 fo m (k + 1) o) := HB.out ht
                    go_wp2_with fail
                    refine wp_region_held_drew (S := fun w' => w'.cell? ⟨gg2, k * 3, none⟩ = some (.int .i64 (fo k).m) ∧ w'.cell? ⟨gg2, k * 3 + 2, none⟩ = some (.int .i64 (fo k).t) ∧ w'.cell? ⟨gg2, o * 3 + 2, none⟩ = some (.int .i64 (fo o).t)) (by kernel_rfl) ⟨q1, q2, q3⟩ (fun hHeld => ?_)
                    refine takeD (i := 0) (some 71) (v := ?_) rfl rfl (by kernel_rfl) (by kernel_rfl) (by kernel_rfl) (fun _ _ _ h => h) (by kernel_rfl) ?_ (by assumption) ?_
                    rotate_left
                    · intro wx hSw
                      obtain ⟨hS1, hS2, hS3⟩ := hSw
                      go_simp
                      try (with_reducible rfl)
                    try simp only [Act.put, List.setIfInBounds_toArray, List.set_cons_zero, List.set_cons_succ]
                    refine takeD (i := 1) (some 72) (v := ?_) rfl rfl (by kernel_rfl) (by kernel_rfl) (by kernel_rfl) (fun _ _ _ h => h) (by kernel_rfl) ?_ (by assumption) ?_
                    rotate_left
                    · intro wx hSw
                      obtain ⟨hS1, hS2, hS3⟩ := hSw
                      go_simp
                      try (with_reducible rfl)
                    try simp only [Act.put, List.setIfInBounds_toArray, List.set_cons_zero, List.set_cons_succ]
                    refine takeD (i := 2) (some 73) (v := ?_) rfl rfl (by kernel_rfl) (by kernel_rfl) (by kernel_rfl) (fun _ _ _ h => h) (by kernel_rfl) ?_ (by assumption) ?_
                    rotate_left
                    · intro wx hSw
                      obtain ⟨hS1, hS2, hS3⟩ := hSw
                      go_simp
                      try (with_reducible rfl)
                    try simp only [Act.put, List.setIfInBounds_toArray, List.set_cons_zero, List.set_cons_succ]
                    refine takeD (i := 3) (some 74) (v := ?_) rfl rfl (by kernel_rfl) (by kernel_rfl) (by kernel_rfl) (fun _ _ _ h => h) (by kernel_rfl) ?_ (by assumption) ?_
                    rotate_left
                    · intro wx hSw
                      obtain ⟨hS1, hS2, hS3⟩ := hSw
                      go_simp
                      try (with_reducible rfl)
                    try simp only [Act.put, List.setIfInBounds_toArray, List.set_cons_zero, List.set_cons_succ]
                    refine takeD (i := 4) (some 75) (v := ?_) rfl rfl (by kernel_rfl) (by kernel_rfl) (by kernel_rfl) (fun _ _ _ h => h) (by kernel_rfl) ?_ (by assumption) ?_
                    rotate_left
                    · intro wx hSw
                      obtain ⟨hS1, hS2, hS3⟩ := hSw
                      go_simp
                      try (with_reducible rfl)
                    try simp only [Act.put, List.setIfInBounds_toArray, List.set_cons_zero, List.set_cons_succ]
                    refine takeD (i := 5) (some 76) (v := ?_) rfl rfl (by kernel_rfl) (by kernel_rfl) (by kernel_rfl) (fun _ _ _ h => h) (by kernel_rfl) ?_ (by assumption) ?_
                    rotate_left
                    · intro wx hSw
                      obtain ⟨hS1, hS2, hS3⟩ := hSw
                      go_simp
                      try (with_reducible rfl)
                    try simp only [Act.put, List.setIfInBounds_toArray, List.set_cons_zero, List.set_cons_succ]
                    refine takeD (i := 6) (some 77) (v := ?_) rfl rfl (by kernel_rfl) (by kernel_rfl) (by kernel_rfl) (fun _ _ _ h => h) (by kernel_rfl) ?_ (by assumption) ?_
                    rotate_left
                    · intro wx hSw
                      obtain ⟨hS1, hS2, hS3⟩ := hSw
                      go_simp
                      try (with_reducible rfl)
                    try simp only [Act.put, List.setIfInBounds_toArray, List.set_cons_zero, List.set_cons_succ]
                    refine takeD (i := 7) (some 78) (v := ?_) rfl rfl (by kernel_rfl) (by kernel_rfl) (by kernel_rfl) (fun _ _ _ h => h) (by kernel_rfl) ?_ (by assumption) ?_
                    rotate_left
                    · intro wx hSw
                      obtain ⟨hS1, hS2, hS3⟩ := hSw
                      go_simp
                      try (with_reducible rfl)
                    try simp only [Act.put, List.setIfInBounds_toArray, List.set_cons_zero, List.set_cons_succ]
                    refine takeD (i := 8) (some 79) (v := ?_) rfl rfl (by kernel_rfl) (by kernel_rfl) (by kernel_rfl) (fun _ _ _ h => h) (by kernel_rfl) ?_ (by assumption) ?_
                    rotate_left
                    · intro wx hSw
                      obtain ⟨hS1, hS2, hS3⟩ := hSw
                      go_simp
                      try (with_reducible rfl)
                    try simp only [Act.put, List.setIfInBounds_toArray, List.set_cons_zero, List.set_cons_succ]
                    refine takeD (i := 9) (some 80) (v := ?_) rfl rfl (by kernel_rfl) (by kernel_rfl) (by kernel_rfl) (fun _ _ _ h => h) (by kernel_rfl) ?_ (by assumption) ?_
                    rotate_left
                    · intro wx hSw
                      obtain ⟨hS1, hS2, hS3⟩ := hSw
                      go_simp
                      try (with_reducible rfl)
                    try simp only [Act.put, List.setIfInBounds_toArray, List.set_cons_zero, List.set_cons_succ]
                    refine takeD (i := 10) (some 81) (v := ?_) rfl rfl (by kernel_rfl) (by kernel_rfl) (by kernel_rfl) (fun _ _ _ h => h) (by kernel_rfl) ?_ (by assumption) ?_
                    rotate_left
                    · intro wx hSw
                      obtain ⟨hS1, hS2, hS3⟩ := hSw
                      go_simp
                      try (with_reducible rfl)
                    try simp only [Act.put, List.setIfInBounds_toArray, List.set_cons_zero, List.set_cons_succ]
                    refine takeD (i := 11) (some 82) (v := ?_) rfl rfl (by kernel_rfl) (by kernel_rfl) (by kernel_rfl) (fun _ _ _ h => h) (by kernel_rfl) ?_ (by assumption) ?_
                    rotate_left
                    · intro wx hSw
                      obtain ⟨hS1, hS2, hS3⟩ := hSw
                      go_simp
                      try (with_reducible rfl)
                    try simp only [Act.put, List.setIfInBounds_toArray, List.set_cons_zero, List.set_cons_succ]
                    refine takeD (i := 12) (some 83) (v := ?_) rfl rfl (by kernel_rfl) (by kernel_rfl) (by kernel_rfl) (fun _ _ _ h => h) (by kernel_rfl) ?_ (by assumption) ?_
                    rotate_left
                    · intro wx hSw
                      obtain ⟨hS1, hS2, hS3⟩ := hSw
                      go_simp
                      try (with_reducible rfl)
                    try simp only [Act.put, List.setIfInBounds_toArray, List.set_cons_zero, List.set_cons_succ]
                    refine takeD (i := 13) (some 84) (v := ?_) rfl rfl (by kernel_rfl) (by kernel_rfl) (by kernel_rfl) (fun _ _ _ h => h) (by kernel_rfl) ?_ (by assumption) ?_
                    rotate_left
                    · intro wx hSw
                      obtain ⟨hS1, hS2, hS3⟩ := hSw
                      go_simp
                      try (with_reducible rfl)
                    try simp only [Act.put, List.setIfInBounds_toArray, List.set_cons_zero, List.set_cons_succ]
                    refine takeD (i := 14) (some 85) (v := ?_) rfl rfl (by kernel_rfl) (by kernel_rfl) (by kernel_rfl) (fun _ _ _ h => h) (by kernel_rfl) ?_ (by assumption) ?_
                    rotate_left
                    · intro wx hSw
                      obtain ⟨hS1, hS2, hS3⟩ := hSw
                      go_simp
                      try (with_reducible rfl)
                    try simp only [Act.put, List.setIfInBounds_toArray, List.set_cons_zero, List.set_cons_succ]
                    refine takeD (i := 15) (some 86) (v := ?_) rfl rfl (by kernel_rfl) (by kernel_rfl) (by kernel_rfl) (fun _ _ _ h => h) (by kernel_rfl) ?_ (by assumption) ?_
                    rotate_left
                    · intro wx hSw
                      obtain ⟨hS1, hS2, hS3⟩ := hSw
                      go_simp
                      try (with_reducible rfl)
                    try simp only [Act.put, List.setIfInBounds_toArray, List.set_cons_zero, List.set_cons_succ]
                    refine takeD (i := 16) (some 87) (v := ?_) rfl rfl (by kernel_rfl) (by kernel_rfl) (by kernel_rfl) (fun _ _ _ h => h) (by kernel_rfl) ?_ (by assumption) ?_
                    rotate_left
                    · intro wx hSw
                      obtain ⟨hS1, hS2, hS3⟩ := hSw
                      go_simp
                      try (with_reducible rfl)
                    try simp only [Act.put, List.setIfInBounds_toArray, List.set_cons_zero, List.set_cons_succ]
                    refine takeD (i := 17) (some 88) (v := ?_) rfl rfl (by kernel_rfl) (by kernel_rfl) (by kernel_rfl) (fun _ _ _ h => h) (by kernel_rfl) ?_ (by assumption) ?_
                    rotate_left
                    · intro wx hSw
                      obtain ⟨hS1, hS2, hS3⟩ := hSw
                      go_simp
                      try (with_reducible rfl)
                    try simp only [Act.put, List.setIfInBounds_toArray, List.set_cons_zero, List.set_cons_succ]
                    refine takeD (i := 18) (some 89) (v := ?_) rfl rfl (by kernel_rfl) (by kernel_rfl) (by kernel_rfl) (fun _ _ _ h => h) (by kernel_rfl) ?_ (by assumption) ?_
                    rotate_left
                    · intro wx hSw
                      obtain ⟨hS1, hS2, hS3⟩ := hSw
                      go_simp
                      try (with_reducible rfl)
                    try simp only [Act.put, List.setIfInBounds_toArray, List.set_cons_zero, List.set_cons_succ]
                    refine takeD (i := 19) (some 90) (v := ?_) rfl rfl (by kernel_rfl) (by kernel_rfl) (by kernel_rfl) (fun _ _ _ h => h) (by kernel_rfl) ?_ (by assumption) ?_
                    rotate_left
                    · intro wx hSw
                      obtain ⟨hS1, hS2, hS3⟩ := hSw
                      go_simp
                      try (with_reducible rfl)
                    try simp only [Act.put, List.setIfInBounds_toArray, List.set_cons_zero, List.set_cons_succ]
                    refine takeD (i := 20) (some 91) (v := ?_) rfl rfl (by kernel_rfl) (by kernel_rfl) (by kernel_rfl) (fun _ _ _ h => h) (by kernel_rfl) ?_ (by assumption) ?_
                    rotate_left
                    · intro wx hSw
                      obtain ⟨hS1, hS2, hS3⟩ := hSw
                      go_simp
                      try (with_reducible rfl)
                    try simp only [Act.put, List.setIfInBounds_toArray, List.set_cons_zero, List.set_cons_succ]
                    refine takeD (i := 21) (some 92) (v := ?_) rfl rfl (by kernel_rfl) (by kernel_rfl) (by kernel_rfl) (fun _ _ _ h => h) (by kernel_rfl) ?_ (by assumption) ?_
                    rotate_left
                    · intro wx hSw
                      obtain ⟨hS1, hS2, hS3⟩ := hSw
                      go_simp
                      try (with_reducible rfl)
                    try simp only [Act.put, List.setIfInBounds_toArray, List.set_cons_zero, List.set_cons_succ]
                    refine takeD (i := 22) (some 93) (v := ?_) rfl rfl (by kernel_rfl) (by kernel_rfl) (by kernel_rfl) (fun _ _ _ h => h) (by kernel_rfl) ?_ (by assumption) ?_
                    rotate_left
                    · intro wx hSw
                      obtain ⟨hS1, hS2, hS3⟩ := hSw
                      go_simp
                      try (with_reducible rfl)
                    try simp only [Act.put, List.setIfInBounds_toArray, List.set_cons_zero, List.set_cons_succ]
                    refine takeD (i := 23) (some 94) (v := ?_) rfl rfl (by kernel_rfl) (by kernel_rfl) (by kernel_rfl) (fun _ _ _ h => h) (by kernel_rfl) ?_ (by assumption) ?_
                    rotate_left
                    · intro wx hSw
                      obtain ⟨hS1, hS2, hS3⟩ := hSw
                      go_simp
                      try (with_reducible rfl)
                    try simp only [Act.put, List.setIfInBounds_toArray, List.set_cons_zero, List.set_cons_succ]
                    refine wpAnyH_done (by kernel_rfl) ?_ _
                    clear hHeld q1 q2 q3
                    go_wp2_with fail
                    go_roundw
                    case rel => exact ⟨k + 1, o, by omega, by go_num, rfl, HS2.out, HSm.out.drewN 1⟩
                    case measure => simp [intOf]; omega
            · obtain rfl : k = N := by omega
              have he : entsL k fo = L := by
                rw [HFo.out]
                conv => lhs; rw [← HN.out]
                exact entsL_getD L
              rcases HSt.out with ⟨h1, h2⟩ | ⟨o, ho, hq, h3, h4⟩
              · rw [he] at h2
                exact absurd h2 HNe.out
              subst hq
              rw [he] at h4
              have hLast := HLong.out o (by rw [HN.out]; exact ho) (h4.trans (by rw [HFo.out]))
              have hown : OwnL wr.drew w.heap.size (.slice (some ⟨gg2, 0, none⟩) k cap2) L := OwnL.up HO2.out.own (by rw [← HWB.out]; exact (HSm.out.below _).drew)
              have hBd : Below w.heap.size w wr.drew := HO2.out.below.trans (by rw [← HWB.out]; exact (HSm.out.below _).drew)
              have hwo : IntKind.i64.wrap ((o : Int) + 1) = (o : Int) + 1 := wrapE _ (by omega) (by omega)
              have hto : ((o : Int) + 1).toNat = o + 1 := by omega
              have ho' : (o : Int) < k := by omega
              have ho1 : (o : Int) + 1 ≤ k := by omega
              have ho0 : (0 : Int) ≤ (o : Int) + 1 := by omega
              have hck : k ≤ cap2 := by
                rcases hown.2 with ⟨e, _⟩ | ⟨g', cap', cur, e, _, _, hkc, _⟩
                · cases e
                · cases e; rw [HN.out] at hkc; exact hkc
              have hck' : (k : Int) ≤ cap2 := by omega
              have hco : (o : Int) ≤ cap2 := by omega
              have hco1 : (o : Int) + 1 ≤ cap2 := by omega
              by_cases hcc : cap2 = o + 1
              · have hko : k = o + 1 := by omega
                obtain ⟨v1, W2, v2, W3, hrun1, hrun2, hOwn, hBel⟩ := cutRun (o := o) 0 hown HN.out (by omega) ho hBd.size (.inr hko) cap2 0
                rw [hLast] at hOwn
                have HBel : Hid (Below w.heap.size w W3) := hBd.trans hBel
                have hz1 : k - (o + 1) = 0 := by omega
                have hz2 : (0 : Nat) = o + 1 - (o + 1) := by omega
                have HR2a : Hid ((Builtin.append_ #[24, 24] 24 #[v1, .slice (some ⟨gg2, 0, none⟩) 0 0]).run Try.prog W2 = .ok v2 W3) := by rw [hz1] at hrun2; exact hrun2
                have HR2b : Hid ((Builtin.append_ #[24, 24] 24 #[v1, .slice (some ⟨gg2, 0, none⟩) 0 (o + 1 - (o + 1))]).run Try.prog W2 = .ok v2 W3) := by rw [← hz2]; exact HR2a.out
                have HR2c : Hid ((Builtin.append_ #[24, 24] 24 #[v1, .slice (some ⟨gg2, 0, none⟩) (k - (o + 1)) (o + 1 - (o + 1))]).run Try.prog W2 = .ok v2 W3) := by rw [← hz2]; exact hrun2
                clear hz1 hz2 hBel hown hBd h3 h4 he hLast hko
                subst hcc
                have hoo : (o : Int) ≤ (o : Int) + 1 := by omega
                go_wp2_with fail
                refine wp_region_held_drew (S := fun _ => True) (by kernel_rfl) True.intro (fun hHeld => ?_)
                refine takeD (i := 1) (some 97) (v := ?_) rfl rfl (by kernel_rfl) (by kernel_rfl) (by kernel_rfl) (fun _ _ _ h => h) (by kernel_rfl) ?_ (by assumption) ?_
                rotate_left
                · intro wx hSw
                  try dsimp only at hSw
                  go_simp
                  try (with_reducible rfl)
                try simp only [Act.put, List.setIfInBounds_toArray, List.set_cons_zero, List.set_cons_succ]
                refine takeD (i := 2) (some 98) (v := ?_) rfl rfl (by kernel_rfl) (by kernel_rfl) (by kernel_rfl) (fun _ _ _ h => h) (by kernel_rfl) ?_ (by assumption) ?_
                rotate_left
                · intro wx hSw
                  try dsimp only at hSw
                  go_simp
                  try (with_reducible rfl)
                try simp only [Act.put, List.setIfInBounds_toArray, List.set_cons_zero, List.set_cons_succ]
                refine takeD (i := 3) (some 99) (v := ?_) rfl rfl (by kernel_rfl) (by kernel_rfl) (by kernel_rfl) (fun _ _ _ h => h) (by kernel_rfl) ?_ (by assumption) ?_
                rotate_left
                · intro wx hSw
                  try dsimp only at hSw
                  go_simp
                  try (with_reducible rfl)
                try simp only [Act.put, List.setIfInBounds_toArray, List.set_cons_zero, List.set_cons_succ]
                refine takeD (i := 5) (some 101) (v := ?_) rfl rfl (by kernel_rfl) (by kernel_rfl) (by kernel_rfl) (fun _ _ _ h => h) (by kernel_rfl) ?_ (by assumption) ?_
                rotate_left
                · intro wx hSw
                  try dsimp only at hSw
                  go_simp
                  try (with_reducible rfl)
                try simp only [Act.put, List.setIfInBounds_toArray, List.set_cons_zero, List.set_cons_succ]
                refine takeD (i := 6) (some 102) (v := ?_) rfl rfl (by kernel_rfl) (by kernel_rfl) (by kernel_rfl) (fun _ _ _ h => h) (by kernel_rfl) ?_ (by assumption) ?_
                rotate_left
                · intro wx hSw
                  try dsimp only at hSw
                  go_simp
                  try (with_reducible rfl)
                try simp only [Act.put, List.setIfInBounds_toArray, List.set_cons_zero, List.set_cons_succ]
                refine takeD (i := 7) (some 103) (v := ?_) rfl rfl (by kernel_rfl) (by kernel_rfl) (by kernel_rfl) (fun _ _ _ h => h) (by kernel_rfl) ?_ (by assumption) ?_
                rotate_left
                · intro wx hSw
                  try dsimp only at hSw
                  go_simp
                  try (with_reducible rfl)
                try simp only [Act.put, List.setIfInBounds_toArray, List.set_cons_zero, List.set_cons_succ]
                refine takeD (i := 8) (some 104) (v := ?_) rfl rfl (by kernel_rfl) (by kernel_rfl) (by kernel_rfl) (fun _ _ _ h => h) (by kernel_rfl) ?_ (by assumption) ?_
                rotate_left
                · intro wx hSw
                  try dsimp only at hSw
                  go_simp
                  try (with_reducible rfl)
                try simp only [Act.put, List.setIfInBounds_toArray, List.set_cons_zero, List.set_cons_succ]
                refine wpAnyH_ready (rs := [0]) (by kernel_rfl) (by simp) ?_
                refine AllReadyH.cons rfl (fun K hK => ?_) AllReadyH.nil
                go_simp
                refine hK.out _ _ True.intro (fun hHeld => ?_)
                clear hK K
                try simp only [Act.put, List.setIfInBounds_toArray, List.set_cons_zero, List.set_cons_succ]
                refine wpAnyH_ready (rs := [4]) (by kernel_rfl) (by simp) ?_
                refine AllReadyH.cons rfl (fun K hK => ?_) AllReadyH.nil
                refine wp_appD (by kernel_rfl) (some 100) (.tmp 96) (.tmp 99) 24 _ _ _ rfl rfl rfl rfl rfl hrun1 ?_
                refine hK.out _ _ True.intro (fun hHeld => ?_)
                clear hK K
                try simp only [Act.put, List.setIfInBounds_toArray, List.set_cons_zero, List.set_cons_succ]
                refine wpAnyH_ready (rs := [9]) (by kernel_rfl) (by simp) ?_
                refine AllReadyH.cons rfl (fun K hK => ?_) AllReadyH.nil
                refine wp_appD (by kernel_rfl) (some 105) (.tmp 100) (.tmp 104) 24 _ _ _ rfl rfl rfl rfl rfl (by first | exact hrun2 | exact HR2a.out | exact HR2b.out | exact HR2c.out | (simp [go_sem]; exact hrun2)) ?_
                refine hK.out _ _ True.intro (fun hHeld => ?_)
                clear hK K
                try simp only [Act.put, List.setIfInBounds_toArray, List.set_cons_zero, List.set_cons_succ]
                refine takeD (i := 10) (some 8) (v := ?_) rfl rfl (by kernel_rfl) (by kernel_rfl) (by kernel_rfl) (fun _ _ _ h => h) (by kernel_rfl) ?_ (by assumption) ?_
                rotate_left
                · intro wx hSw
                  try dsimp only at hSw
                  go_simp
                  try (with_reducible rfl)
                try simp only [Act.put, List.setIfInBounds_toArray, List.set_cons_zero, List.set_cons_succ]
                refine wpAnyH_done (by kernel_rfl) ?_ _
                go_wp2_with fail
                go_ret
                exact ⟨_, rfl, hOwn, HBel.out⟩
              · obtain ⟨v1, W2, v2, W3, hrun1, hrun2, hOwn, hBel⟩ := cutRun (o := o) ((o + 1) * 3) hown HN.out (by omega) ho hBd.size (.inl rfl) cap2 (cap2 - (o + 1))
                rw [hLast] at hOwn
                have HBel : Hid (Below w.heap.size w W3) := hBd.trans hBel
                clear hBel hown hBd h3 h4 he hLast
                go_wp2_with fail
                refine wp_region_held_drew (S := fun _ => True) (by kernel_rfl) True.intro (fun hHeld => ?_)
                refine takeD (i := 1) (some 97) (v := ?_) rfl rfl (by kernel_rfl) (by kernel_rfl) (by kernel_rfl) (fun _ _ _ h => h) (by kernel_rfl) ?_ (by assumption) ?_
                rotate_left
                · intro wx hSw
                  try dsimp only at hSw
                  go_simp
                  try (with_reducible rfl)
                try simp only [Act.put, List.setIfInBounds_toArray, List.set_cons_zero, List.set_cons_succ]
                refine takeD (i := 2) (some 98) (v := ?_) rfl rfl (by kernel_rfl) (by kernel_rfl) (by kernel_rfl) (fun _ _ _ h => h) (by kernel_rfl) ?_ (by assumption) ?_
                rotate_left
                · intro wx hSw
                  try dsimp only at hSw
                  go_simp
                  try (with_reducible rfl)
                try simp only [Act.put, List.setIfInBounds_toArray, List.set_cons_zero, List.set_cons_succ]
                refine takeD (i := 3) (some 99) (v := ?_) rfl rfl (by kernel_rfl) (by kernel_rfl) (by kernel_rfl) (fun _ _ _ h => h) (by kernel_rfl) ?_ (by assumption) ?_
                rotate_left
                · intro wx hSw
                  try dsimp only at hSw
                  go_simp
                  try (with_reducible rfl)
                try simp only [Act.put, List.setIfInBounds_toArray, List.set_cons_zero, List.set_cons_succ]
                refine takeD (i := 5) (some 101) (v := ?_) rfl rfl (by kernel_rfl) (by kernel_rfl) (by kernel_rfl) (fun _ _ _ h => h) (by kernel_rfl) ?_ (by assumption) ?_
                rotate_left
                · intro wx hSw
                  try dsimp only at hSw
                  go_simp
                  try (with_reducible rfl)
                try simp only [Act.put, List.setIfInBounds_toArray, List.set_cons_zero, List.set_cons_succ]
                refine takeD (i := 6) (some 102) (v := ?_) rfl rfl (by kernel_rfl) (by kernel_rfl) (by kernel_rfl) (fun _ _ _ h => h) (by kernel_rfl) ?_ (by assumption) ?_
                rotate_left
                · intro wx hSw
                  try dsimp only at hSw
                  go_simp
                  try (with_reducible rfl)
                try simp only [Act.put, List.setIfInBounds_toArray, List.set_cons_zero, List.set_cons_succ]
                refine takeD (i := 7) (some 103) (v := ?_) rfl rfl (by kernel_rfl) (by kernel_rfl) (by kernel_rfl) (fun _ _ _ h => h) (by kernel_rfl) ?_ (by assumption) ?_
                rotate_left
                · intro wx hSw
                  try dsimp only at hSw
                  go_simp
                  try (with_reducible rfl)
                try simp only [Act.put, List.setIfInBounds_toArray, List.set_cons_zero, List.set_cons_succ]
                refine takeD (i := 8) (some 104) (v := ?_) rfl rfl (by kernel_rfl) (by kernel_rfl) (by kernel_rfl) (fun _ _ _ h => h) (by kernel_rfl) ?_ (by assumption) ?_
                rotate_left
                · intro wx hSw
                  try dsimp only at hSw
                  go_simp
                  try (with_reducible rfl)
                try simp only [Act.put, List.setIfInBounds_toArray, List.set_cons_zero, List.set_cons_succ]
                refine wpAnyH_ready (rs := [0]) (by kernel_rfl) (by simp) ?_
                refine AllReadyH.cons rfl (fun K hK => ?_) AllReadyH.nil
                go_simp
                refine hK.out _ _ True.intro (fun hHeld => ?_)
                clear hK K
                try simp only [Act.put, List.setIfInBounds_toArray, List.set_cons_zero, List.set_cons_succ]
                refine wpAnyH_ready (rs := [4]) (by kernel_rfl) (by simp) ?_
                refine AllReadyH.cons rfl (fun K hK => ?_) AllReadyH.nil
                refine wp_appD (by kernel_rfl) (some 100) (.tmp 96) (.tmp 99) 24 _ _ _ rfl rfl rfl rfl rfl hrun1 ?_
                refine hK.out _ _ True.intro (fun hHeld => ?_)
                clear hK K
                try simp only [Act.put, List.setIfInBounds_toArray, List.set_cons_zero, List.set_cons_succ]
                refine wpAnyH_ready (rs := [9]) (by kernel_rfl) (by simp) ?_
                refine AllReadyH.cons rfl (fun K hK => ?_) AllReadyH.nil
                refine wp_appD (by kernel_rfl) (some 105) (.tmp 100) (.tmp 104) 24 _ _ _ rfl rfl rfl rfl rfl (by first | exact hrun2 | exact HR2a.out | exact HR2b.out | exact HR2c.out | (simp [go_sem]; exact hrun2)) ?_
                refine hK.out _ _ True.intro (fun hHeld => ?_)
                clear hK K
                try simp only [Act.put, List.setIfInBounds_toArray, List.set_cons_zero, List.set_cons_succ]
                refine takeD (i := 10) (some 8) (v := ?_) rfl rfl (by kernel_rfl) (by kernel_rfl) (by kernel_rfl) (fun _ _ _ h => h) (by kernel_rfl) ?_ (by assumption) ?_
                rotate_left
                · intro wx hSw
                  try dsimp only at hSw
                  go_simp
                  try (with_reducible rfl)
                try simp only [Act.put, List.setIfInBounds_toArray, List.set_cons_zero, List.set_cons_succ]
                refine wpAnyH_done (by kernel_rfl) ?_ _
                go_wp2_with fail
                go_ret
                exact ⟨_, rfl, hOwn, HBel.out⟩


set_option maxHeartbeats 1000000 in
theorem sLearned_any (a : Option Addr) (n cap : Nat) (f : Nat → Ent) (m p t : Int) (A : List Ent) (b : Bool) (w : World) (hn : n ≤ maxLen) (h : RdEnt w a n f) (hA : LearnR n f ⟨m, p, t⟩ A b) :
    Calls Try.prog 8 #[.slice a n cap, .int .i64 m, .int .i64 p, .int .i64 t] w fun e w' => ∃ v, e = .returned (.tuple #[v, .bool b]) ∧ OwnL w' w.heap.size v A ∧ Below w.heap.size w w' := by
  have HR : Hid (RdEnt w a n f) := h
  have HP : Hid (LearnR n f ⟨m, p, t⟩ A b) := hA
  obtain ⟨ok, hok⟩ := tab_dec n f
  have HO : Hid (ok = true ↔ tabOk n f) := hok
  clear h hA hok
  go_enter Try.func8, Try.ntmps8
  go_wp2_with fail
  refine (sTableOk_any a n cap f _ hn HR.out ok HO.out).mono ?_
  rintro e w1 ⟨rfl, B1⟩
  cases ok
  · have HF : Hid (A = [] ∧ b = false) := HP.out.bad (fun hh => absurd (HO.out.2 hh.1) (by simp))
    go_wp2_with fail
    exact bodyPost_ret (v := .tuple #[.slice none 0 0, .bool false]) (by simp [results, Try.results8, go_sem]) rfl ⟨_, by rw [HF.out.2], by rw [HF.out.1]; exact OwnL.nil _ _, B1⟩
  have HT : Hid (tabOk n f) := HO.out.1 rfl
  go_wp2_with fail
  refine (l1Mac_any _ _).mono ?_
  rintro e w' ⟨rfl, rfl⟩
  by_cases hm : 1 ≤ m ∧ m ≤ 20
  rotate_left
  · have HF : Hid (A = [] ∧ b = false) := HP.out.bad (fun hh => hm hh.2.1)
    rw [decide_eq_false hm]
    clear hm
    go_wp2_with fail
    exact bodyPost_ret (v := .tuple #[.slice none 0 0, .bool false]) (by simp [results, Try.results8, go_sem]) rfl ⟨_, by rw [HF.out.2], by rw [HF.out.1]; exact OwnL.nil _ _, B1⟩
  have HM : Hid (1 ≤ m ∧ m ≤ 20) := hm
  rw [decide_eq_true hm]
  clear hm
  go_wp2_with fail
  refine (l1In_any _ _ _ _).mono ?_
  rintro e w' ⟨rfl, rfl⟩
  by_cases hp : 0 ≤ p ∧ p ≤ 3
  rotate_left
  · have HF : Hid (A = [] ∧ b = false) := HP.out.bad (fun hh => hp hh.2.2.1)
    rw [decide_eq_false hp]
    clear hp
    go_wp2_with fail
    exact bodyPost_ret (v := .tuple #[.slice none 0 0, .bool false]) (by simp [results, Try.results8, go_sem]) rfl ⟨_, by rw [HF.out.2], by rw [HF.out.1]; exact OwnL.nil _ _, B1⟩
  have HPp : Hid (0 ≤ p ∧ p ≤ 3) := hp
  rw [decide_eq_true hp]
  clear hp
  go_wp2_with fail
  refine (l1In_any _ _ _ _).mono ?_
  rintro e w' ⟨rfl, rfl⟩
  by_cases ht : 0 ≤ t ∧ t ≤ 1000000000
  rotate_left
  · have HF : Hid (A = [] ∧ b = false) := HP.out.bad (fun hh => ht hh.2.2.2)
    rw [decide_eq_false ht]
    clear ht
    go_wp2_with fail
    exact bodyPost_ret (v := .tuple #[.slice none 0 0, .bool false]) (by simp [results, Try.results8, go_sem]) rfl ⟨_, by rw [HF.out.2], by rw [HF.out.1]; exact OwnL.nil _ _, B1⟩
  have HA : Hid (A = learnedL (entsL n f) ⟨m, p, t⟩ ∧ b = true) := HP.out.good HT.out ⟨HM.out, HPp.out, ht⟩
  rw [decide_eq_true ht]
  clear ht
  go_wp2_with fail
  refine (l3Learned_any a n cap f m p t _ HT.out (HR.out.up B1)).mono ?_
  rintro e w2 ⟨v, rfl, hv, hb2⟩
  have B2 := B1.trans (hb2.mono B1.size)
  have HV : Hid (OwnL w2 w.heap.size v A) := by rw [Hid, HA.out.1]; exact hv.mono B1.size
  clear hv hb2 B1
  obtain ⟨av, cv, hvv, _⟩ := HV.out.read
  subst hvv
  go_wp2_with fail
  exact bodyPost_ret (v := .tuple #[.slice av A.length cv, .bool true]) (by simp [results, Try.results8, go_sem]) rfl ⟨_, by rw [HA.out.2], HV.out, B2⟩
end Go.Proofs.Ytfpomccgmligbaa
