/- Counts, as the reader draws them: the walk. -/
import Derived.Test.YtpldaohflojkmaaDCntA
namespace Go.Proofs.Ytpldaohflojkmaa
open Go.RowKit
set_option linter.unusedVariables false
set_option linter.unusedSimpArgs false

set_option maxRecDepth 100000 in
set_option maxHeartbeats 20000000 in
theorem counts_any (g : Nat) (cv : Value) (C : Cfg) (w : World) (h : Rd g cv w) (hp1 : 2 ≤ C.p) (hp2 : C.p ≤ 4) :
    Calls Try.prog 20 #[.pointer (some ⟨g, 0, none⟩), .agg C.cells] w fun e w' => ∃ N : Cnt, e = .returned (.agg N.cells) ∧ Few N ∧ OwnCn w' w.heap.size N ∧ Rd g cv w' ∧ Kept g w w' := by
  obtain ⟨n, hn4, hpn⟩ : ∃ n : Nat, n ≤ 4 ∧ C.p = (n : Int) := ⟨C.p.toNat, by omega, by omega⟩
  obtain ⟨okc, hokc⟩ := ok_decC C.Ok
  have HO : Hid (okc = true ↔ C.Ok) := hokc
  have HPn : Hid (C.p = (n : Int)) := hpn
  have HR0 : Hid (Rd g cv w) := h
  clear h hokc hpn
  unfold Cfg.cells
  go_enter Try.func20, Try.ntmps20
  go_wp2_with fail
  refine (sCountsNew_any C n _ (fun _ => HPn.out) okc HO.out).mono ?_
  rintro e w1 ⟨M0, rfl, hM, hb, hA⟩
  have hB : Below (w.heap.size + 2) ((w.alloc (.cells #[.int .i64 C.p, .int .i64 C.c, .int .i64 C.xo, .int .i64 C.xn, .int .i64 C.hd, .int .i64 C.lo, .int .i64 C.dl] 25)).alloc (.cells #[.slice none 0 0, .int .i64 0, .slice none 0 0] 29)) w1 := hb.mono (by simp)
  have hA2 := (Below.refl w1.heap.size w1).alloc (Nat.le_refl _) (.cells #[.slice M0.aU M0.nU M0.cU, .int .i64 M0.lo, .slice M0.aP M0.nP M0.cP] 29)
  have kN := blk_new w1 (.cells #[.slice M0.aU M0.nU M0.cU, .int .i64 M0.lo, .slice M0.aP M0.nP M0.cP] 29)
  have hC : CS w (w1.alloc (.cells #[.slice M0.aU M0.nU M0.cU, .int .i64 M0.lo, .slice M0.aP M0.nP M0.cP] 29)) g cv C w1.heap.size M0 := by
    have hl := upper2 hB
    have hg := HR0.out.lt
    refine ⟨((HR0.out.below (under2 hB))).below (hA2.mono (Nat.le_refl _)), (Kept.ofBelow (under2 hB)).trans (Kept.ofBelow hA2), (hA2.block _ (by omega)).trans (laid2 hB).1, (hA2.block _ (by omega)).trans (laid2 hB).2, kN, (hM.mono (by simp)).up hA2, (Few.newC hn4 okc).alike hA, by omega, hg⟩
  clear hM hb hA hB hA2 kN HR0
  have HgN : Hid (w.heap.size + 2 ≤ w1.heap.size) := hC.lN
  dsimp only [Cnt.cells]
  go_wp2_with fail
  generalize w1.alloc (.cells #[.slice M0.aU M0.nU M0.cU, .int .i64 M0.lo, .slice M0.aP M0.nP M0.cP] 29) = w2 at *
  generalize w1.heap.size = gN at *
  refine (below_any g cv 20 _ hC.rd (by omega) (by omega)).mono ?_
  rintro e w3 ⟨x0, hx0, rfl, hR1, hJ1⟩
  replace hC := hC.kept hR1 hJ1
  clear hR1 hJ1
  go_wp2_with fail
  go_loopw [7] (fun i wr => ∃ (k : Nat) (M : Cnt), i = .int .i64 k ∧ k ≤ 20 ∧ CS w wr g cv C gN M) (fun i _ => (intOf i).toNat)
  case atStart => exact ⟨x0, M0, rfl, by omega, hC⟩
  case round =>
    clear hC
    obtain ⟨k, M, rfl, hk, hC⟩ := hrel
    by_cases hk0 : k = 0
    · subst hk0
      go_wp2_with fail
      refine (once_any g cv 40 _ hC.rd (by omega) (by omega)).mono ?_
      rintro e W1 ⟨b40, rfl, hR1, hJ1⟩
      replace hC := hC.kept hR1 hJ1
      clear hR1 hJ1
      cases b40
      · obtain ⟨f1, f2, f3, f4⟩ := CS.out hC
        have HF1 : Hid (OwnCn (put3 W1 (w.heap.size + 1) (.slice M.aU M.nU M.cU) (.int .i64 M.lo) (.slice M.aP M.nP M.cP)) w.heap.size M) := f1
        have HF2 : Hid (Rd g cv (put3 W1 (w.heap.size + 1) (.slice M.aU M.nU M.cU) (.int .i64 M.lo) (.slice M.aP M.nP M.cP))) := f2
        have HF3 : Hid (Kept g w (put3 W1 (w.heap.size + 1) (.slice M.aU M.nU M.cU) (.int .i64 M.lo) (.slice M.aP M.nP M.cP))) := f3
        have HFw : Hid (Few M) := hC.few
        have f5 : ∀ o, (put3 W1 (w.heap.size + 1) (.slice M.aU M.nU M.cU) (.int .i64 M.lo) (.slice M.aP M.nP M.cP)).cell? ⟨w.heap.size + 1, o, none⟩ = (#[.slice M.aU M.nU M.cU, .int .i64 M.lo, .slice M.aP M.nP M.cP] : Array Value)[o]? := f4
        have cN : ∀ o, (W1).cell? ⟨gN, o, none⟩ = (#[.slice M.aU M.nU M.cU, .int .i64 M.lo, .slice M.aP M.nP M.cP] : Array Value)[o]? := (ss hC).2
        have cR := blk_cell hC.kR
        have fR := blk_free hC.kR
        clear f1 f2 f3 f4 hC
        unfold put3 at f5
        go_wp2_with fail
        refine bodyPost_ret (v := .agg #[.slice M.aU M.nU M.cU, .int .i64 M.lo, .slice M.aP M.nP M.cP]) (by simp [results, Try.results20, go_sem, f5]) rfl ?_
        exact ⟨M, rfl, HFw.out, HF1.out, HF2.out, HF3.out⟩
      by_cases hz : M.nU = 0
      · have hzz : ¬ (0 : Int) < (0 : Int) := by omega
        obtain ⟨aU, nU, cU, u, lo, aP, nP, cP, p⟩ := M
        dsimp only at hz
        subst hz
        obtain ⟨f1, f2, f3, f4⟩ := CS.out hC
        have HF1 : Hid (OwnCn (put3 W1 (w.heap.size + 1) (.slice aU 0 cU) (.int .i64 lo) (.slice aP nP cP)) w.heap.size (⟨aU, 0, cU, u, lo, aP, nP, cP, p⟩ : Cnt)) := f1
        have HF2 : Hid (Rd g cv (put3 W1 (w.heap.size + 1) (.slice aU 0 cU) (.int .i64 lo) (.slice aP nP cP))) := f2
        have HF3 : Hid (Kept g w (put3 W1 (w.heap.size + 1) (.slice aU 0 cU) (.int .i64 lo) (.slice aP nP cP))) := f3
        have HFw : Hid (Few (⟨aU, 0, cU, u, lo, aP, nP, cP, p⟩ : Cnt)) := hC.few
        have f5 : ∀ o, (put3 W1 (w.heap.size + 1) (.slice aU 0 cU) (.int .i64 lo) (.slice aP nP cP)).cell? ⟨w.heap.size + 1, o, none⟩ = (#[.slice aU 0 cU, .int .i64 lo, .slice aP nP cP] : Array Value)[o]? := f4
        have cN : ∀ o, (W1).cell? ⟨gN, o, none⟩ = (#[.slice aU 0 cU, .int .i64 lo, .slice aP nP cP] : Array Value)[o]? := (ss hC).2
        have cR := blk_cell hC.kR
        have fR := blk_free hC.kR
        clear f1 f2 f3 f4 hC
        unfold put3 at f5
        go_wp2_with fail
        refine bodyPost_ret (v := .agg #[.slice aU 0 cU, .int .i64 lo, .slice aP nP cP]) (by simp [results, Try.results20, go_sem, f5]) rfl ?_
        exact ⟨(⟨aU, 0, cU, u, lo, aP, nP, cP, p⟩ : Cnt), rfl, HFw.out, HF1.out, HF2.out, HF3.out⟩
      · have cN0 := (ss hC).2
        have hz1 : (0 : Int) < M.nU := by omega
        have hz2 : (M.nU : Int) ≤ 4 := by have := hC.few.u; omega
        obtain ⟨gU, eU, hgU, hrU⟩ : ∃ gU, M.aU = some ⟨gU, 0, none⟩ ∧ w.heap.size + 2 ≤ gU ∧ RowTo gU 2 M.nU (fun i => .int .i64 (M.u i)) M.nU W1 := by
          rcases hC.o.u with h0 | h0
          · omega
          · exact h0
        clear hgU hrU
        have s9 : ∀ o, W1.cell? ⟨gN, o, none⟩ = (#[.slice (some ⟨gU, 0, none⟩) M.nU M.cU, .int .i64 M.lo, .slice M.aP M.nP M.cP] : Array Value)[o]? := by rw [← eU]; exact (ss hC).2
        have HeU : Hid (M.aU = some ⟨gU, 0, none⟩) := eU
        clear cN0 eU
        go_wp2_with fail
        refine wp_region_held_drew (S := fun w' => ∀ o, w'.cell? ⟨gN, o, none⟩ = (#[.slice (some ⟨gU, 0, none⟩) M.nU M.cU, .int .i64 M.lo, .slice M.aP M.nP M.cP] : Array Value)[o]?) (by kernel_rfl) s9 (fun hHeld => ?_)
        refine takeD (i := 0) (some 78) (v := ?_) rfl rfl (by kernel_rfl) (by kernel_rfl) (by kernel_rfl) (fun _ _ _ h => h) (by kernel_rfl) ?_ (by assumption) ?_
        rotate_left
        · intro wx hSw
          try dsimp only at hSw
          go_simp
          try (with_reducible rfl)
        try simp only [Act.put, List.setIfInBounds_toArray, List.set_cons_zero, List.set_cons_succ]
        refine takeD (i := 1) (some 79) (v := ?_) rfl rfl (by kernel_rfl) (by kernel_rfl) (by kernel_rfl) (fun _ _ _ h => h) (by kernel_rfl) ?_ (by assumption) ?_
        rotate_left
        · intro wx hSw
          try dsimp only at hSw
          go_simp
          try (with_reducible rfl)
        try simp only [Act.put, List.setIfInBounds_toArray, List.set_cons_zero, List.set_cons_succ]
        refine takeD (i := 2) (some 80) (v := ?_) rfl rfl (by kernel_rfl) (by kernel_rfl) (by kernel_rfl) (fun _ _ _ h => h) (by kernel_rfl) ?_ (by assumption) ?_
        rotate_left
        · intro wx hSw
          try dsimp only at hSw
          go_simp
          try (with_reducible rfl)
        try simp only [Act.put, List.setIfInBounds_toArray, List.set_cons_zero, List.set_cons_succ]
        refine wpAnyH_ready (rs := [3]) (by kernel_rfl) (by simp) ?_
        refine AllReadyH.cons rfl (fun K hK => ?_) AllReadyH.nil
        go_simp
        replace hC := hC.kept hC.rd.drewC ((Kept.refl g W1).drewC)
        refine (off_any g cv 0 9 _ hC.rd (by omega) (by omega) (by omega)).mono ?_
        rintro e W2 ⟨z, rfl, hR1, hJ1⟩
        replace hC := hC.kept hR1 hJ1
        clear hR1 hJ1
        have s8 : ∀ o, W2.cell? ⟨gN, o, none⟩ = (#[.slice (some ⟨gU, 0, none⟩) M.nU M.cU, .int .i64 M.lo, .slice M.aP M.nP M.cP] : Array Value)[o]? := by rw [← HeU.out]; exact (ss hC).2
        obtain ⟨hC3, ⟨v0, hv0⟩, f0⟩ := hC.set0 HeU.out (by omega) z
        have s7 : ∀ o, (W2.setCell ⟨gU, 0, none⟩ (.int .i64 z)).cell? ⟨gN, o, none⟩ = (#[.slice (some ⟨gU, 0, none⟩) M.nU M.cU, .int .i64 M.lo, .slice M.aP M.nP M.cP] : Array Value)[o]? := by rw [← HeU.out]; exact (ss hC3).2
        have HC3 : Hid (CS w (W2.setCell ⟨gU, 0, none⟩ (.int .i64 z)) g cv C gN { M with u := fun i => if i = 0 then z else M.u i }) := hC3
        clear hC hC3
        go_wp2_with fail
        refine hK.out _ _ s8 (fun hHeld => ?_)
        clear hK K
        try simp only [Act.put, List.setIfInBounds_toArray, List.set_cons_zero, List.set_cons_succ]
        refine takeD (i := 4) (some 82) (v := ?_) rfl rfl (by kernel_rfl) (by kernel_rfl) (by kernel_rfl) (fun _ _ _ h => h) (by kernel_rfl) ?_ (by assumption) ?_
        rotate_left
        · intro wx hSw
          try dsimp only at hSw
          go_simp
          try (with_reducible rfl)
        try simp only [Act.put, List.setIfInBounds_toArray, List.set_cons_zero, List.set_cons_succ]
        refine wpAnyH_ready (rs := [5]) (by kernel_rfl) (by simp) ?_
        refine AllReadyH.cons rfl (fun K hK => ?_) AllReadyH.nil
        go_simp
        refine hK.out _ _ s7 (fun hHeld => ?_)
        clear hK K
        try simp only [Act.put, List.setIfInBounds_toArray, List.set_cons_zero, List.set_cons_succ]
        refine wpAnyH_done (by kernel_rfl) ?_ _
        clear hHeld s7 s8 s9 hv0 f0
        have hC := HC3.out
        clear HC3
        generalize W2.setCell ⟨gU, 0, none⟩ (.int .i64 z) = W3 at *
        obtain ⟨f1, f2, f3, f4⟩ := CS.out hC
        have HF1 : Hid (OwnCn (put3 W3 (w.heap.size + 1) (.slice M.aU M.nU M.cU) (.int .i64 M.lo) (.slice M.aP M.nP M.cP)) w.heap.size ({ M with u := fun i => if i = 0 then z else M.u i } : Cnt)) := f1
        have HF2 : Hid (Rd g cv (put3 W3 (w.heap.size + 1) (.slice M.aU M.nU M.cU) (.int .i64 M.lo) (.slice M.aP M.nP M.cP))) := f2
        have HF3 : Hid (Kept g w (put3 W3 (w.heap.size + 1) (.slice M.aU M.nU M.cU) (.int .i64 M.lo) (.slice M.aP M.nP M.cP))) := f3
        have HFw : Hid (Few ({ M with u := fun i => if i = 0 then z else M.u i } : Cnt)) := hC.few
        have f5 : ∀ o, (put3 W3 (w.heap.size + 1) (.slice M.aU M.nU M.cU) (.int .i64 M.lo) (.slice M.aP M.nP M.cP)).cell? ⟨w.heap.size + 1, o, none⟩ = (#[.slice M.aU M.nU M.cU, .int .i64 M.lo, .slice M.aP M.nP M.cP] : Array Value)[o]? := f4
        have cN : ∀ o, (W3).cell? ⟨gN, o, none⟩ = (#[.slice M.aU M.nU M.cU, .int .i64 M.lo, .slice M.aP M.nP M.cP] : Array Value)[o]? := (ss hC).2
        have cR := blk_cell hC.kR
        have fR := blk_free hC.kR
        clear f1 f2 f3 f4 hC
        unfold put3 at f5
        go_wp2_with fail
        refine bodyPost_ret (v := .agg #[.slice M.aU M.nU M.cU, .int .i64 M.lo, .slice M.aP M.nP M.cP]) (by simp [results, Try.results20, go_sem, f5]) rfl ?_
        exact ⟨({ M with u := fun i => if i = 0 then z else M.u i } : Cnt), rfl, HFw.out, HF1.out, HF2.out, HF3.out⟩
    obtain ⟨j, rfl⟩ : ∃ j, k = j + 1 := ⟨k - 1, by omega⟩
    have hj : (0 : Int) < ((j + 1 : Nat) : Int) := by omega
    cases okc
    · skip
      go_wp2_with fail
      refine (once_any g cv 40 _ hC.rd (by omega) (by omega)).mono ?_
      rintro e W1 ⟨b40, rfl, hR1, hJ1⟩
      replace hC := hC.kept hR1 hJ1
      clear hR1 hJ1
      cases b40
      · obtain ⟨f1, f2, f3, f4⟩ := CS.out hC
        have HF1 : Hid (OwnCn (put3 W1 (w.heap.size + 1) (.slice M.aU M.nU M.cU) (.int .i64 M.lo) (.slice M.aP M.nP M.cP)) w.heap.size M) := f1
        have HF2 : Hid (Rd g cv (put3 W1 (w.heap.size + 1) (.slice M.aU M.nU M.cU) (.int .i64 M.lo) (.slice M.aP M.nP M.cP))) := f2
        have HF3 : Hid (Kept g w (put3 W1 (w.heap.size + 1) (.slice M.aU M.nU M.cU) (.int .i64 M.lo) (.slice M.aP M.nP M.cP))) := f3
        have HFw : Hid (Few M) := hC.few
        have f5 : ∀ o, (put3 W1 (w.heap.size + 1) (.slice M.aU M.nU M.cU) (.int .i64 M.lo) (.slice M.aP M.nP M.cP)).cell? ⟨w.heap.size + 1, o, none⟩ = (#[.slice M.aU M.nU M.cU, .int .i64 M.lo, .slice M.aP M.nP M.cP] : Array Value)[o]? := f4
        have cN : ∀ o, (W1).cell? ⟨gN, o, none⟩ = (#[.slice M.aU M.nU M.cU, .int .i64 M.lo, .slice M.aP M.nP M.cP] : Array Value)[o]? := (ss hC).2
        have cR := blk_cell hC.kR
        have fR := blk_free hC.kR
        clear f1 f2 f3 f4 hC
        unfold put3 at f5
        go_wp2_with fail
        refine bodyPost_ret (v := .agg #[.slice M.aU M.nU M.cU, .int .i64 M.lo, .slice M.aP M.nP M.cP]) (by simp [results, Try.results20, go_sem, f5]) rfl ?_
        exact ⟨M, rfl, HFw.out, HF1.out, HF2.out, HF3.out⟩
      by_cases hz : M.nU = 0
      · have hzz : ¬ (0 : Int) < (0 : Int) := by omega
        obtain ⟨aU, nU, cU, u, lo, aP, nP, cP, p⟩ := M
        dsimp only at hz
        subst hz
        obtain ⟨f1, f2, f3, f4⟩ := CS.out hC
        have HF1 : Hid (OwnCn (put3 W1 (w.heap.size + 1) (.slice aU 0 cU) (.int .i64 lo) (.slice aP nP cP)) w.heap.size (⟨aU, 0, cU, u, lo, aP, nP, cP, p⟩ : Cnt)) := f1
        have HF2 : Hid (Rd g cv (put3 W1 (w.heap.size + 1) (.slice aU 0 cU) (.int .i64 lo) (.slice aP nP cP))) := f2
        have HF3 : Hid (Kept g w (put3 W1 (w.heap.size + 1) (.slice aU 0 cU) (.int .i64 lo) (.slice aP nP cP))) := f3
        have HFw : Hid (Few (⟨aU, 0, cU, u, lo, aP, nP, cP, p⟩ : Cnt)) := hC.few
        have f5 : ∀ o, (put3 W1 (w.heap.size + 1) (.slice aU 0 cU) (.int .i64 lo) (.slice aP nP cP)).cell? ⟨w.heap.size + 1, o, none⟩ = (#[.slice aU 0 cU, .int .i64 lo, .slice aP nP cP] : Array Value)[o]? := f4
        have cN : ∀ o, (W1).cell? ⟨gN, o, none⟩ = (#[.slice aU 0 cU, .int .i64 lo, .slice aP nP cP] : Array Value)[o]? := (ss hC).2
        have cR := blk_cell hC.kR
        have fR := blk_free hC.kR
        clear f1 f2 f3 f4 hC
        unfold put3 at f5
        go_wp2_with fail
        refine bodyPost_ret (v := .agg #[.slice aU 0 cU, .int .i64 lo, .slice aP nP cP]) (by simp [results, Try.results20, go_sem, f5]) rfl ?_
        exact ⟨(⟨aU, 0, cU, u, lo, aP, nP, cP, p⟩ : Cnt), rfl, HFw.out, HF1.out, HF2.out, HF3.out⟩
      · have cN0 := (ss hC).2
        have hz1 : (0 : Int) < M.nU := by omega
        have hz2 : (M.nU : Int) ≤ 4 := by have := hC.few.u; omega
        obtain ⟨gU, eU, hgU, hrU⟩ : ∃ gU, M.aU = some ⟨gU, 0, none⟩ ∧ w.heap.size + 2 ≤ gU ∧ RowTo gU 2 M.nU (fun i => .int .i64 (M.u i)) M.nU W1 := by
          rcases hC.o.u with h0 | h0
          · omega
          · exact h0
        clear hgU hrU
        have s9 : ∀ o, W1.cell? ⟨gN, o, none⟩ = (#[.slice (some ⟨gU, 0, none⟩) M.nU M.cU, .int .i64 M.lo, .slice M.aP M.nP M.cP] : Array Value)[o]? := by rw [← eU]; exact (ss hC).2
        have HeU : Hid (M.aU = some ⟨gU, 0, none⟩) := eU
        clear cN0 eU
        go_wp2_with fail
        refine wp_region_held_drew (S := fun w' => ∀ o, w'.cell? ⟨gN, o, none⟩ = (#[.slice (some ⟨gU, 0, none⟩) M.nU M.cU, .int .i64 M.lo, .slice M.aP M.nP M.cP] : Array Value)[o]?) (by kernel_rfl) s9 (fun hHeld => ?_)
        refine takeD (i := 0) (some 78) (v := ?_) rfl rfl (by kernel_rfl) (by kernel_rfl) (by kernel_rfl) (fun _ _ _ h => h) (by kernel_rfl) ?_ (by assumption) ?_
        rotate_left
        · intro wx hSw
          try dsimp only at hSw
          go_simp
          try (with_reducible rfl)
        try simp only [Act.put, List.setIfInBounds_toArray, List.set_cons_zero, List.set_cons_succ]
        refine takeD (i := 1) (some 79) (v := ?_) rfl rfl (by kernel_rfl) (by kernel_rfl) (by kernel_rfl) (fun _ _ _ h => h) (by kernel_rfl) ?_ (by assumption) ?_
        rotate_left
        · intro wx hSw
          try dsimp only at hSw
          go_simp
          try (with_reducible rfl)
        try simp only [Act.put, List.setIfInBounds_toArray, List.set_cons_zero, List.set_cons_succ]
        refine takeD (i := 2) (some 80) (v := ?_) rfl rfl (by kernel_rfl) (by kernel_rfl) (by kernel_rfl) (fun _ _ _ h => h) (by kernel_rfl) ?_ (by assumption) ?_
        rotate_left
        · intro wx hSw
          try dsimp only at hSw
          go_simp
          try (with_reducible rfl)
        try simp only [Act.put, List.setIfInBounds_toArray, List.set_cons_zero, List.set_cons_succ]
        refine wpAnyH_ready (rs := [3]) (by kernel_rfl) (by simp) ?_
        refine AllReadyH.cons rfl (fun K hK => ?_) AllReadyH.nil
        go_simp
        replace hC := hC.kept hC.rd.drewC ((Kept.refl g W1).drewC)
        refine (off_any g cv 0 9 _ hC.rd (by omega) (by omega) (by omega)).mono ?_
        rintro e W2 ⟨z, rfl, hR1, hJ1⟩
        replace hC := hC.kept hR1 hJ1
        clear hR1 hJ1
        have s8 : ∀ o, W2.cell? ⟨gN, o, none⟩ = (#[.slice (some ⟨gU, 0, none⟩) M.nU M.cU, .int .i64 M.lo, .slice M.aP M.nP M.cP] : Array Value)[o]? := by rw [← HeU.out]; exact (ss hC).2
        obtain ⟨hC3, ⟨v0, hv0⟩, f0⟩ := hC.set0 HeU.out (by omega) z
        have s7 : ∀ o, (W2.setCell ⟨gU, 0, none⟩ (.int .i64 z)).cell? ⟨gN, o, none⟩ = (#[.slice (some ⟨gU, 0, none⟩) M.nU M.cU, .int .i64 M.lo, .slice M.aP M.nP M.cP] : Array Value)[o]? := by rw [← HeU.out]; exact (ss hC3).2
        have HC3 : Hid (CS w (W2.setCell ⟨gU, 0, none⟩ (.int .i64 z)) g cv C gN { M with u := fun i => if i = 0 then z else M.u i }) := hC3
        clear hC hC3
        go_wp2_with fail
        refine hK.out _ _ s8 (fun hHeld => ?_)
        clear hK K
        try simp only [Act.put, List.setIfInBounds_toArray, List.set_cons_zero, List.set_cons_succ]
        refine takeD (i := 4) (some 82) (v := ?_) rfl rfl (by kernel_rfl) (by kernel_rfl) (by kernel_rfl) (fun _ _ _ h => h) (by kernel_rfl) ?_ (by assumption) ?_
        rotate_left
        · intro wx hSw
          try dsimp only at hSw
          go_simp
          try (with_reducible rfl)
        try simp only [Act.put, List.setIfInBounds_toArray, List.set_cons_zero, List.set_cons_succ]
        refine wpAnyH_ready (rs := [5]) (by kernel_rfl) (by simp) ?_
        refine AllReadyH.cons rfl (fun K hK => ?_) AllReadyH.nil
        go_simp
        refine hK.out _ _ s7 (fun hHeld => ?_)
        clear hK K
        try simp only [Act.put, List.setIfInBounds_toArray, List.set_cons_zero, List.set_cons_succ]
        refine wpAnyH_done (by kernel_rfl) ?_ _
        clear hHeld s7 s8 s9 hv0 f0
        have hC := HC3.out
        clear HC3
        generalize W2.setCell ⟨gU, 0, none⟩ (.int .i64 z) = W3 at *
        obtain ⟨f1, f2, f3, f4⟩ := CS.out hC
        have HF1 : Hid (OwnCn (put3 W3 (w.heap.size + 1) (.slice M.aU M.nU M.cU) (.int .i64 M.lo) (.slice M.aP M.nP M.cP)) w.heap.size ({ M with u := fun i => if i = 0 then z else M.u i } : Cnt)) := f1
        have HF2 : Hid (Rd g cv (put3 W3 (w.heap.size + 1) (.slice M.aU M.nU M.cU) (.int .i64 M.lo) (.slice M.aP M.nP M.cP))) := f2
        have HF3 : Hid (Kept g w (put3 W3 (w.heap.size + 1) (.slice M.aU M.nU M.cU) (.int .i64 M.lo) (.slice M.aP M.nP M.cP))) := f3
        have HFw : Hid (Few ({ M with u := fun i => if i = 0 then z else M.u i } : Cnt)) := hC.few
        have f5 : ∀ o, (put3 W3 (w.heap.size + 1) (.slice M.aU M.nU M.cU) (.int .i64 M.lo) (.slice M.aP M.nP M.cP)).cell? ⟨w.heap.size + 1, o, none⟩ = (#[.slice M.aU M.nU M.cU, .int .i64 M.lo, .slice M.aP M.nP M.cP] : Array Value)[o]? := f4
        have cN : ∀ o, (W3).cell? ⟨gN, o, none⟩ = (#[.slice M.aU M.nU M.cU, .int .i64 M.lo, .slice M.aP M.nP M.cP] : Array Value)[o]? := (ss hC).2
        have cR := blk_cell hC.kR
        have fR := blk_free hC.kR
        clear f1 f2 f3 f4 hC
        unfold put3 at f5
        go_wp2_with fail
        refine bodyPost_ret (v := .agg #[.slice M.aU M.nU M.cU, .int .i64 M.lo, .slice M.aP M.nP M.cP]) (by simp [results, Try.results20, go_sem, f5]) rfl ?_
        exact ⟨({ M with u := fun i => if i = 0 then z else M.u i } : Cnt), rfl, HFw.out, HF1.out, HF2.out, HF3.out⟩
    have HC0 : Hid (CS w wr g cv C gN M) := hC
    clear hC
    go_wp2_with fail
    go_cut [8, 9] (fun s8 s9 wc => ∃ gT R ok, s8 = .pointer (some ⟨gT, 0, none⟩) ∧ s9 = .bool ok ∧ CS w wc g cv C gN M ∧ Tmp w wc gN gT R)
    case first =>
      have hC := HC0.out
      replace hC := hC.kept hC.rd.drewC ((Kept.refl g wr).drewC)
      have s := ss hC
      refine wp_region_held_drew (S := fun w' => (∀ o, w'.cell? ⟨w.heap.size, o, none⟩ = (#[.int .i64 C.p, .int .i64 C.c, .int .i64 C.xo, .int .i64 C.xn, .int .i64 C.hd, .int .i64 C.lo, .int .i64 C.dl] : Array Value)[o]?) ∧ (∀ o, w'.cell? ⟨gN, o, none⟩ = (#[.slice M.aU M.nU M.cU, .int .i64 M.lo, .slice M.aP M.nP M.cP] : Array Value)[o]?)) (by kernel_rfl) s (fun hHeld => ?_)
      clear s
      generalize wr.drew = W at *
      refine takeD (i := 0) (some 25) (v := ?_) rfl rfl (by kernel_rfl) (by kernel_rfl) (by kernel_rfl) (fun _ _ _ h => h) (by kernel_rfl) ?_ (by assumption) ?_
      rotate_left
      · intro wx hSw
        obtain ⟨hS1, hS2⟩ := hSw
        go_simp
        try (with_reducible rfl)
      try simp only [Act.put, List.setIfInBounds_toArray, List.set_cons_zero, List.set_cons_succ]
      refine takeD (i := 1) (some 26) (v := ?_) rfl rfl (by kernel_rfl) (by kernel_rfl) (by kernel_rfl) (fun _ _ _ h => h) (by kernel_rfl) ?_ (by assumption) ?_
      rotate_left
      · intro wx hSw
        obtain ⟨hS1, hS2⟩ := hSw
        go_simp
        try (with_reducible rfl)
      try simp only [Act.put, List.setIfInBounds_toArray, List.set_cons_zero, List.set_cons_succ]
      refine takeD (i := 2) (some 27) (v := ?_) rfl rfl (by kernel_rfl) (by kernel_rfl) (by kernel_rfl) (fun _ _ _ h => h) (by kernel_rfl) ?_ (by assumption) ?_
      rotate_left
      · intro wx hSw
        obtain ⟨hS1, hS2⟩ := hSw
        go_simp
        try (with_reducible rfl)
      try simp only [Act.put, List.setIfInBounds_toArray, List.set_cons_zero, List.set_cons_succ]
      refine takeD (i := 3) (some 28) (v := ?_) rfl rfl (by kernel_rfl) (by kernel_rfl) (by kernel_rfl) (fun _ _ _ h => h) (by kernel_rfl) ?_ (by assumption) ?_
      rotate_left
      · intro wx hSw
        obtain ⟨hS1, hS2⟩ := hSw
        go_simp
        try (with_reducible rfl)
      try simp only [Act.put, List.setIfInBounds_toArray, List.set_cons_zero, List.set_cons_succ]
      refine takeD (i := 4) (some 29) (v := ?_) rfl rfl (by kernel_rfl) (by kernel_rfl) (by kernel_rfl) (fun _ _ _ h => h) (by kernel_rfl) ?_ (by assumption) ?_
      rotate_left
      · intro wx hSw
        obtain ⟨hS1, hS2⟩ := hSw
        go_simp
        try (with_reducible rfl)
      try simp only [Act.put, List.setIfInBounds_toArray, List.set_cons_zero, List.set_cons_succ]
      refine takeD (i := 6) (some 31) (v := ?_) rfl rfl (by kernel_rfl) (by kernel_rfl) (by kernel_rfl) (fun _ _ _ h => h) (by kernel_rfl) ?_ (by assumption) ?_
      rotate_left
      · intro wx hSw
        obtain ⟨hS1, hS2⟩ := hSw
        go_simp
        try (with_reducible rfl)
      try simp only [Act.put, List.setIfInBounds_toArray, List.set_cons_zero, List.set_cons_succ]
      refine takeD (i := 8) (some 33) (v := ?_) rfl rfl (by kernel_rfl) (by kernel_rfl) (by kernel_rfl) (fun _ _ _ h => h) (by kernel_rfl) ?_ (by assumption) ?_
      rotate_left
      · intro wx hSw
        obtain ⟨hS1, hS2⟩ := hSw
        go_simp
        try (with_reducible rfl)
      try simp only [Act.put, List.setIfInBounds_toArray, List.set_cons_zero, List.set_cons_succ]
      refine wpAnyH_ready (rs := [5, 15]) (by kernel_rfl) (by simp) ?_
      refine AllReadyH.cons rfl (fun K hK => ?_) (AllReadyH.cons rfl (fun K hK => ?_) AllReadyH.nil)
      · go_simp
        refine (below_any g cv C.p _ hC.rd (by omega) (by omega)).mono ?_
        rintro e W' ⟨x1, hx1, rfl, hR1, hJ1⟩
        replace hC := hC.kept hR1 hJ1
        have s := ss hC
        clear hR1 hJ1
        go_wp2_with fail
        clear hHeld
        refine hK.out _ _ s (fun hHeld => ?_)
        clear hK K s
        try simp only [Act.put, List.setIfInBounds_toArray, List.set_cons_zero, List.set_cons_succ]
        clear W
        rename World => W
        refine wpAnyH_ready (rs := [7, 15]) (by kernel_rfl) (by simp) ?_
        refine AllReadyH.cons rfl (fun K hK => ?_) (AllReadyH.cons rfl (fun K hK => ?_) AllReadyH.nil)
        · go_simp
          refine (below_any g cv 3 _ hC.rd (by omega) (by omega)).mono ?_
          rintro e W' ⟨x2, hx2, rfl, hR1, hJ1⟩
          replace hC := hC.kept hR1 hJ1
          have s := ss hC
          clear hR1 hJ1
          go_wp2_with fail
          clear hHeld
          refine hK.out _ _ s (fun hHeld => ?_)
          clear hK K s
          try simp only [Act.put, List.setIfInBounds_toArray, List.set_cons_zero, List.set_cons_succ]
          clear W
          rename World => W
          refine wpAnyH_ready (rs := [9, 15]) (by kernel_rfl) (by simp) ?_
          refine AllReadyH.cons rfl (fun K hK => ?_) (AllReadyH.cons rfl (fun K hK => ?_) AllReadyH.nil)
          · go_simp
            refine (below_any g cv 5 _ hC.rd (by omega) (by omega)).mono ?_
            rintro e W' ⟨x3, hx3, rfl, hR1, hJ1⟩
            have e_x3 : IntKind.i64.wrap (1 + (x3 : Int)) = 1 + (x3 : Int) := wrapC _ (by omega) (by omega)
            replace hC := hC.kept hR1 hJ1
            have s := ss hC
            clear hR1 hJ1
            go_wp2_with fail
            clear hHeld
            refine hK.out _ _ s (fun hHeld => ?_)
            clear hK K s
            try simp only [Act.put, List.setIfInBounds_toArray, List.set_cons_zero, List.set_cons_succ]
            clear W
            rename World => W
            refine takeD (i := 10) (some 35) (v := ?_) rfl rfl (by kernel_rfl) (by kernel_rfl) (by kernel_rfl) (fun _ _ _ h => h) (by kernel_rfl) ?_ (by assumption) ?_
            rotate_left
            · intro wx hSw
              obtain ⟨hS1, hS2⟩ := hSw
              go_simp
              try (with_reducible rfl)
            try simp only [Act.put, List.setIfInBounds_toArray, List.set_cons_zero, List.set_cons_succ]
            refine wpAnyH_ready (rs := [11, 15]) (by kernel_rfl) (by simp) ?_
            refine AllReadyH.cons rfl (fun K hK => ?_) (AllReadyH.cons rfl (fun K hK => ?_) AllReadyH.nil)
            · go_simp
              obtain ⟨ok, hok⟩ := ok_decC (formP C M x1 x2 (1 + (x3 : Int)) ∧ Cnt.Ok C (addN M x1 x2 (1 + (x3 : Int))))
              refine (sAdmitted_any C M x1 x2 (1 + (x3 : Int)) _ hC.few.small.fit hC.o.rd ok hok).mono ?_
              rintro e W' ⟨R, rfl, hR, hb, hAR⟩
              have HFR : Hid (Few R) := ((hC.few.addN _ _ _).orZero ok).alike hAR
              replace hR := hR.mono (base' := w.heap.size + 2) (by have := blk_lt hC.kR; omega)
              replace hC := hC.below hb
              have s := ss hC
              clear hb hAR hok
              dsimp only [Cnt.cells]
              go_wp2_with fail
              clear hHeld
              refine hK.out _ _ s (fun hHeld => ?_)
              clear hK K s
              try simp only [Act.put, List.setIfInBounds_toArray, List.set_cons_zero, List.set_cons_succ]
              clear W
              rename World => W
              refine takeD (i := 12) (some 24) (v := ?_) rfl rfl (by kernel_rfl) (by kernel_rfl) (by kernel_rfl) (fun _ _ _ h => h) (by kernel_rfl) ?_ (by assumption) ?_
              rotate_left
              · intro wx hSw
                obtain ⟨hS1, hS2⟩ := hSw
                go_simp
                try (with_reducible rfl)
              try simp only [Act.put, List.setIfInBounds_toArray, List.set_cons_zero, List.set_cons_succ]
              refine takeD (i := 13) (some 37) (v := ?_) rfl rfl (by kernel_rfl) (by kernel_rfl) (by kernel_rfl) (fun _ _ _ h => h) (by kernel_rfl) ?_ (by assumption) ?_
              rotate_left
              · intro wx hSw
                obtain ⟨hS1, hS2⟩ := hSw
                go_simp
                try (with_reducible rfl)
              try simp only [Act.put, List.setIfInBounds_toArray, List.set_cons_zero, List.set_cons_succ]
              refine takeD (i := 14) (some 38) (v := ?_) rfl rfl (by kernel_rfl) (by kernel_rfl) (by kernel_rfl) (fun _ _ _ h => h) (by kernel_rfl) ?_ (by assumption) ?_
              rotate_left
              · intro wx hSw
                obtain ⟨hS1, hS2⟩ := hSw
                go_simp
                try (with_reducible rfl)
              try simp only [Act.put, List.setIfInBounds_toArray, List.set_cons_zero, List.set_cons_succ]
              refine wpAnyH_ready (rs := [15]) (by kernel_rfl) (by simp) ?_
              refine AllReadyH.cons rfl (fun K hK => ?_) AllReadyH.nil
              have hb := (Below.refl W.heap.size W).alloc (Nat.le_refl _) (.cells #[.slice none 0 0, .int .i64 0, .slice none 0 0] 29)
              have kA := blk_new W (.cells #[.slice none 0 0, .int .i64 0, .slice none 0 0] 29)
              have lA : w.heap.size + 2 ≤ W.heap.size ∧ W.heap.size ≠ gN := ⟨by have := blk_lt hC.kR; omega, by have := blk_lt hC.kN; omega⟩
              replace hC := hC.below hb
              replace hR := hR.up hb
              have s := ss hC
              go_simp
              clear hHeld
              refine hK.out _ _ s (fun hHeld => ?_)
              clear hK K s
              try simp only [Act.put, List.setIfInBounds_toArray, List.set_cons_zero, List.set_cons_succ]
              generalize hgA : W.heap.size = gA at *
              generalize W.alloc (.cells #[.slice none 0 0, .int .i64 0, .slice none 0 0] 29) = W' at *
              clear hb hgA
              clear W
              rename World => W
              have cz := blk_cell kA
              have fz := blk_free kA
              have HC2 : Hid (CS w (put3 W gA (.slice R.aU R.nU R.cU) (.int .i64 R.lo) (.slice R.aP R.nP R.cP)) g cv C gN M) := hC.touch (put3_touch W gA (.slice R.aU R.nU R.cU) (.int .i64 R.lo) (.slice R.aP R.nP R.cP)) lA.1 lA.2 (touch3 hC.o kA)
              have HT2 : Hid (Tmp w (put3 W gA (.slice R.aU R.nU R.cU) (.int .i64 R.lo) (.slice R.aP R.nP R.cP)) gN gA R) := ⟨put3_blk kA _ _ _, touch3 hR kA, HFR.out, lA.1, lA.2⟩
              have s := ss HC2.out
              clear hC kA lA hR HFR
              unfold put3 at s
              refine wpAnyH_ready (rs := [16]) (by kernel_rfl) (by simp) ?_
              refine AllReadyH.cons rfl (fun K hK => ?_) AllReadyH.nil
              go_simp
              clear hHeld
              refine hK.out _ _ s (fun hHeld => ?_)
              clear hK K
              try simp only [Act.put, List.setIfInBounds_toArray, List.set_cons_zero, List.set_cons_succ]
              refine wpAnyH_ready (rs := [17]) (by kernel_rfl) (by simp) ?_
              refine AllReadyH.cons rfl (fun K hK => ?_) AllReadyH.nil
              go_simp
              clear hHeld
              refine hK.out _ _ s (fun hHeld => ?_)
              clear hK K
              try simp only [Act.put, List.setIfInBounds_toArray, List.set_cons_zero, List.set_cons_succ]
              refine wpAnyH_done (by kernel_rfl) ?_ _
              clear s hHeld cz fz
              go_wp2_with fail
              go_meet
              case rel => exact ⟨gA, R, ok, rfl, rfl, HC2.out, HT2.out⟩
            · have hb := (Below.refl W.heap.size W).alloc (Nat.le_refl _) (.cells #[.slice none 0 0, .int .i64 0, .slice none 0 0] 29)
              have kA := blk_new W (.cells #[.slice none 0 0, .int .i64 0, .slice none 0 0] 29)
              have lA : w.heap.size + 2 ≤ W.heap.size ∧ W.heap.size ≠ gN := ⟨by have := blk_lt hC.kR; omega, by have := blk_lt hC.kN; omega⟩
              replace hC := hC.below hb
              have s := ss hC
              go_simp
              clear hHeld
              refine hK.out _ _ s (fun hHeld => ?_)
              clear hK K s
              try simp only [Act.put, List.setIfInBounds_toArray, List.set_cons_zero, List.set_cons_succ]
              generalize hgA : W.heap.size = gA at *
              generalize W.alloc (.cells #[.slice none 0 0, .int .i64 0, .slice none 0 0] 29) = W' at *
              clear hb hgA
              clear W
              rename World => W
              refine wpAnyH_ready (rs := [11]) (by kernel_rfl) (by simp) ?_
              refine AllReadyH.cons rfl (fun K hK => ?_) AllReadyH.nil
              go_simp
              obtain ⟨ok, hok⟩ := ok_decC (formP C M x1 x2 (1 + (x3 : Int)) ∧ Cnt.Ok C (addN M x1 x2 (1 + (x3 : Int))))
              refine (sAdmitted_any C M x1 x2 (1 + (x3 : Int)) _ hC.few.small.fit hC.o.rd ok hok).mono ?_
              rintro e W' ⟨R, rfl, hR, hb, hAR⟩
              have HFR : Hid (Few R) := ((hC.few.addN _ _ _).orZero ok).alike hAR
              replace hR := hR.mono (base' := w.heap.size + 2) (by have := blk_lt hC.kR; omega)
              replace kA := (hb.block _ (blk_lt kA)).trans kA
              replace hC := hC.below hb
              have s := ss hC
              clear hb hAR hok
              dsimp only [Cnt.cells]
              go_wp2_with fail
              clear hHeld
              refine hK.out _ _ s (fun hHeld => ?_)
              clear hK K s
              try simp only [Act.put, List.setIfInBounds_toArray, List.set_cons_zero, List.set_cons_succ]
              clear W
              rename World => W
              refine takeD (i := 12) (some 24) (v := ?_) rfl rfl (by kernel_rfl) (by kernel_rfl) (by kernel_rfl) (fun _ _ _ h => h) (by kernel_rfl) ?_ (by assumption) ?_
              rotate_left
              · intro wx hSw
                obtain ⟨hS1, hS2⟩ := hSw
                go_simp
                try (with_reducible rfl)
              try simp only [Act.put, List.setIfInBounds_toArray, List.set_cons_zero, List.set_cons_succ]
              refine takeD (i := 13) (some 37) (v := ?_) rfl rfl (by kernel_rfl) (by kernel_rfl) (by kernel_rfl) (fun _ _ _ h => h) (by kernel_rfl) ?_ (by assumption) ?_
              rotate_left
              · intro wx hSw
                obtain ⟨hS1, hS2⟩ := hSw
                go_simp
                try (with_reducible rfl)
              try simp only [Act.put, List.setIfInBounds_toArray, List.set_cons_zero, List.set_cons_succ]
              refine takeD (i := 14) (some 38) (v := ?_) rfl rfl (by kernel_rfl) (by kernel_rfl) (by kernel_rfl) (fun _ _ _ h => h) (by kernel_rfl) ?_ (by assumption) ?_
              rotate_left
              · intro wx hSw
                obtain ⟨hS1, hS2⟩ := hSw
                go_simp
                try (with_reducible rfl)
              try simp only [Act.put, List.setIfInBounds_toArray, List.set_cons_zero, List.set_cons_succ]
              have cz := blk_cell kA
              have fz := blk_free kA
              have HC2 : Hid (CS w (put3 W gA (.slice R.aU R.nU R.cU) (.int .i64 R.lo) (.slice R.aP R.nP R.cP)) g cv C gN M) := hC.touch (put3_touch W gA (.slice R.aU R.nU R.cU) (.int .i64 R.lo) (.slice R.aP R.nP R.cP)) lA.1 lA.2 (touch3 hC.o kA)
              have HT2 : Hid (Tmp w (put3 W gA (.slice R.aU R.nU R.cU) (.int .i64 R.lo) (.slice R.aP R.nP R.cP)) gN gA R) := ⟨put3_blk kA _ _ _, touch3 hR kA, HFR.out, lA.1, lA.2⟩
              have s := ss HC2.out
              clear hC kA lA hR HFR
              unfold put3 at s
              refine wpAnyH_ready (rs := [16]) (by kernel_rfl) (by simp) ?_
              refine AllReadyH.cons rfl (fun K hK => ?_) AllReadyH.nil
              go_simp
              clear hHeld
              refine hK.out _ _ s (fun hHeld => ?_)
              clear hK K
              try simp only [Act.put, List.setIfInBounds_toArray, List.set_cons_zero, List.set_cons_succ]
              refine wpAnyH_ready (rs := [17]) (by kernel_rfl) (by simp) ?_
              refine AllReadyH.cons rfl (fun K hK => ?_) AllReadyH.nil
              go_simp
              clear hHeld
              refine hK.out _ _ s (fun hHeld => ?_)
              clear hK K
              try simp only [Act.put, List.setIfInBounds_toArray, List.set_cons_zero, List.set_cons_succ]
              refine wpAnyH_done (by kernel_rfl) ?_ _
              clear s hHeld cz fz
              go_wp2_with fail
              go_meet
              case rel => exact ⟨gA, R, ok, rfl, rfl, HC2.out, HT2.out⟩
          · have hb := (Below.refl W.heap.size W).alloc (Nat.le_refl _) (.cells #[.slice none 0 0, .int .i64 0, .slice none 0 0] 29)
            have kA := blk_new W (.cells #[.slice none 0 0, .int .i64 0, .slice none 0 0] 29)
            have lA : w.heap.size + 2 ≤ W.heap.size ∧ W.heap.size ≠ gN := ⟨by have := blk_lt hC.kR; omega, by have := blk_lt hC.kN; omega⟩
            replace hC := hC.below hb
            have s := ss hC
            go_simp
            clear hHeld
            refine hK.out _ _ s (fun hHeld => ?_)
            clear hK K s
            try simp only [Act.put, List.setIfInBounds_toArray, List.set_cons_zero, List.set_cons_succ]
            generalize hgA : W.heap.size = gA at *
            generalize W.alloc (.cells #[.slice none 0 0, .int .i64 0, .slice none 0 0] 29) = W' at *
            clear hb hgA
            clear W
            rename World => W
            refine wpAnyH_ready (rs := [9]) (by kernel_rfl) (by simp) ?_
            refine AllReadyH.cons rfl (fun K hK => ?_) AllReadyH.nil
            go_simp
            refine (below_any g cv 5 _ hC.rd (by omega) (by omega)).mono ?_
            rintro e W' ⟨x3, hx3, rfl, hR1, hJ1⟩
            have e_x3 : IntKind.i64.wrap (1 + (x3 : Int)) = 1 + (x3 : Int) := wrapC _ (by omega) (by omega)
            replace kA := kblk hJ1 kA (by have := hC.hg; omega)
            replace hC := hC.kept hR1 hJ1
            have s := ss hC
            clear hR1 hJ1
            go_wp2_with fail
            clear hHeld
            refine hK.out _ _ s (fun hHeld => ?_)
            clear hK K s
            try simp only [Act.put, List.setIfInBounds_toArray, List.set_cons_zero, List.set_cons_succ]
            clear W
            rename World => W
            refine takeD (i := 10) (some 35) (v := ?_) rfl rfl (by kernel_rfl) (by kernel_rfl) (by kernel_rfl) (fun _ _ _ h => h) (by kernel_rfl) ?_ (by assumption) ?_
            rotate_left
            · intro wx hSw
              obtain ⟨hS1, hS2⟩ := hSw
              go_simp
              try (with_reducible rfl)
            try simp only [Act.put, List.setIfInBounds_toArray, List.set_cons_zero, List.set_cons_succ]
            refine wpAnyH_ready (rs := [11]) (by kernel_rfl) (by simp) ?_
            refine AllReadyH.cons rfl (fun K hK => ?_) AllReadyH.nil
            go_simp
            obtain ⟨ok, hok⟩ := ok_decC (formP C M x1 x2 (1 + (x3 : Int)) ∧ Cnt.Ok C (addN M x1 x2 (1 + (x3 : Int))))
            refine (sAdmitted_any C M x1 x2 (1 + (x3 : Int)) _ hC.few.small.fit hC.o.rd ok hok).mono ?_
            rintro e W' ⟨R, rfl, hR, hb, hAR⟩
            have HFR : Hid (Few R) := ((hC.few.addN _ _ _).orZero ok).alike hAR
            replace hR := hR.mono (base' := w.heap.size + 2) (by have := blk_lt hC.kR; omega)
            replace kA := (hb.block _ (blk_lt kA)).trans kA
            replace hC := hC.below hb
            have s := ss hC
            clear hb hAR hok
            dsimp only [Cnt.cells]
            go_wp2_with fail
            clear hHeld
            refine hK.out _ _ s (fun hHeld => ?_)
            clear hK K s
            try simp only [Act.put, List.setIfInBounds_toArray, List.set_cons_zero, List.set_cons_succ]
            clear W
            rename World => W
            refine takeD (i := 12) (some 24) (v := ?_) rfl rfl (by kernel_rfl) (by kernel_rfl) (by kernel_rfl) (fun _ _ _ h => h) (by kernel_rfl) ?_ (by assumption) ?_
            rotate_left
            · intro wx hSw
              obtain ⟨hS1, hS2⟩ := hSw
              go_simp
              try (with_reducible rfl)
            try simp only [Act.put, List.setIfInBounds_toArray, List.set_cons_zero, List.set_cons_succ]
            refine takeD (i := 13) (some 37) (v := ?_) rfl rfl (by kernel_rfl) (by kernel_rfl) (by kernel_rfl) (fun _ _ _ h => h) (by kernel_rfl) ?_ (by assumption) ?_
            rotate_left
            · intro wx hSw
              obtain ⟨hS1, hS2⟩ := hSw
              go_simp
              try (with_reducible rfl)
            try simp only [Act.put, List.setIfInBounds_toArray, List.set_cons_zero, List.set_cons_succ]
            refine takeD (i := 14) (some 38) (v := ?_) rfl rfl (by kernel_rfl) (by kernel_rfl) (by kernel_rfl) (fun _ _ _ h => h) (by kernel_rfl) ?_ (by assumption) ?_
            rotate_left
            · intro wx hSw
              obtain ⟨hS1, hS2⟩ := hSw
              go_simp
              try (with_reducible rfl)
            try simp only [Act.put, List.setIfInBounds_toArray, List.set_cons_zero, List.set_cons_succ]
            have cz := blk_cell kA
            have fz := blk_free kA
            have HC2 : Hid (CS w (put3 W gA (.slice R.aU R.nU R.cU) (.int .i64 R.lo) (.slice R.aP R.nP R.cP)) g cv C gN M) := hC.touch (put3_touch W gA (.slice R.aU R.nU R.cU) (.int .i64 R.lo) (.slice R.aP R.nP R.cP)) lA.1 lA.2 (touch3 hC.o kA)
            have HT2 : Hid (Tmp w (put3 W gA (.slice R.aU R.nU R.cU) (.int .i64 R.lo) (.slice R.aP R.nP R.cP)) gN gA R) := ⟨put3_blk kA _ _ _, touch3 hR kA, HFR.out, lA.1, lA.2⟩
            have s := ss HC2.out
            clear hC kA lA hR HFR
            unfold put3 at s
            refine wpAnyH_ready (rs := [16]) (by kernel_rfl) (by simp) ?_
            refine AllReadyH.cons rfl (fun K hK => ?_) AllReadyH.nil
            go_simp
            clear hHeld
            refine hK.out _ _ s (fun hHeld => ?_)
            clear hK K
            try simp only [Act.put, List.setIfInBounds_toArray, List.set_cons_zero, List.set_cons_succ]
            refine wpAnyH_ready (rs := [17]) (by kernel_rfl) (by simp) ?_
            refine AllReadyH.cons rfl (fun K hK => ?_) AllReadyH.nil
            go_simp
            clear hHeld
            refine hK.out _ _ s (fun hHeld => ?_)
            clear hK K
            try simp only [Act.put, List.setIfInBounds_toArray, List.set_cons_zero, List.set_cons_succ]
            refine wpAnyH_done (by kernel_rfl) ?_ _
            clear s hHeld cz fz
            go_wp2_with fail
            go_meet
            case rel => exact ⟨gA, R, ok, rfl, rfl, HC2.out, HT2.out⟩
        · have hb := (Below.refl W.heap.size W).alloc (Nat.le_refl _) (.cells #[.slice none 0 0, .int .i64 0, .slice none 0 0] 29)
          have kA := blk_new W (.cells #[.slice none 0 0, .int .i64 0, .slice none 0 0] 29)
          have lA : w.heap.size + 2 ≤ W.heap.size ∧ W.heap.size ≠ gN := ⟨by have := blk_lt hC.kR; omega, by have := blk_lt hC.kN; omega⟩
          replace hC := hC.below hb
          have s := ss hC
          go_simp
          clear hHeld
          refine hK.out _ _ s (fun hHeld => ?_)
          clear hK K s
          try simp only [Act.put, List.setIfInBounds_toArray, List.set_cons_zero, List.set_cons_succ]
          generalize hgA : W.heap.size = gA at *
          generalize W.alloc (.cells #[.slice none 0 0, .int .i64 0, .slice none 0 0] 29) = W' at *
          clear hb hgA
          clear W
          rename World => W
          refine wpAnyH_ready (rs := [7]) (by kernel_rfl) (by simp) ?_
          refine AllReadyH.cons rfl (fun K hK => ?_) AllReadyH.nil
          go_simp
          refine (below_any g cv 3 _ hC.rd (by omega) (by omega)).mono ?_
          rintro e W' ⟨x2, hx2, rfl, hR1, hJ1⟩
          replace kA := kblk hJ1 kA (by have := hC.hg; omega)
          replace hC := hC.kept hR1 hJ1
          have s := ss hC
          clear hR1 hJ1
          go_wp2_with fail
          clear hHeld
          refine hK.out _ _ s (fun hHeld => ?_)
          clear hK K s
          try simp only [Act.put, List.setIfInBounds_toArray, List.set_cons_zero, List.set_cons_succ]
          clear W
          rename World => W
          refine wpAnyH_ready (rs := [9]) (by kernel_rfl) (by simp) ?_
          refine AllReadyH.cons rfl (fun K hK => ?_) AllReadyH.nil
          go_simp
          refine (below_any g cv 5 _ hC.rd (by omega) (by omega)).mono ?_
          rintro e W' ⟨x3, hx3, rfl, hR1, hJ1⟩
          have e_x3 : IntKind.i64.wrap (1 + (x3 : Int)) = 1 + (x3 : Int) := wrapC _ (by omega) (by omega)
          replace kA := kblk hJ1 kA (by have := hC.hg; omega)
          replace hC := hC.kept hR1 hJ1
          have s := ss hC
          clear hR1 hJ1
          go_wp2_with fail
          clear hHeld
          refine hK.out _ _ s (fun hHeld => ?_)
          clear hK K s
          try simp only [Act.put, List.setIfInBounds_toArray, List.set_cons_zero, List.set_cons_succ]
          clear W
          rename World => W
          refine takeD (i := 10) (some 35) (v := ?_) rfl rfl (by kernel_rfl) (by kernel_rfl) (by kernel_rfl) (fun _ _ _ h => h) (by kernel_rfl) ?_ (by assumption) ?_
          rotate_left
          · intro wx hSw
            obtain ⟨hS1, hS2⟩ := hSw
            go_simp
            try (with_reducible rfl)
          try simp only [Act.put, List.setIfInBounds_toArray, List.set_cons_zero, List.set_cons_succ]
          refine wpAnyH_ready (rs := [11]) (by kernel_rfl) (by simp) ?_
          refine AllReadyH.cons rfl (fun K hK => ?_) AllReadyH.nil
          go_simp
          obtain ⟨ok, hok⟩ := ok_decC (formP C M x1 x2 (1 + (x3 : Int)) ∧ Cnt.Ok C (addN M x1 x2 (1 + (x3 : Int))))
          refine (sAdmitted_any C M x1 x2 (1 + (x3 : Int)) _ hC.few.small.fit hC.o.rd ok hok).mono ?_
          rintro e W' ⟨R, rfl, hR, hb, hAR⟩
          have HFR : Hid (Few R) := ((hC.few.addN _ _ _).orZero ok).alike hAR
          replace hR := hR.mono (base' := w.heap.size + 2) (by have := blk_lt hC.kR; omega)
          replace kA := (hb.block _ (blk_lt kA)).trans kA
          replace hC := hC.below hb
          have s := ss hC
          clear hb hAR hok
          dsimp only [Cnt.cells]
          go_wp2_with fail
          clear hHeld
          refine hK.out _ _ s (fun hHeld => ?_)
          clear hK K s
          try simp only [Act.put, List.setIfInBounds_toArray, List.set_cons_zero, List.set_cons_succ]
          clear W
          rename World => W
          refine takeD (i := 12) (some 24) (v := ?_) rfl rfl (by kernel_rfl) (by kernel_rfl) (by kernel_rfl) (fun _ _ _ h => h) (by kernel_rfl) ?_ (by assumption) ?_
          rotate_left
          · intro wx hSw
            obtain ⟨hS1, hS2⟩ := hSw
            go_simp
            try (with_reducible rfl)
          try simp only [Act.put, List.setIfInBounds_toArray, List.set_cons_zero, List.set_cons_succ]
          refine takeD (i := 13) (some 37) (v := ?_) rfl rfl (by kernel_rfl) (by kernel_rfl) (by kernel_rfl) (fun _ _ _ h => h) (by kernel_rfl) ?_ (by assumption) ?_
          rotate_left
          · intro wx hSw
            obtain ⟨hS1, hS2⟩ := hSw
            go_simp
            try (with_reducible rfl)
          try simp only [Act.put, List.setIfInBounds_toArray, List.set_cons_zero, List.set_cons_succ]
          refine takeD (i := 14) (some 38) (v := ?_) rfl rfl (by kernel_rfl) (by kernel_rfl) (by kernel_rfl) (fun _ _ _ h => h) (by kernel_rfl) ?_ (by assumption) ?_
          rotate_left
          · intro wx hSw
            obtain ⟨hS1, hS2⟩ := hSw
            go_simp
            try (with_reducible rfl)
          try simp only [Act.put, List.setIfInBounds_toArray, List.set_cons_zero, List.set_cons_succ]
          have cz := blk_cell kA
          have fz := blk_free kA
          have HC2 : Hid (CS w (put3 W gA (.slice R.aU R.nU R.cU) (.int .i64 R.lo) (.slice R.aP R.nP R.cP)) g cv C gN M) := hC.touch (put3_touch W gA (.slice R.aU R.nU R.cU) (.int .i64 R.lo) (.slice R.aP R.nP R.cP)) lA.1 lA.2 (touch3 hC.o kA)
          have HT2 : Hid (Tmp w (put3 W gA (.slice R.aU R.nU R.cU) (.int .i64 R.lo) (.slice R.aP R.nP R.cP)) gN gA R) := ⟨put3_blk kA _ _ _, touch3 hR kA, HFR.out, lA.1, lA.2⟩
          have s := ss HC2.out
          clear hC kA lA hR HFR
          unfold put3 at s
          refine wpAnyH_ready (rs := [16]) (by kernel_rfl) (by simp) ?_
          refine AllReadyH.cons rfl (fun K hK => ?_) AllReadyH.nil
          go_simp
          clear hHeld
          refine hK.out _ _ s (fun hHeld => ?_)
          clear hK K
          try simp only [Act.put, List.setIfInBounds_toArray, List.set_cons_zero, List.set_cons_succ]
          refine wpAnyH_ready (rs := [17]) (by kernel_rfl) (by simp) ?_
          refine AllReadyH.cons rfl (fun K hK => ?_) AllReadyH.nil
          go_simp
          clear hHeld
          refine hK.out _ _ s (fun hHeld => ?_)
          clear hK K
          try simp only [Act.put, List.setIfInBounds_toArray, List.set_cons_zero, List.set_cons_succ]
          refine wpAnyH_done (by kernel_rfl) ?_ _
          clear s hHeld cz fz
          go_wp2_with fail
          go_meet
          case rel => exact ⟨gA, R, ok, rfl, rfl, HC2.out, HT2.out⟩
      · have hb := (Below.refl W.heap.size W).alloc (Nat.le_refl _) (.cells #[.slice none 0 0, .int .i64 0, .slice none 0 0] 29)
        have kA := blk_new W (.cells #[.slice none 0 0, .int .i64 0, .slice none 0 0] 29)
        have lA : w.heap.size + 2 ≤ W.heap.size ∧ W.heap.size ≠ gN := ⟨by have := blk_lt hC.kR; omega, by have := blk_lt hC.kN; omega⟩
        replace hC := hC.below hb
        have s := ss hC
        go_simp
        clear hHeld
        refine hK.out _ _ s (fun hHeld => ?_)
        clear hK K s
        try simp only [Act.put, List.setIfInBounds_toArray, List.set_cons_zero, List.set_cons_succ]
        generalize hgA : W.heap.size = gA at *
        generalize W.alloc (.cells #[.slice none 0 0, .int .i64 0, .slice none 0 0] 29) = W' at *
        clear hb hgA
        clear W
        rename World => W
        refine wpAnyH_ready (rs := [5]) (by kernel_rfl) (by simp) ?_
        refine AllReadyH.cons rfl (fun K hK => ?_) AllReadyH.nil
        go_simp
        refine (below_any g cv C.p _ hC.rd (by omega) (by omega)).mono ?_
        rintro e W' ⟨x1, hx1, rfl, hR1, hJ1⟩
        replace kA := kblk hJ1 kA (by have := hC.hg; omega)
        replace hC := hC.kept hR1 hJ1
        have s := ss hC
        clear hR1 hJ1
        go_wp2_with fail
        clear hHeld
        refine hK.out _ _ s (fun hHeld => ?_)
        clear hK K s
        try simp only [Act.put, List.setIfInBounds_toArray, List.set_cons_zero, List.set_cons_succ]
        clear W
        rename World => W
        refine wpAnyH_ready (rs := [7]) (by kernel_rfl) (by simp) ?_
        refine AllReadyH.cons rfl (fun K hK => ?_) AllReadyH.nil
        go_simp
        refine (below_any g cv 3 _ hC.rd (by omega) (by omega)).mono ?_
        rintro e W' ⟨x2, hx2, rfl, hR1, hJ1⟩
        replace kA := kblk hJ1 kA (by have := hC.hg; omega)
        replace hC := hC.kept hR1 hJ1
        have s := ss hC
        clear hR1 hJ1
        go_wp2_with fail
        clear hHeld
        refine hK.out _ _ s (fun hHeld => ?_)
        clear hK K s
        try simp only [Act.put, List.setIfInBounds_toArray, List.set_cons_zero, List.set_cons_succ]
        clear W
        rename World => W
        refine wpAnyH_ready (rs := [9]) (by kernel_rfl) (by simp) ?_
        refine AllReadyH.cons rfl (fun K hK => ?_) AllReadyH.nil
        go_simp
        refine (below_any g cv 5 _ hC.rd (by omega) (by omega)).mono ?_
        rintro e W' ⟨x3, hx3, rfl, hR1, hJ1⟩
        have e_x3 : IntKind.i64.wrap (1 + (x3 : Int)) = 1 + (x3 : Int) := wrapC _ (by omega) (by omega)
        replace kA := kblk hJ1 kA (by have := hC.hg; omega)
        replace hC := hC.kept hR1 hJ1
        have s := ss hC
        clear hR1 hJ1
        go_wp2_with fail
        clear hHeld
        refine hK.out _ _ s (fun hHeld => ?_)
        clear hK K s
        try simp only [Act.put, List.setIfInBounds_toArray, List.set_cons_zero, List.set_cons_succ]
        clear W
        rename World => W
        refine takeD (i := 10) (some 35) (v := ?_) rfl rfl (by kernel_rfl) (by kernel_rfl) (by kernel_rfl) (fun _ _ _ h => h) (by kernel_rfl) ?_ (by assumption) ?_
        rotate_left
        · intro wx hSw
          obtain ⟨hS1, hS2⟩ := hSw
          go_simp
          try (with_reducible rfl)
        try simp only [Act.put, List.setIfInBounds_toArray, List.set_cons_zero, List.set_cons_succ]
        refine wpAnyH_ready (rs := [11]) (by kernel_rfl) (by simp) ?_
        refine AllReadyH.cons rfl (fun K hK => ?_) AllReadyH.nil
        go_simp
        obtain ⟨ok, hok⟩ := ok_decC (formP C M x1 x2 (1 + (x3 : Int)) ∧ Cnt.Ok C (addN M x1 x2 (1 + (x3 : Int))))
        refine (sAdmitted_any C M x1 x2 (1 + (x3 : Int)) _ hC.few.small.fit hC.o.rd ok hok).mono ?_
        rintro e W' ⟨R, rfl, hR, hb, hAR⟩
        have HFR : Hid (Few R) := ((hC.few.addN _ _ _).orZero ok).alike hAR
        replace hR := hR.mono (base' := w.heap.size + 2) (by have := blk_lt hC.kR; omega)
        replace kA := (hb.block _ (blk_lt kA)).trans kA
        replace hC := hC.below hb
        have s := ss hC
        clear hb hAR hok
        dsimp only [Cnt.cells]
        go_wp2_with fail
        clear hHeld
        refine hK.out _ _ s (fun hHeld => ?_)
        clear hK K s
        try simp only [Act.put, List.setIfInBounds_toArray, List.set_cons_zero, List.set_cons_succ]
        clear W
        rename World => W
        refine takeD (i := 12) (some 24) (v := ?_) rfl rfl (by kernel_rfl) (by kernel_rfl) (by kernel_rfl) (fun _ _ _ h => h) (by kernel_rfl) ?_ (by assumption) ?_
        rotate_left
        · intro wx hSw
          obtain ⟨hS1, hS2⟩ := hSw
          go_simp
          try (with_reducible rfl)
        try simp only [Act.put, List.setIfInBounds_toArray, List.set_cons_zero, List.set_cons_succ]
        refine takeD (i := 13) (some 37) (v := ?_) rfl rfl (by kernel_rfl) (by kernel_rfl) (by kernel_rfl) (fun _ _ _ h => h) (by kernel_rfl) ?_ (by assumption) ?_
        rotate_left
        · intro wx hSw
          obtain ⟨hS1, hS2⟩ := hSw
          go_simp
          try (with_reducible rfl)
        try simp only [Act.put, List.setIfInBounds_toArray, List.set_cons_zero, List.set_cons_succ]
        refine takeD (i := 14) (some 38) (v := ?_) rfl rfl (by kernel_rfl) (by kernel_rfl) (by kernel_rfl) (fun _ _ _ h => h) (by kernel_rfl) ?_ (by assumption) ?_
        rotate_left
        · intro wx hSw
          obtain ⟨hS1, hS2⟩ := hSw
          go_simp
          try (with_reducible rfl)
        try simp only [Act.put, List.setIfInBounds_toArray, List.set_cons_zero, List.set_cons_succ]
        have cz := blk_cell kA
        have fz := blk_free kA
        have HC2 : Hid (CS w (put3 W gA (.slice R.aU R.nU R.cU) (.int .i64 R.lo) (.slice R.aP R.nP R.cP)) g cv C gN M) := hC.touch (put3_touch W gA (.slice R.aU R.nU R.cU) (.int .i64 R.lo) (.slice R.aP R.nP R.cP)) lA.1 lA.2 (touch3 hC.o kA)
        have HT2 : Hid (Tmp w (put3 W gA (.slice R.aU R.nU R.cU) (.int .i64 R.lo) (.slice R.aP R.nP R.cP)) gN gA R) := ⟨put3_blk kA _ _ _, touch3 hR kA, HFR.out, lA.1, lA.2⟩
        have s := ss HC2.out
        clear hC kA lA hR HFR
        unfold put3 at s
        refine wpAnyH_ready (rs := [16]) (by kernel_rfl) (by simp) ?_
        refine AllReadyH.cons rfl (fun K hK => ?_) AllReadyH.nil
        go_simp
        clear hHeld
        refine hK.out _ _ s (fun hHeld => ?_)
        clear hK K
        try simp only [Act.put, List.setIfInBounds_toArray, List.set_cons_zero, List.set_cons_succ]
        refine wpAnyH_ready (rs := [17]) (by kernel_rfl) (by simp) ?_
        refine AllReadyH.cons rfl (fun K hK => ?_) AllReadyH.nil
        go_simp
        clear hHeld
        refine hK.out _ _ s (fun hHeld => ?_)
        clear hK K
        try simp only [Act.put, List.setIfInBounds_toArray, List.set_cons_zero, List.set_cons_succ]
        refine wpAnyH_done (by kernel_rfl) ?_ _
        clear s hHeld cz fz
        go_wp2_with fail
        go_meet
        case rel => exact ⟨gA, R, ok, rfl, rfl, HC2.out, HT2.out⟩
    case rest =>
      obtain ⟨gT, R, ok, rfl, rfl, hC, hT⟩ := hcut
      clear HC0
      cases ok
      · go_wp2_with fail
        refine (once_any g cv 4 _ hC.rd (by omega) (by omega)).mono ?_
        rintro e W1 ⟨b4, rfl, hR1, hJ1⟩
        replace hT := hT.kept hJ1 hC.hg
        replace hC := hC.kept hR1 hJ1
        clear hR1 hJ1
        cases b4
        · have s := ss hC
          go_wp2_with fail
          generalize W1 = W at *
          refine wp_region_held_drew (S := fun w' => (∀ o, w'.cell? ⟨w.heap.size, o, none⟩ = (#[.int .i64 C.p, .int .i64 C.c, .int .i64 C.xo, .int .i64 C.xn, .int .i64 C.hd, .int .i64 C.lo, .int .i64 C.dl] : Array Value)[o]?) ∧ (∀ o, w'.cell? ⟨gN, o, none⟩ = (#[.slice M.aU M.nU M.cU, .int .i64 M.lo, .slice M.aP M.nP M.cP] : Array Value)[o]?)) (by kernel_rfl) s (fun hHeld => ?_)
          replace hT := hT.kept ((Kept.refl g W).drewC) hC.hg
          replace hC := hC.kept hC.rd.drewC ((Kept.refl g W).drewC)
          replace s := ss hC
          obtain ⟨Wd, hWd⟩ : ∃ Wd, Wd = W.drew := ⟨_, rfl⟩
          rw [← hWd] at hHeld hT hC s ⊢
          clear hWd W
          rename World => W
          refine takeD (i := 0) (some 50) (v := ?_) rfl rfl (by kernel_rfl) (by kernel_rfl) (by kernel_rfl) (fun _ _ _ h => h) (by kernel_rfl) ?_ (by assumption) ?_
          rotate_left
          · intro wx hSw
            obtain ⟨hS1, hS2⟩ := hSw
            go_simp
            try (with_reducible rfl)
          try simp only [Act.put, List.setIfInBounds_toArray, List.set_cons_zero, List.set_cons_succ]
          refine takeD (i := 1) (some 51) (v := ?_) rfl rfl (by kernel_rfl) (by kernel_rfl) (by kernel_rfl) (fun _ _ _ h => h) (by kernel_rfl) ?_ (by assumption) ?_
          rotate_left
          · intro wx hSw
            obtain ⟨hS1, hS2⟩ := hSw
            go_simp
            try (with_reducible rfl)
          try simp only [Act.put, List.setIfInBounds_toArray, List.set_cons_zero, List.set_cons_succ]
          refine takeD (i := 2) (some 52) (v := ?_) rfl rfl (by kernel_rfl) (by kernel_rfl) (by kernel_rfl) (fun _ _ _ h => h) (by kernel_rfl) ?_ (by assumption) ?_
          rotate_left
          · intro wx hSw
            obtain ⟨hS1, hS2⟩ := hSw
            go_simp
            try (with_reducible rfl)
          try simp only [Act.put, List.setIfInBounds_toArray, List.set_cons_zero, List.set_cons_succ]
          refine takeD (i := 3) (some 53) (v := ?_) rfl rfl (by kernel_rfl) (by kernel_rfl) (by kernel_rfl) (fun _ _ _ h => h) (by kernel_rfl) ?_ (by assumption) ?_
          rotate_left
          · intro wx hSw
            obtain ⟨hS1, hS2⟩ := hSw
            go_simp
            try (with_reducible rfl)
          try simp only [Act.put, List.setIfInBounds_toArray, List.set_cons_zero, List.set_cons_succ]
          refine takeD (i := 4) (some 54) (v := ?_) rfl rfl (by kernel_rfl) (by kernel_rfl) (by kernel_rfl) (fun _ _ _ h => h) (by kernel_rfl) ?_ (by assumption) ?_
          rotate_left
          · intro wx hSw
            obtain ⟨hS1, hS2⟩ := hSw
            go_simp
            try (with_reducible rfl)
          try simp only [Act.put, List.setIfInBounds_toArray, List.set_cons_zero, List.set_cons_succ]
          refine takeD (i := 6) (some 56) (v := ?_) rfl rfl (by kernel_rfl) (by kernel_rfl) (by kernel_rfl) (fun _ _ _ h => h) (by kernel_rfl) ?_ (by assumption) ?_
          rotate_left
          · intro wx hSw
            obtain ⟨hS1, hS2⟩ := hSw
            go_simp
            try (with_reducible rfl)
          try simp only [Act.put, List.setIfInBounds_toArray, List.set_cons_zero, List.set_cons_succ]
          refine takeD (i := 8) (some 58) (v := ?_) rfl rfl (by kernel_rfl) (by kernel_rfl) (by kernel_rfl) (fun _ _ _ h => h) (by kernel_rfl) ?_ (by assumption) ?_
          rotate_left
          · intro wx hSw
            obtain ⟨hS1, hS2⟩ := hSw
            go_simp
            try (with_reducible rfl)
          try simp only [Act.put, List.setIfInBounds_toArray, List.set_cons_zero, List.set_cons_succ]
          refine wpAnyH_ready (rs := [5]) (by kernel_rfl) (by simp) ?_
          refine AllReadyH.cons rfl (fun K hK => ?_) AllReadyH.nil
          go_simp
          refine (below_any g cv C.p _ hC.rd (by omega) (by omega)).mono ?_
          rintro e W' ⟨y1, hy1, rfl, hR1, hJ1⟩
          replace hT := hT.kept hJ1 hC.hg
          replace hC := hC.kept hR1 hJ1
          replace s := ss hC
          clear hR1 hJ1
          go_wp2_with fail
          clear hHeld
          clear W
          rename World => W
          refine hK.out _ _ s (fun hHeld => ?_)
          clear hK K
          try simp only [Act.put, List.setIfInBounds_toArray, List.set_cons_zero, List.set_cons_succ]
          refine wpAnyH_ready (rs := [7]) (by kernel_rfl) (by simp) ?_
          refine AllReadyH.cons rfl (fun K hK => ?_) AllReadyH.nil
          go_simp
          refine (below_any g cv 3 _ hC.rd (by omega) (by omega)).mono ?_
          rintro e W' ⟨y2, hy2, rfl, hR1, hJ1⟩
          replace hT := hT.kept hJ1 hC.hg
          replace hC := hC.kept hR1 hJ1
          replace s := ss hC
          clear hR1 hJ1
          go_wp2_with fail
          clear hHeld
          clear W
          rename World => W
          refine hK.out _ _ s (fun hHeld => ?_)
          clear hK K
          try simp only [Act.put, List.setIfInBounds_toArray, List.set_cons_zero, List.set_cons_succ]
          refine wpAnyH_ready (rs := [9]) (by kernel_rfl) (by simp) ?_
          refine AllReadyH.cons rfl (fun K hK => ?_) AllReadyH.nil
          go_simp
          refine (below_any g cv 5 _ hC.rd (by omega) (by omega)).mono ?_
          rintro e W' ⟨y3, hy3, rfl, hR1, hJ1⟩
          have e_y3 : IntKind.i64.wrap (1 + (y3 : Int)) = 1 + (y3 : Int) := wrapC _ (by omega) (by omega)
          replace hT := hT.kept hJ1 hC.hg
          replace hC := hC.kept hR1 hJ1
          replace s := ss hC
          clear hR1 hJ1
          go_wp2_with fail
          clear hHeld
          clear W
          rename World => W
          refine hK.out _ _ s (fun hHeld => ?_)
          clear hK K
          try simp only [Act.put, List.setIfInBounds_toArray, List.set_cons_zero, List.set_cons_succ]
          refine takeD (i := 10) (some 60) (v := ?_) rfl rfl (by kernel_rfl) (by kernel_rfl) (by kernel_rfl) (fun _ _ _ h => h) (by kernel_rfl) ?_ (by assumption) ?_
          rotate_left
          · intro wx hSw
            obtain ⟨hS1, hS2⟩ := hSw
            go_simp
            try (with_reducible rfl)
          try simp only [Act.put, List.setIfInBounds_toArray, List.set_cons_zero, List.set_cons_succ]
          refine wpAnyH_ready (rs := [11]) (by kernel_rfl) (by simp) ?_
          refine AllReadyH.cons rfl (fun K hK => ?_) AllReadyH.nil
          go_simp
          obtain ⟨fn, hfn⟩ := ok_decC (formP C M y1 y2 (1 + (y3 : Int)) ∧ Cnt.Ok C (addN M y1 y2 (-(1 + (y3 : Int)))))
          refine (sReleased_any C M y1 y2 (1 + (y3 : Int)) _ hC.few.small.fit hC.o.rd fn hfn).mono ?_
          rintro e W' ⟨R2, rfl, hR2, hb, hAR⟩
          have HFR2 : Hid (Few R2) := ((hC.few.addN _ _ _).orZero fn).alike hAR
          replace hR2 := hR2.mono (base' := w.heap.size + 2) (by have := blk_lt hC.kR; omega)
          replace hT := hT.below hb
          replace hC := hC.below hb
          replace s := ss hC
          have cz := blk_cell hT.k
          have fz := blk_free hT.k
          unfold Cnt.cells at cz
          have HC2 : Hid (CS w (put3 W' gT (.slice R2.aU R2.nU R2.cU) (.int .i64 R2.lo) (.slice R2.aP R2.nP R2.cP)) g cv C gN M) := hC.touch (put3_touch W' gT (.slice R2.aU R2.nU R2.cU) (.int .i64 R2.lo) (.slice R2.aP R2.nP R2.cP)) hT.l hT.n (touch3 hC.o hT.k)
          have HT2 : Hid (Tmp w (put3 W' gT (.slice R2.aU R2.nU R2.cU) (.int .i64 R2.lo) (.slice R2.aP R2.nP R2.cP)) gN gT R2) := ⟨put3_blk (by have := hT.k; unfold Cnt.cells at this; exact this) _ _ _, touch3 hR2 hT.k, HFR2.out, hT.l, hT.n⟩
          have s2 := ss HC2.out
          clear hb hAR hfn hC hT HFR2 hR2
          unfold put3 at s2
          dsimp only [Cnt.cells]
          go_wp2_with fail
          clear hHeld
          clear W
          rename World => W
          refine hK.out _ _ s (fun hHeld => ?_)
          clear hK K
          try simp only [Act.put, List.setIfInBounds_toArray, List.set_cons_zero, List.set_cons_succ]
          refine takeD (i := 12) (some 49) (v := ?_) rfl rfl (by kernel_rfl) (by kernel_rfl) (by kernel_rfl) (fun _ _ _ h => h) (by kernel_rfl) ?_ (by assumption) ?_
          rotate_left
          · intro wx hSw
            obtain ⟨hS1, hS2⟩ := hSw
            go_simp
            try (with_reducible rfl)
          try simp only [Act.put, List.setIfInBounds_toArray, List.set_cons_zero, List.set_cons_succ]
          refine takeD (i := 13) (some 62) (v := ?_) rfl rfl (by kernel_rfl) (by kernel_rfl) (by kernel_rfl) (fun _ _ _ h => h) (by kernel_rfl) ?_ (by assumption) ?_
          rotate_left
          · intro wx hSw
            obtain ⟨hS1, hS2⟩ := hSw
            go_simp
            try (with_reducible rfl)
          try simp only [Act.put, List.setIfInBounds_toArray, List.set_cons_zero, List.set_cons_succ]
          refine takeD (i := 14) (some 63) (v := ?_) rfl rfl (by kernel_rfl) (by kernel_rfl) (by kernel_rfl) (fun _ _ _ h => h) (by kernel_rfl) ?_ (by assumption) ?_
          rotate_left
          · intro wx hSw
            obtain ⟨hS1, hS2⟩ := hSw
            go_simp
            try (with_reducible rfl)
          try simp only [Act.put, List.setIfInBounds_toArray, List.set_cons_zero, List.set_cons_succ]
          refine wpAnyH_ready (rs := [15]) (by kernel_rfl) (by simp) ?_
          refine AllReadyH.cons rfl (fun K hK => ?_) AllReadyH.nil
          go_simp
          refine hK.out _ _ s2 (fun hHeld => ?_)
          clear hK K
          try simp only [Act.put, List.setIfInBounds_toArray, List.set_cons_zero, List.set_cons_succ]
          refine wpAnyH_ready (rs := [16]) (by kernel_rfl) (by simp) ?_
          refine AllReadyH.cons rfl (fun K hK => ?_) AllReadyH.nil
          go_simp
          refine hK.out _ _ s2 (fun hHeld => ?_)
          clear hK K
          try simp only [Act.put, List.setIfInBounds_toArray, List.set_cons_zero, List.set_cons_succ]
          refine wpAnyH_done (by kernel_rfl) ?_ _
          clear hHeld s s2 cz fz
          have hC := HC2.out
          have hT := HT2.out
          clear HC2 HT2
          unfold put3 at hC hT
          cases fn
          · have HCe : Hid (CS w _ g cv C gN M) := hC
            clear hT
            go_wp2_with fail
            generalize ((W.setCell ⟨gT, 0, none⟩ (.slice R2.aU R2.nU R2.cU)).setCell ⟨gT, 1, none⟩ (.int .i64 R2.lo)).setCell ⟨gT, 2, none⟩ (.slice R2.aP R2.nP R2.cP) = W3 at *
            go_roundw
            case rel => exact ⟨j, M, by first | go_num | (simp; done) | (simp; omega), by omega, hC⟩
            case measure => simp [intOf]; try omega
          · go_wp2_with fail
            generalize ((W.setCell ⟨gT, 0, none⟩ (.slice R2.aU R2.nU R2.cU)).setCell ⟨gT, 1, none⟩ (.int .i64 R2.lo)).setCell ⟨gT, 2, none⟩ (.slice R2.aP R2.nP R2.cP) = W3 at *
            refine (once_any g cv 2 _ hC.rd (by omega) (by omega)).mono ?_
            rintro e W4 ⟨b2, rfl, hR1, hJ1⟩
            replace hT := hT.kept hJ1 hC.hg
            replace hC := hC.kept hR1 hJ1
            clear hR1 hJ1
            cases b2
            · clear hT
              go_wp2_with fail
              go_roundw
              case rel => exact ⟨j, M, by first | go_num | (simp; done) | (simp; omega), by omega, hC⟩
              case measure => simp [intOf]; try omega
            · have cN := (ss hC).2
              have fN := blk_free hC.kN
              have cT := blk_cell hT.k
              unfold Cnt.cells at cT
              have hC9 := hC.put hT.o hT.few
              clear hC hT
              have hC := hC9
              clear hC9
              unfold put3 at hC
              go_wp2_with fail
              go_roundw
              case rel => exact ⟨j, R2, by first | go_num | (simp; done) | (simp; omega), by omega, hC⟩
              case measure => simp [intOf]; try omega
        · have s := ss hC
          go_wp2_with fail
          obtain ⟨sk, hsk⟩ := ok_decC (Cnt.Ok C M)
          refine (sSignals_any C M _ hC.few.small.fit hC.o.rd sk hsk).mono ?_
          rintro e W2 ⟨L, aT, cT, rfl, hSA⟩
          have HFL : Few L := (hC.few.sigM sk).alike hSA.a
          have hL := hSA.o.mono (base' := w.heap.size + 2) (by have := blk_lt hC.kR; omega)
          replace hT := hT.below hSA.b
          replace hC := hC.below hSA.b
          have cN := (ss hC).2
          have fN := blk_free hC.kN
          have hC9 := hC.put hL HFL
          have hT9 := hT.put (M := L) (a := .slice L.aU L.nU L.cU) (b := .int .i64 L.lo) (c := .slice L.aP L.nP L.cP) hC.kN
          clear hC hT hL HFL hSA hsk s
          have hC := hC9
          have hT := hT9
          clear hC9 hT9
          have s := ss hC
          unfold put3 at hC hT s
          dsimp only [Cnt.cells]
          go_wp2_with fail
          generalize ((W2.setCell ⟨gN, 0, none⟩ (.slice L.aU L.nU L.cU)).setCell ⟨gN, 1, none⟩ (.int .i64 L.lo)).setCell ⟨gN, 2, none⟩ (.slice L.aP L.nP L.cP) = W at *
          clear cN fN
          refine wp_region_held_drew (S := fun w' => (∀ o, w'.cell? ⟨w.heap.size, o, none⟩ = (#[.int .i64 C.p, .int .i64 C.c, .int .i64 C.xo, .int .i64 C.xn, .int .i64 C.hd, .int .i64 C.lo, .int .i64 C.dl] : Array Value)[o]?) ∧ (∀ o, w'.cell? ⟨gN, o, none⟩ = (#[.slice L.aU L.nU L.cU, .int .i64 L.lo, .slice L.aP L.nP L.cP] : Array Value)[o]?)) (by kernel_rfl) s (fun hHeld => ?_)
          replace hT := hT.kept ((Kept.refl g W).drewC) hC.hg
          replace hC := hC.kept hC.rd.drewC ((Kept.refl g W).drewC)
          replace s := ss hC
          obtain ⟨Wd, hWd⟩ : ∃ Wd, Wd = W.drew := ⟨_, rfl⟩
          rw [← hWd] at hHeld hT hC s ⊢
          clear hWd W
          rename World => W
          refine takeD (i := 0) (some 50) (v := ?_) rfl rfl (by kernel_rfl) (by kernel_rfl) (by kernel_rfl) (fun _ _ _ h => h) (by kernel_rfl) ?_ (by assumption) ?_
          rotate_left
          · intro wx hSw
            obtain ⟨hS1, hS2⟩ := hSw
            go_simp
            try (with_reducible rfl)
          try simp only [Act.put, List.setIfInBounds_toArray, List.set_cons_zero, List.set_cons_succ]
          refine takeD (i := 1) (some 51) (v := ?_) rfl rfl (by kernel_rfl) (by kernel_rfl) (by kernel_rfl) (fun _ _ _ h => h) (by kernel_rfl) ?_ (by assumption) ?_
          rotate_left
          · intro wx hSw
            obtain ⟨hS1, hS2⟩ := hSw
            go_simp
            try (with_reducible rfl)
          try simp only [Act.put, List.setIfInBounds_toArray, List.set_cons_zero, List.set_cons_succ]
          refine takeD (i := 2) (some 52) (v := ?_) rfl rfl (by kernel_rfl) (by kernel_rfl) (by kernel_rfl) (fun _ _ _ h => h) (by kernel_rfl) ?_ (by assumption) ?_
          rotate_left
          · intro wx hSw
            obtain ⟨hS1, hS2⟩ := hSw
            go_simp
            try (with_reducible rfl)
          try simp only [Act.put, List.setIfInBounds_toArray, List.set_cons_zero, List.set_cons_succ]
          refine takeD (i := 3) (some 53) (v := ?_) rfl rfl (by kernel_rfl) (by kernel_rfl) (by kernel_rfl) (fun _ _ _ h => h) (by kernel_rfl) ?_ (by assumption) ?_
          rotate_left
          · intro wx hSw
            obtain ⟨hS1, hS2⟩ := hSw
            go_simp
            try (with_reducible rfl)
          try simp only [Act.put, List.setIfInBounds_toArray, List.set_cons_zero, List.set_cons_succ]
          refine takeD (i := 4) (some 54) (v := ?_) rfl rfl (by kernel_rfl) (by kernel_rfl) (by kernel_rfl) (fun _ _ _ h => h) (by kernel_rfl) ?_ (by assumption) ?_
          rotate_left
          · intro wx hSw
            obtain ⟨hS1, hS2⟩ := hSw
            go_simp
            try (with_reducible rfl)
          try simp only [Act.put, List.setIfInBounds_toArray, List.set_cons_zero, List.set_cons_succ]
          refine takeD (i := 6) (some 56) (v := ?_) rfl rfl (by kernel_rfl) (by kernel_rfl) (by kernel_rfl) (fun _ _ _ h => h) (by kernel_rfl) ?_ (by assumption) ?_
          rotate_left
          · intro wx hSw
            obtain ⟨hS1, hS2⟩ := hSw
            go_simp
            try (with_reducible rfl)
          try simp only [Act.put, List.setIfInBounds_toArray, List.set_cons_zero, List.set_cons_succ]
          refine takeD (i := 8) (some 58) (v := ?_) rfl rfl (by kernel_rfl) (by kernel_rfl) (by kernel_rfl) (fun _ _ _ h => h) (by kernel_rfl) ?_ (by assumption) ?_
          rotate_left
          · intro wx hSw
            obtain ⟨hS1, hS2⟩ := hSw
            go_simp
            try (with_reducible rfl)
          try simp only [Act.put, List.setIfInBounds_toArray, List.set_cons_zero, List.set_cons_succ]
          refine wpAnyH_ready (rs := [5]) (by kernel_rfl) (by simp) ?_
          refine AllReadyH.cons rfl (fun K hK => ?_) AllReadyH.nil
          go_simp
          refine (below_any g cv C.p _ hC.rd (by omega) (by omega)).mono ?_
          rintro e W' ⟨y1, hy1, rfl, hR1, hJ1⟩
          replace hT := hT.kept hJ1 hC.hg
          replace hC := hC.kept hR1 hJ1
          replace s := ss hC
          clear hR1 hJ1
          go_wp2_with fail
          clear hHeld
          clear W
          rename World => W
          refine hK.out _ _ s (fun hHeld => ?_)
          clear hK K
          try simp only [Act.put, List.setIfInBounds_toArray, List.set_cons_zero, List.set_cons_succ]
          refine wpAnyH_ready (rs := [7]) (by kernel_rfl) (by simp) ?_
          refine AllReadyH.cons rfl (fun K hK => ?_) AllReadyH.nil
          go_simp
          refine (below_any g cv 3 _ hC.rd (by omega) (by omega)).mono ?_
          rintro e W' ⟨y2, hy2, rfl, hR1, hJ1⟩
          replace hT := hT.kept hJ1 hC.hg
          replace hC := hC.kept hR1 hJ1
          replace s := ss hC
          clear hR1 hJ1
          go_wp2_with fail
          clear hHeld
          clear W
          rename World => W
          refine hK.out _ _ s (fun hHeld => ?_)
          clear hK K
          try simp only [Act.put, List.setIfInBounds_toArray, List.set_cons_zero, List.set_cons_succ]
          refine wpAnyH_ready (rs := [9]) (by kernel_rfl) (by simp) ?_
          refine AllReadyH.cons rfl (fun K hK => ?_) AllReadyH.nil
          go_simp
          refine (below_any g cv 5 _ hC.rd (by omega) (by omega)).mono ?_
          rintro e W' ⟨y3, hy3, rfl, hR1, hJ1⟩
          have e_y3 : IntKind.i64.wrap (1 + (y3 : Int)) = 1 + (y3 : Int) := wrapC _ (by omega) (by omega)
          replace hT := hT.kept hJ1 hC.hg
          replace hC := hC.kept hR1 hJ1
          replace s := ss hC
          clear hR1 hJ1
          go_wp2_with fail
          clear hHeld
          clear W
          rename World => W
          refine hK.out _ _ s (fun hHeld => ?_)
          clear hK K
          try simp only [Act.put, List.setIfInBounds_toArray, List.set_cons_zero, List.set_cons_succ]
          refine takeD (i := 10) (some 60) (v := ?_) rfl rfl (by kernel_rfl) (by kernel_rfl) (by kernel_rfl) (fun _ _ _ h => h) (by kernel_rfl) ?_ (by assumption) ?_
          rotate_left
          · intro wx hSw
            obtain ⟨hS1, hS2⟩ := hSw
            go_simp
            try (with_reducible rfl)
          try simp only [Act.put, List.setIfInBounds_toArray, List.set_cons_zero, List.set_cons_succ]
          refine wpAnyH_ready (rs := [11]) (by kernel_rfl) (by simp) ?_
          refine AllReadyH.cons rfl (fun K hK => ?_) AllReadyH.nil
          go_simp
          obtain ⟨fn, hfn⟩ := ok_decC (formP C L y1 y2 (1 + (y3 : Int)) ∧ Cnt.Ok C (addN L y1 y2 (-(1 + (y3 : Int)))))
          refine (sReleased_any C L y1 y2 (1 + (y3 : Int)) _ hC.few.small.fit hC.o.rd fn hfn).mono ?_
          rintro e W' ⟨R2, rfl, hR2, hb, hAR⟩
          have HFR2 : Hid (Few R2) := ((hC.few.addN _ _ _).orZero fn).alike hAR
          replace hR2 := hR2.mono (base' := w.heap.size + 2) (by have := blk_lt hC.kR; omega)
          replace hT := hT.below hb
          replace hC := hC.below hb
          replace s := ss hC
          have cz := blk_cell hT.k
          have fz := blk_free hT.k
          unfold Cnt.cells at cz
          have HC2 : Hid (CS w (put3 W' gT (.slice R2.aU R2.nU R2.cU) (.int .i64 R2.lo) (.slice R2.aP R2.nP R2.cP)) g cv C gN L) := hC.touch (put3_touch W' gT (.slice R2.aU R2.nU R2.cU) (.int .i64 R2.lo) (.slice R2.aP R2.nP R2.cP)) hT.l hT.n (touch3 hC.o hT.k)
          have HT2 : Hid (Tmp w (put3 W' gT (.slice R2.aU R2.nU R2.cU) (.int .i64 R2.lo) (.slice R2.aP R2.nP R2.cP)) gN gT R2) := ⟨put3_blk (by have := hT.k; unfold Cnt.cells at this; exact this) _ _ _, touch3 hR2 hT.k, HFR2.out, hT.l, hT.n⟩
          have s2 := ss HC2.out
          clear hb hAR hfn hC hT HFR2 hR2
          unfold put3 at s2
          dsimp only [Cnt.cells]
          go_wp2_with fail
          clear hHeld
          clear W
          rename World => W
          refine hK.out _ _ s (fun hHeld => ?_)
          clear hK K
          try simp only [Act.put, List.setIfInBounds_toArray, List.set_cons_zero, List.set_cons_succ]
          refine takeD (i := 12) (some 49) (v := ?_) rfl rfl (by kernel_rfl) (by kernel_rfl) (by kernel_rfl) (fun _ _ _ h => h) (by kernel_rfl) ?_ (by assumption) ?_
          rotate_left
          · intro wx hSw
            obtain ⟨hS1, hS2⟩ := hSw
            go_simp
            try (with_reducible rfl)
          try simp only [Act.put, List.setIfInBounds_toArray, List.set_cons_zero, List.set_cons_succ]
          refine takeD (i := 13) (some 62) (v := ?_) rfl rfl (by kernel_rfl) (by kernel_rfl) (by kernel_rfl) (fun _ _ _ h => h) (by kernel_rfl) ?_ (by assumption) ?_
          rotate_left
          · intro wx hSw
            obtain ⟨hS1, hS2⟩ := hSw
            go_simp
            try (with_reducible rfl)
          try simp only [Act.put, List.setIfInBounds_toArray, List.set_cons_zero, List.set_cons_succ]
          refine takeD (i := 14) (some 63) (v := ?_) rfl rfl (by kernel_rfl) (by kernel_rfl) (by kernel_rfl) (fun _ _ _ h => h) (by kernel_rfl) ?_ (by assumption) ?_
          rotate_left
          · intro wx hSw
            obtain ⟨hS1, hS2⟩ := hSw
            go_simp
            try (with_reducible rfl)
          try simp only [Act.put, List.setIfInBounds_toArray, List.set_cons_zero, List.set_cons_succ]
          refine wpAnyH_ready (rs := [15]) (by kernel_rfl) (by simp) ?_
          refine AllReadyH.cons rfl (fun K hK => ?_) AllReadyH.nil
          go_simp
          refine hK.out _ _ s2 (fun hHeld => ?_)
          clear hK K
          try simp only [Act.put, List.setIfInBounds_toArray, List.set_cons_zero, List.set_cons_succ]
          refine wpAnyH_ready (rs := [16]) (by kernel_rfl) (by simp) ?_
          refine AllReadyH.cons rfl (fun K hK => ?_) AllReadyH.nil
          go_simp
          refine hK.out _ _ s2 (fun hHeld => ?_)
          clear hK K
          try simp only [Act.put, List.setIfInBounds_toArray, List.set_cons_zero, List.set_cons_succ]
          refine wpAnyH_done (by kernel_rfl) ?_ _
          clear hHeld s s2 cz fz
          have hC := HC2.out
          have hT := HT2.out
          clear HC2 HT2
          unfold put3 at hC hT
          cases fn
          · have HCe : Hid (CS w _ g cv C gN L) := hC
            clear hT
            go_wp2_with fail
            generalize ((W.setCell ⟨gT, 0, none⟩ (.slice R2.aU R2.nU R2.cU)).setCell ⟨gT, 1, none⟩ (.int .i64 R2.lo)).setCell ⟨gT, 2, none⟩ (.slice R2.aP R2.nP R2.cP) = W3 at *
            go_roundw
            case rel => exact ⟨j, L, by first | go_num | (simp; done) | (simp; omega), by omega, hC⟩
            case measure => simp [intOf]; try omega
          · go_wp2_with fail
            generalize ((W.setCell ⟨gT, 0, none⟩ (.slice R2.aU R2.nU R2.cU)).setCell ⟨gT, 1, none⟩ (.int .i64 R2.lo)).setCell ⟨gT, 2, none⟩ (.slice R2.aP R2.nP R2.cP) = W3 at *
            refine (once_any g cv 2 _ hC.rd (by omega) (by omega)).mono ?_
            rintro e W4 ⟨b2, rfl, hR1, hJ1⟩
            replace hT := hT.kept hJ1 hC.hg
            replace hC := hC.kept hR1 hJ1
            clear hR1 hJ1
            cases b2
            · clear hT
              go_wp2_with fail
              go_roundw
              case rel => exact ⟨j, L, by first | go_num | (simp; done) | (simp; omega), by omega, hC⟩
              case measure => simp [intOf]; try omega
            · have cN := (ss hC).2
              have fN := blk_free hC.kN
              have cT := blk_cell hT.k
              unfold Cnt.cells at cT
              have hC9 := hC.put hT.o hT.few
              clear hC hT
              have hC := hC9
              clear hC9
              unfold put3 at hC
              go_wp2_with fail
              go_roundw
              case rel => exact ⟨j, R2, by first | go_num | (simp; done) | (simp; omega), by omega, hC⟩
              case measure => simp [intOf]; try omega
      · have cN := (ss hC).2
        have fN := blk_free hC.kN
        have cT := blk_cell hT.k
        unfold Cnt.cells at cT
        have hC9 := hC.put hT.o hT.few
        have hT9 := hT.put (M := R) (a := .slice R.aU R.nU R.cU) (b := .int .i64 R.lo) (c := .slice R.aP R.nP R.cP) hC.kN
        clear hC hT
        have hC := hC9
        have hT := hT9
        clear hC9 hT9
        unfold put3 at hC hT
        go_wp2_with fail
        clear cN fN cT
        generalize ((wc.setCell ⟨gN, 0, none⟩ (.slice R.aU R.nU R.cU)).setCell ⟨gN, 1, none⟩ (.int .i64 R.lo)).setCell ⟨gN, 2, none⟩ (.slice R.aP R.nP R.cP) = wd at *
        refine (once_any g cv 4 _ hC.rd (by omega) (by omega)).mono ?_
        rintro e W1 ⟨b4, rfl, hR1, hJ1⟩
        replace hT := hT.kept hJ1 hC.hg
        replace hC := hC.kept hR1 hJ1
        clear hR1 hJ1
        cases b4
        · have s := ss hC
          go_wp2_with fail
          generalize W1 = W at *
          refine wp_region_held_drew (S := fun w' => (∀ o, w'.cell? ⟨w.heap.size, o, none⟩ = (#[.int .i64 C.p, .int .i64 C.c, .int .i64 C.xo, .int .i64 C.xn, .int .i64 C.hd, .int .i64 C.lo, .int .i64 C.dl] : Array Value)[o]?) ∧ (∀ o, w'.cell? ⟨gN, o, none⟩ = (#[.slice R.aU R.nU R.cU, .int .i64 R.lo, .slice R.aP R.nP R.cP] : Array Value)[o]?)) (by kernel_rfl) s (fun hHeld => ?_)
          replace hT := hT.kept ((Kept.refl g W).drewC) hC.hg
          replace hC := hC.kept hC.rd.drewC ((Kept.refl g W).drewC)
          replace s := ss hC
          obtain ⟨Wd, hWd⟩ : ∃ Wd, Wd = W.drew := ⟨_, rfl⟩
          rw [← hWd] at hHeld hT hC s ⊢
          clear hWd W
          rename World => W
          refine takeD (i := 0) (some 50) (v := ?_) rfl rfl (by kernel_rfl) (by kernel_rfl) (by kernel_rfl) (fun _ _ _ h => h) (by kernel_rfl) ?_ (by assumption) ?_
          rotate_left
          · intro wx hSw
            obtain ⟨hS1, hS2⟩ := hSw
            go_simp
            try (with_reducible rfl)
          try simp only [Act.put, List.setIfInBounds_toArray, List.set_cons_zero, List.set_cons_succ]
          refine takeD (i := 1) (some 51) (v := ?_) rfl rfl (by kernel_rfl) (by kernel_rfl) (by kernel_rfl) (fun _ _ _ h => h) (by kernel_rfl) ?_ (by assumption) ?_
          rotate_left
          · intro wx hSw
            obtain ⟨hS1, hS2⟩ := hSw
            go_simp
            try (with_reducible rfl)
          try simp only [Act.put, List.setIfInBounds_toArray, List.set_cons_zero, List.set_cons_succ]
          refine takeD (i := 2) (some 52) (v := ?_) rfl rfl (by kernel_rfl) (by kernel_rfl) (by kernel_rfl) (fun _ _ _ h => h) (by kernel_rfl) ?_ (by assumption) ?_
          rotate_left
          · intro wx hSw
            obtain ⟨hS1, hS2⟩ := hSw
            go_simp
            try (with_reducible rfl)
          try simp only [Act.put, List.setIfInBounds_toArray, List.set_cons_zero, List.set_cons_succ]
          refine takeD (i := 3) (some 53) (v := ?_) rfl rfl (by kernel_rfl) (by kernel_rfl) (by kernel_rfl) (fun _ _ _ h => h) (by kernel_rfl) ?_ (by assumption) ?_
          rotate_left
          · intro wx hSw
            obtain ⟨hS1, hS2⟩ := hSw
            go_simp
            try (with_reducible rfl)
          try simp only [Act.put, List.setIfInBounds_toArray, List.set_cons_zero, List.set_cons_succ]
          refine takeD (i := 4) (some 54) (v := ?_) rfl rfl (by kernel_rfl) (by kernel_rfl) (by kernel_rfl) (fun _ _ _ h => h) (by kernel_rfl) ?_ (by assumption) ?_
          rotate_left
          · intro wx hSw
            obtain ⟨hS1, hS2⟩ := hSw
            go_simp
            try (with_reducible rfl)
          try simp only [Act.put, List.setIfInBounds_toArray, List.set_cons_zero, List.set_cons_succ]
          refine takeD (i := 6) (some 56) (v := ?_) rfl rfl (by kernel_rfl) (by kernel_rfl) (by kernel_rfl) (fun _ _ _ h => h) (by kernel_rfl) ?_ (by assumption) ?_
          rotate_left
          · intro wx hSw
            obtain ⟨hS1, hS2⟩ := hSw
            go_simp
            try (with_reducible rfl)
          try simp only [Act.put, List.setIfInBounds_toArray, List.set_cons_zero, List.set_cons_succ]
          refine takeD (i := 8) (some 58) (v := ?_) rfl rfl (by kernel_rfl) (by kernel_rfl) (by kernel_rfl) (fun _ _ _ h => h) (by kernel_rfl) ?_ (by assumption) ?_
          rotate_left
          · intro wx hSw
            obtain ⟨hS1, hS2⟩ := hSw
            go_simp
            try (with_reducible rfl)
          try simp only [Act.put, List.setIfInBounds_toArray, List.set_cons_zero, List.set_cons_succ]
          refine wpAnyH_ready (rs := [5]) (by kernel_rfl) (by simp) ?_
          refine AllReadyH.cons rfl (fun K hK => ?_) AllReadyH.nil
          go_simp
          refine (below_any g cv C.p _ hC.rd (by omega) (by omega)).mono ?_
          rintro e W' ⟨y1, hy1, rfl, hR1, hJ1⟩
          replace hT := hT.kept hJ1 hC.hg
          replace hC := hC.kept hR1 hJ1
          replace s := ss hC
          clear hR1 hJ1
          go_wp2_with fail
          clear hHeld
          clear W
          rename World => W
          refine hK.out _ _ s (fun hHeld => ?_)
          clear hK K
          try simp only [Act.put, List.setIfInBounds_toArray, List.set_cons_zero, List.set_cons_succ]
          refine wpAnyH_ready (rs := [7]) (by kernel_rfl) (by simp) ?_
          refine AllReadyH.cons rfl (fun K hK => ?_) AllReadyH.nil
          go_simp
          refine (below_any g cv 3 _ hC.rd (by omega) (by omega)).mono ?_
          rintro e W' ⟨y2, hy2, rfl, hR1, hJ1⟩
          replace hT := hT.kept hJ1 hC.hg
          replace hC := hC.kept hR1 hJ1
          replace s := ss hC
          clear hR1 hJ1
          go_wp2_with fail
          clear hHeld
          clear W
          rename World => W
          refine hK.out _ _ s (fun hHeld => ?_)
          clear hK K
          try simp only [Act.put, List.setIfInBounds_toArray, List.set_cons_zero, List.set_cons_succ]
          refine wpAnyH_ready (rs := [9]) (by kernel_rfl) (by simp) ?_
          refine AllReadyH.cons rfl (fun K hK => ?_) AllReadyH.nil
          go_simp
          refine (below_any g cv 5 _ hC.rd (by omega) (by omega)).mono ?_
          rintro e W' ⟨y3, hy3, rfl, hR1, hJ1⟩
          have e_y3 : IntKind.i64.wrap (1 + (y3 : Int)) = 1 + (y3 : Int) := wrapC _ (by omega) (by omega)
          replace hT := hT.kept hJ1 hC.hg
          replace hC := hC.kept hR1 hJ1
          replace s := ss hC
          clear hR1 hJ1
          go_wp2_with fail
          clear hHeld
          clear W
          rename World => W
          refine hK.out _ _ s (fun hHeld => ?_)
          clear hK K
          try simp only [Act.put, List.setIfInBounds_toArray, List.set_cons_zero, List.set_cons_succ]
          refine takeD (i := 10) (some 60) (v := ?_) rfl rfl (by kernel_rfl) (by kernel_rfl) (by kernel_rfl) (fun _ _ _ h => h) (by kernel_rfl) ?_ (by assumption) ?_
          rotate_left
          · intro wx hSw
            obtain ⟨hS1, hS2⟩ := hSw
            go_simp
            try (with_reducible rfl)
          try simp only [Act.put, List.setIfInBounds_toArray, List.set_cons_zero, List.set_cons_succ]
          refine wpAnyH_ready (rs := [11]) (by kernel_rfl) (by simp) ?_
          refine AllReadyH.cons rfl (fun K hK => ?_) AllReadyH.nil
          go_simp
          obtain ⟨fn, hfn⟩ := ok_decC (formP C R y1 y2 (1 + (y3 : Int)) ∧ Cnt.Ok C (addN R y1 y2 (-(1 + (y3 : Int)))))
          refine (sReleased_any C R y1 y2 (1 + (y3 : Int)) _ hC.few.small.fit hC.o.rd fn hfn).mono ?_
          rintro e W' ⟨R2, rfl, hR2, hb, hAR⟩
          have HFR2 : Hid (Few R2) := ((hC.few.addN _ _ _).orZero fn).alike hAR
          replace hR2 := hR2.mono (base' := w.heap.size + 2) (by have := blk_lt hC.kR; omega)
          replace hT := hT.below hb
          replace hC := hC.below hb
          replace s := ss hC
          have cz := blk_cell hT.k
          have fz := blk_free hT.k
          unfold Cnt.cells at cz
          have HC2 : Hid (CS w (put3 W' gT (.slice R2.aU R2.nU R2.cU) (.int .i64 R2.lo) (.slice R2.aP R2.nP R2.cP)) g cv C gN R) := hC.touch (put3_touch W' gT (.slice R2.aU R2.nU R2.cU) (.int .i64 R2.lo) (.slice R2.aP R2.nP R2.cP)) hT.l hT.n (touch3 hC.o hT.k)
          have HT2 : Hid (Tmp w (put3 W' gT (.slice R2.aU R2.nU R2.cU) (.int .i64 R2.lo) (.slice R2.aP R2.nP R2.cP)) gN gT R2) := ⟨put3_blk (by have := hT.k; unfold Cnt.cells at this; exact this) _ _ _, touch3 hR2 hT.k, HFR2.out, hT.l, hT.n⟩
          have s2 := ss HC2.out
          clear hb hAR hfn hC hT HFR2 hR2
          unfold put3 at s2
          dsimp only [Cnt.cells]
          go_wp2_with fail
          clear hHeld
          clear W
          rename World => W
          refine hK.out _ _ s (fun hHeld => ?_)
          clear hK K
          try simp only [Act.put, List.setIfInBounds_toArray, List.set_cons_zero, List.set_cons_succ]
          refine takeD (i := 12) (some 49) (v := ?_) rfl rfl (by kernel_rfl) (by kernel_rfl) (by kernel_rfl) (fun _ _ _ h => h) (by kernel_rfl) ?_ (by assumption) ?_
          rotate_left
          · intro wx hSw
            obtain ⟨hS1, hS2⟩ := hSw
            go_simp
            try (with_reducible rfl)
          try simp only [Act.put, List.setIfInBounds_toArray, List.set_cons_zero, List.set_cons_succ]
          refine takeD (i := 13) (some 62) (v := ?_) rfl rfl (by kernel_rfl) (by kernel_rfl) (by kernel_rfl) (fun _ _ _ h => h) (by kernel_rfl) ?_ (by assumption) ?_
          rotate_left
          · intro wx hSw
            obtain ⟨hS1, hS2⟩ := hSw
            go_simp
            try (with_reducible rfl)
          try simp only [Act.put, List.setIfInBounds_toArray, List.set_cons_zero, List.set_cons_succ]
          refine takeD (i := 14) (some 63) (v := ?_) rfl rfl (by kernel_rfl) (by kernel_rfl) (by kernel_rfl) (fun _ _ _ h => h) (by kernel_rfl) ?_ (by assumption) ?_
          rotate_left
          · intro wx hSw
            obtain ⟨hS1, hS2⟩ := hSw
            go_simp
            try (with_reducible rfl)
          try simp only [Act.put, List.setIfInBounds_toArray, List.set_cons_zero, List.set_cons_succ]
          refine wpAnyH_ready (rs := [15]) (by kernel_rfl) (by simp) ?_
          refine AllReadyH.cons rfl (fun K hK => ?_) AllReadyH.nil
          go_simp
          refine hK.out _ _ s2 (fun hHeld => ?_)
          clear hK K
          try simp only [Act.put, List.setIfInBounds_toArray, List.set_cons_zero, List.set_cons_succ]
          refine wpAnyH_ready (rs := [16]) (by kernel_rfl) (by simp) ?_
          refine AllReadyH.cons rfl (fun K hK => ?_) AllReadyH.nil
          go_simp
          refine hK.out _ _ s2 (fun hHeld => ?_)
          clear hK K
          try simp only [Act.put, List.setIfInBounds_toArray, List.set_cons_zero, List.set_cons_succ]
          refine wpAnyH_done (by kernel_rfl) ?_ _
          clear hHeld s s2 cz fz
          have hC := HC2.out
          have hT := HT2.out
          clear HC2 HT2
          unfold put3 at hC hT
          cases fn
          · have HCe : Hid (CS w _ g cv C gN R) := hC
            clear hT
            go_wp2_with fail
            generalize ((W.setCell ⟨gT, 0, none⟩ (.slice R2.aU R2.nU R2.cU)).setCell ⟨gT, 1, none⟩ (.int .i64 R2.lo)).setCell ⟨gT, 2, none⟩ (.slice R2.aP R2.nP R2.cP) = W3 at *
            go_roundw
            case rel => exact ⟨j, R, by first | go_num | (simp; done) | (simp; omega), by omega, hC⟩
            case measure => simp [intOf]; try omega
          · go_wp2_with fail
            generalize ((W.setCell ⟨gT, 0, none⟩ (.slice R2.aU R2.nU R2.cU)).setCell ⟨gT, 1, none⟩ (.int .i64 R2.lo)).setCell ⟨gT, 2, none⟩ (.slice R2.aP R2.nP R2.cP) = W3 at *
            refine (once_any g cv 2 _ hC.rd (by omega) (by omega)).mono ?_
            rintro e W4 ⟨b2, rfl, hR1, hJ1⟩
            replace hT := hT.kept hJ1 hC.hg
            replace hC := hC.kept hR1 hJ1
            clear hR1 hJ1
            cases b2
            · clear hT
              go_wp2_with fail
              go_roundw
              case rel => exact ⟨j, R, by first | go_num | (simp; done) | (simp; omega), by omega, hC⟩
              case measure => simp [intOf]; try omega
            · have cN := (ss hC).2
              have fN := blk_free hC.kN
              have cT := blk_cell hT.k
              unfold Cnt.cells at cT
              have hC9 := hC.put hT.o hT.few
              clear hC hT
              have hC := hC9
              clear hC9
              unfold put3 at hC
              go_wp2_with fail
              go_roundw
              case rel => exact ⟨j, R2, by first | go_num | (simp; done) | (simp; omega), by omega, hC⟩
              case measure => simp [intOf]; try omega
        · have s := ss hC
          go_wp2_with fail
          obtain ⟨sk, hsk⟩ := ok_decC (Cnt.Ok C R)
          refine (sSignals_any C R _ hC.few.small.fit hC.o.rd sk hsk).mono ?_
          rintro e W2 ⟨L, aT, cT, rfl, hSA⟩
          have HFL : Few L := (hC.few.sigM sk).alike hSA.a
          have hL := hSA.o.mono (base' := w.heap.size + 2) (by have := blk_lt hC.kR; omega)
          replace hT := hT.below hSA.b
          replace hC := hC.below hSA.b
          have cN := (ss hC).2
          have fN := blk_free hC.kN
          have hC9 := hC.put hL HFL
          have hT9 := hT.put (M := L) (a := .slice L.aU L.nU L.cU) (b := .int .i64 L.lo) (c := .slice L.aP L.nP L.cP) hC.kN
          clear hC hT hL HFL hSA hsk s
          have hC := hC9
          have hT := hT9
          clear hC9 hT9
          have s := ss hC
          unfold put3 at hC hT s
          dsimp only [Cnt.cells]
          go_wp2_with fail
          generalize ((W2.setCell ⟨gN, 0, none⟩ (.slice L.aU L.nU L.cU)).setCell ⟨gN, 1, none⟩ (.int .i64 L.lo)).setCell ⟨gN, 2, none⟩ (.slice L.aP L.nP L.cP) = W at *
          clear cN fN
          refine wp_region_held_drew (S := fun w' => (∀ o, w'.cell? ⟨w.heap.size, o, none⟩ = (#[.int .i64 C.p, .int .i64 C.c, .int .i64 C.xo, .int .i64 C.xn, .int .i64 C.hd, .int .i64 C.lo, .int .i64 C.dl] : Array Value)[o]?) ∧ (∀ o, w'.cell? ⟨gN, o, none⟩ = (#[.slice L.aU L.nU L.cU, .int .i64 L.lo, .slice L.aP L.nP L.cP] : Array Value)[o]?)) (by kernel_rfl) s (fun hHeld => ?_)
          replace hT := hT.kept ((Kept.refl g W).drewC) hC.hg
          replace hC := hC.kept hC.rd.drewC ((Kept.refl g W).drewC)
          replace s := ss hC
          obtain ⟨Wd, hWd⟩ : ∃ Wd, Wd = W.drew := ⟨_, rfl⟩
          rw [← hWd] at hHeld hT hC s ⊢
          clear hWd W
          rename World => W
          refine takeD (i := 0) (some 50) (v := ?_) rfl rfl (by kernel_rfl) (by kernel_rfl) (by kernel_rfl) (fun _ _ _ h => h) (by kernel_rfl) ?_ (by assumption) ?_
          rotate_left
          · intro wx hSw
            obtain ⟨hS1, hS2⟩ := hSw
            go_simp
            try (with_reducible rfl)
          try simp only [Act.put, List.setIfInBounds_toArray, List.set_cons_zero, List.set_cons_succ]
          refine takeD (i := 1) (some 51) (v := ?_) rfl rfl (by kernel_rfl) (by kernel_rfl) (by kernel_rfl) (fun _ _ _ h => h) (by kernel_rfl) ?_ (by assumption) ?_
          rotate_left
          · intro wx hSw
            obtain ⟨hS1, hS2⟩ := hSw
            go_simp
            try (with_reducible rfl)
          try simp only [Act.put, List.setIfInBounds_toArray, List.set_cons_zero, List.set_cons_succ]
          refine takeD (i := 2) (some 52) (v := ?_) rfl rfl (by kernel_rfl) (by kernel_rfl) (by kernel_rfl) (fun _ _ _ h => h) (by kernel_rfl) ?_ (by assumption) ?_
          rotate_left
          · intro wx hSw
            obtain ⟨hS1, hS2⟩ := hSw
            go_simp
            try (with_reducible rfl)
          try simp only [Act.put, List.setIfInBounds_toArray, List.set_cons_zero, List.set_cons_succ]
          refine takeD (i := 3) (some 53) (v := ?_) rfl rfl (by kernel_rfl) (by kernel_rfl) (by kernel_rfl) (fun _ _ _ h => h) (by kernel_rfl) ?_ (by assumption) ?_
          rotate_left
          · intro wx hSw
            obtain ⟨hS1, hS2⟩ := hSw
            go_simp
            try (with_reducible rfl)
          try simp only [Act.put, List.setIfInBounds_toArray, List.set_cons_zero, List.set_cons_succ]
          refine takeD (i := 4) (some 54) (v := ?_) rfl rfl (by kernel_rfl) (by kernel_rfl) (by kernel_rfl) (fun _ _ _ h => h) (by kernel_rfl) ?_ (by assumption) ?_
          rotate_left
          · intro wx hSw
            obtain ⟨hS1, hS2⟩ := hSw
            go_simp
            try (with_reducible rfl)
          try simp only [Act.put, List.setIfInBounds_toArray, List.set_cons_zero, List.set_cons_succ]
          refine takeD (i := 6) (some 56) (v := ?_) rfl rfl (by kernel_rfl) (by kernel_rfl) (by kernel_rfl) (fun _ _ _ h => h) (by kernel_rfl) ?_ (by assumption) ?_
          rotate_left
          · intro wx hSw
            obtain ⟨hS1, hS2⟩ := hSw
            go_simp
            try (with_reducible rfl)
          try simp only [Act.put, List.setIfInBounds_toArray, List.set_cons_zero, List.set_cons_succ]
          refine takeD (i := 8) (some 58) (v := ?_) rfl rfl (by kernel_rfl) (by kernel_rfl) (by kernel_rfl) (fun _ _ _ h => h) (by kernel_rfl) ?_ (by assumption) ?_
          rotate_left
          · intro wx hSw
            obtain ⟨hS1, hS2⟩ := hSw
            go_simp
            try (with_reducible rfl)
          try simp only [Act.put, List.setIfInBounds_toArray, List.set_cons_zero, List.set_cons_succ]
          refine wpAnyH_ready (rs := [5]) (by kernel_rfl) (by simp) ?_
          refine AllReadyH.cons rfl (fun K hK => ?_) AllReadyH.nil
          go_simp
          refine (below_any g cv C.p _ hC.rd (by omega) (by omega)).mono ?_
          rintro e W' ⟨y1, hy1, rfl, hR1, hJ1⟩
          replace hT := hT.kept hJ1 hC.hg
          replace hC := hC.kept hR1 hJ1
          replace s := ss hC
          clear hR1 hJ1
          go_wp2_with fail
          clear hHeld
          clear W
          rename World => W
          refine hK.out _ _ s (fun hHeld => ?_)
          clear hK K
          try simp only [Act.put, List.setIfInBounds_toArray, List.set_cons_zero, List.set_cons_succ]
          refine wpAnyH_ready (rs := [7]) (by kernel_rfl) (by simp) ?_
          refine AllReadyH.cons rfl (fun K hK => ?_) AllReadyH.nil
          go_simp
          refine (below_any g cv 3 _ hC.rd (by omega) (by omega)).mono ?_
          rintro e W' ⟨y2, hy2, rfl, hR1, hJ1⟩
          replace hT := hT.kept hJ1 hC.hg
          replace hC := hC.kept hR1 hJ1
          replace s := ss hC
          clear hR1 hJ1
          go_wp2_with fail
          clear hHeld
          clear W
          rename World => W
          refine hK.out _ _ s (fun hHeld => ?_)
          clear hK K
          try simp only [Act.put, List.setIfInBounds_toArray, List.set_cons_zero, List.set_cons_succ]
          refine wpAnyH_ready (rs := [9]) (by kernel_rfl) (by simp) ?_
          refine AllReadyH.cons rfl (fun K hK => ?_) AllReadyH.nil
          go_simp
          refine (below_any g cv 5 _ hC.rd (by omega) (by omega)).mono ?_
          rintro e W' ⟨y3, hy3, rfl, hR1, hJ1⟩
          have e_y3 : IntKind.i64.wrap (1 + (y3 : Int)) = 1 + (y3 : Int) := wrapC _ (by omega) (by omega)
          replace hT := hT.kept hJ1 hC.hg
          replace hC := hC.kept hR1 hJ1
          replace s := ss hC
          clear hR1 hJ1
          go_wp2_with fail
          clear hHeld
          clear W
          rename World => W
          refine hK.out _ _ s (fun hHeld => ?_)
          clear hK K
          try simp only [Act.put, List.setIfInBounds_toArray, List.set_cons_zero, List.set_cons_succ]
          refine takeD (i := 10) (some 60) (v := ?_) rfl rfl (by kernel_rfl) (by kernel_rfl) (by kernel_rfl) (fun _ _ _ h => h) (by kernel_rfl) ?_ (by assumption) ?_
          rotate_left
          · intro wx hSw
            obtain ⟨hS1, hS2⟩ := hSw
            go_simp
            try (with_reducible rfl)
          try simp only [Act.put, List.setIfInBounds_toArray, List.set_cons_zero, List.set_cons_succ]
          refine wpAnyH_ready (rs := [11]) (by kernel_rfl) (by simp) ?_
          refine AllReadyH.cons rfl (fun K hK => ?_) AllReadyH.nil
          go_simp
          obtain ⟨fn, hfn⟩ := ok_decC (formP C L y1 y2 (1 + (y3 : Int)) ∧ Cnt.Ok C (addN L y1 y2 (-(1 + (y3 : Int)))))
          refine (sReleased_any C L y1 y2 (1 + (y3 : Int)) _ hC.few.small.fit hC.o.rd fn hfn).mono ?_
          rintro e W' ⟨R2, rfl, hR2, hb, hAR⟩
          have HFR2 : Hid (Few R2) := ((hC.few.addN _ _ _).orZero fn).alike hAR
          replace hR2 := hR2.mono (base' := w.heap.size + 2) (by have := blk_lt hC.kR; omega)
          replace hT := hT.below hb
          replace hC := hC.below hb
          replace s := ss hC
          have cz := blk_cell hT.k
          have fz := blk_free hT.k
          unfold Cnt.cells at cz
          have HC2 : Hid (CS w (put3 W' gT (.slice R2.aU R2.nU R2.cU) (.int .i64 R2.lo) (.slice R2.aP R2.nP R2.cP)) g cv C gN L) := hC.touch (put3_touch W' gT (.slice R2.aU R2.nU R2.cU) (.int .i64 R2.lo) (.slice R2.aP R2.nP R2.cP)) hT.l hT.n (touch3 hC.o hT.k)
          have HT2 : Hid (Tmp w (put3 W' gT (.slice R2.aU R2.nU R2.cU) (.int .i64 R2.lo) (.slice R2.aP R2.nP R2.cP)) gN gT R2) := ⟨put3_blk (by have := hT.k; unfold Cnt.cells at this; exact this) _ _ _, touch3 hR2 hT.k, HFR2.out, hT.l, hT.n⟩
          have s2 := ss HC2.out
          clear hb hAR hfn hC hT HFR2 hR2
          unfold put3 at s2
          dsimp only [Cnt.cells]
          go_wp2_with fail
          clear hHeld
          clear W
          rename World => W
          refine hK.out _ _ s (fun hHeld => ?_)
          clear hK K
          try simp only [Act.put, List.setIfInBounds_toArray, List.set_cons_zero, List.set_cons_succ]
          refine takeD (i := 12) (some 49) (v := ?_) rfl rfl (by kernel_rfl) (by kernel_rfl) (by kernel_rfl) (fun _ _ _ h => h) (by kernel_rfl) ?_ (by assumption) ?_
          rotate_left
          · intro wx hSw
            obtain ⟨hS1, hS2⟩ := hSw
            go_simp
            try (with_reducible rfl)
          try simp only [Act.put, List.setIfInBounds_toArray, List.set_cons_zero, List.set_cons_succ]
          refine takeD (i := 13) (some 62) (v := ?_) rfl rfl (by kernel_rfl) (by kernel_rfl) (by kernel_rfl) (fun _ _ _ h => h) (by kernel_rfl) ?_ (by assumption) ?_
          rotate_left
          · intro wx hSw
            obtain ⟨hS1, hS2⟩ := hSw
            go_simp
            try (with_reducible rfl)
          try simp only [Act.put, List.setIfInBounds_toArray, List.set_cons_zero, List.set_cons_succ]
          refine takeD (i := 14) (some 63) (v := ?_) rfl rfl (by kernel_rfl) (by kernel_rfl) (by kernel_rfl) (fun _ _ _ h => h) (by kernel_rfl) ?_ (by assumption) ?_
          rotate_left
          · intro wx hSw
            obtain ⟨hS1, hS2⟩ := hSw
            go_simp
            try (with_reducible rfl)
          try simp only [Act.put, List.setIfInBounds_toArray, List.set_cons_zero, List.set_cons_succ]
          refine wpAnyH_ready (rs := [15]) (by kernel_rfl) (by simp) ?_
          refine AllReadyH.cons rfl (fun K hK => ?_) AllReadyH.nil
          go_simp
          refine hK.out _ _ s2 (fun hHeld => ?_)
          clear hK K
          try simp only [Act.put, List.setIfInBounds_toArray, List.set_cons_zero, List.set_cons_succ]
          refine wpAnyH_ready (rs := [16]) (by kernel_rfl) (by simp) ?_
          refine AllReadyH.cons rfl (fun K hK => ?_) AllReadyH.nil
          go_simp
          refine hK.out _ _ s2 (fun hHeld => ?_)
          clear hK K
          try simp only [Act.put, List.setIfInBounds_toArray, List.set_cons_zero, List.set_cons_succ]
          refine wpAnyH_done (by kernel_rfl) ?_ _
          clear hHeld s s2 cz fz
          have hC := HC2.out
          have hT := HT2.out
          clear HC2 HT2
          unfold put3 at hC hT
          cases fn
          · have HCe : Hid (CS w _ g cv C gN L) := hC
            clear hT
            go_wp2_with fail
            generalize ((W.setCell ⟨gT, 0, none⟩ (.slice R2.aU R2.nU R2.cU)).setCell ⟨gT, 1, none⟩ (.int .i64 R2.lo)).setCell ⟨gT, 2, none⟩ (.slice R2.aP R2.nP R2.cP) = W3 at *
            go_roundw
            case rel => exact ⟨j, L, by first | go_num | (simp; done) | (simp; omega), by omega, hC⟩
            case measure => simp [intOf]; try omega
          · go_wp2_with fail
            generalize ((W.setCell ⟨gT, 0, none⟩ (.slice R2.aU R2.nU R2.cU)).setCell ⟨gT, 1, none⟩ (.int .i64 R2.lo)).setCell ⟨gT, 2, none⟩ (.slice R2.aP R2.nP R2.cP) = W3 at *
            refine (once_any g cv 2 _ hC.rd (by omega) (by omega)).mono ?_
            rintro e W4 ⟨b2, rfl, hR1, hJ1⟩
            replace hT := hT.kept hJ1 hC.hg
            replace hC := hC.kept hR1 hJ1
            clear hR1 hJ1
            cases b2
            · clear hT
              go_wp2_with fail
              go_roundw
              case rel => exact ⟨j, L, by first | go_num | (simp; done) | (simp; omega), by omega, hC⟩
              case measure => simp [intOf]; try omega
            · have cN := (ss hC).2
              have fN := blk_free hC.kN
              have cT := blk_cell hT.k
              unfold Cnt.cells at cT
              have hC9 := hC.put hT.o hT.few
              clear hC hT
              have hC := hC9
              clear hC9
              unfold put3 at hC
              go_wp2_with fail
              go_roundw
              case rel => exact ⟨j, R2, by first | go_num | (simp; done) | (simp; omega), by omega, hC⟩
              case measure => simp [intOf]; try omega
end Go.Proofs.Ytpldaohflojkmaa
