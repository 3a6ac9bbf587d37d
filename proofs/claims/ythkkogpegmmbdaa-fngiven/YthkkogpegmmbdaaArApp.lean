/- A list of numbers behind another one. -/
import Derived.Test.YthkkogpegmmbdaaArDraw2
namespace Go.Proofs.Ythkkogpegmmbdaa
open Go.RowKit
set_option linter.unusedVariables false
set_option linter.unusedSimpArgs false

theorem app_vrow {W : World} {base b2 g0 cap0 : Nat} {vx : Value} {C L : List Int} (hown : W.ownsRow base 2 1 (.slice (some ⟨g0, 0, none⟩) C.length cap0) C.length (C.map (.int .i64))) (hx : VRow 2 W b2 vx L.length (intsOf L)) (hl : C.length + L.length ≤ 1000) (hbase : base ≤ W.heap.size) :
    ∃ v' W', (Builtin.append_ #[24, 24] 24 #[.slice (some ⟨g0, 0, none⟩) C.length cap0, vx]).run Try.prog W = .ok v' W' ∧ W'.ownsRow base 2 1 v' (C ++ L).length ((C ++ L).map (.int .i64)) ∧ (∀ B w0, Below B w0 W → B ≤ g0 → B ≤ W.heap.size → Below B w0 W') ∧ (∀ b, b < W.heap.size → b ≠ g0 → W'.heap[b]? = W.heap[b]?) ∧ (v'.ownBlock = some g0 ∨ v'.ownBlock = some W.heap.size) := by
  obtain ⟨ii, hi, hz0, hz1, hz2⟩ := info_parts info2
  obtain ⟨a, cap, rfl, ⟨rfl, hn⟩ | ⟨g, rfl, hg2, hR⟩⟩ := hx
  · have hL0 : L = [] := List.eq_nil_of_length_eq_zero hn
    subst hL0
    have h0 := hown
    obtain ⟨hl', h | ⟨g', cap', cur, hv', hge, hblk, hn', hc, hs, ht⟩⟩ := hown
    · cases h.1
    · cases hv'
      have hrun := run_append_room_src (P := Try.prog) W 24 24 24 2 ii Try.underlying24 hi g0 0 C.length cap0 (.slice none 0 cap) 0 [] (Src.ofNil W Try.underlying24 cap) (by omega) (by simp) (by simp)
      refine ⟨_, _, hrun, ?_, fun B w0 hB _ _ => ?_, fun b hb _ => ?_, .inl rfl⟩
      · simpa [World.setCells] using h0
      · simpa [World.setCells] using hB
      · simp [World.setCells]
  · have hadd : ∀ (o j : Nat), (⟨g, o, none⟩ : Addr).add j = ⟨g, o + j, none⟩ := fun o j => by unfold Addr.add; split <;> simp_all
    obtain ⟨va, W2, hrun, hown2, hgrow, _, hblk⟩ := run_append_own_at (P := Try.prog) (w := W) base 24 24 2 ii (.int .i64 0) 1 8 Try.underlying24 hi hz0 hz1 hz2 rfl (by decide) _ C.length _ hown ⟨g, 0, none⟩ L.length cap (L.map (.int .i64)) (by simp) (fun j u hu => by
      rw [List.getElem?_map] at hu
      by_cases hj : j < L.length
      · rw [List.getElem?_eq_getElem hj] at hu
        rw [hadd, Nat.zero_add, hR.at j hj, ← hu]
        simp [intsOf, List.getD_eq_getElem?_getD, List.getElem?_eq_getElem hj]
      · rw [List.getElem?_eq_none (by omega)] at hu
        cases hu) (by intro u hu; rw [List.mem_map] at hu; obtain ⟨y, _, rfl⟩ := hu; rfl) (by unfold maxLen; omega) (by omega) hbase
    refine ⟨va, W2, hrun, by rw [List.length_append, List.map_append]; exact hown2, fun B w0 hB h1 h2 => hB.grown hgrow h2 (fun k hk => ?_), fun b hb hne => hgrow.block b hb (fun e => ?_), hblk⟩
    · simp only [Value.ownBlock, Option.some.injEq] at hk
      omega
    · simp only [Value.ownBlock, Option.some.injEq] at e
      omega
theorem own_some {w : World} {base : Nat} {v : Value} {C : List Int} (h : w.ownsRow base 2 1 v C.length (C.map (.int .i64))) (h1 : 1 ≤ C.length) : ∃ g cap, v = .slice (some ⟨g, 0, none⟩) C.length cap ∧ base ≤ g := by
  obtain ⟨hl, h | ⟨g', cap', cur, hv', hge, _⟩⟩ := h
  · omega
  · exact ⟨g', cap', hv', hge⟩
theorem own_ltI {w : World} {base g cap : Nat} {C : List Int} (h : w.ownsRow base 2 1 (.slice (some ⟨g, 0, none⟩) C.length cap) C.length (C.map (.int .i64))) : g < w.heap.size := by
  obtain ⟨hl, h | ⟨g', cap', cur, hv', hge, hblk, _⟩⟩ := h
  · cases h.1
  · cases hv'; exact blk_lt hblk
theorem own_new {V : World} : (V.alloc (.cells #[] 2)).ownsRow V.heap.size 2 1 (.slice (some ⟨V.heap.size, 0, none⟩) ([] : List Int).length 0) ([] : List Int).length (([] : List Int).map (.int .i64)) :=
  ⟨by simp, .inr ⟨_, _, #[], rfl, Nat.le_refl _, blk_new V _, by simp, by unfold maxLen; omega, by simp, by simp⟩⟩
end Go.Proofs.Ythkkogpegmmbdaa
