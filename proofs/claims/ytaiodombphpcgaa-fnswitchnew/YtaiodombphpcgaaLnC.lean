/- Lanes in a row that a call owns; one put behind them. -/
import Derived.Test.YtaiodombphpcgaaLnB
namespace Go.Proofs.Ytaiodombphpcgaa
open Go.RowKit
set_option linter.unusedVariables false
set_option linter.unusedSimpArgs false

theorem infoLn : (Try.prog.info? 51).map (fun i => (i.zero, i.size, i.bytes)) = some (some (.agg #[.bool false, .slice none 0 0, .slice none 0 0, .slice none 0 0, .slice none 0 0, .int .i64 0, .bool false, .slice none 0 0]), 8, 144) := by kernel_rfl
def listL (L : Nat → Ln) (n : Nat) : List Value := (List.range n).flatMap fun i => (L i).cells.toList
theorem listL_succ (L : Nat → Ln) (n : Nat) : listL L (n + 1) = listL L n ++ (L n).cells.toList := by simp [listL, List.range_succ]
theorem listL_len (L : Nat → Ln) : ∀ n, (listL L n).length = n * 8
  | 0 => rfl
  | n + 1 => by
    rw [listL_succ, List.length_append, listL_len L n]
    simp [Ln.cells]; omega
theorem listL_ext {L L' : Nat → Ln} : ∀ {n}, (∀ i, i < n → L i = L' i) → listL L n = listL L' n
  | 0, _ => rfl
  | n + 1, h => by rw [listL_succ, listL_succ, listL_ext (fun i hi => h i (by omega)), h n (by omega)]
theorem listL_get (L : Nat → Ln) : ∀ n i j, i < n → j < 8 → (listL L n)[i * 8 + j]? = (L i).cells[j]?
  | 0, i, j, h, _ => by omega
  | n + 1, i, j, h, hj => by
    rw [listL_succ]
    by_cases e : i = n
    · subst e
      rw [List.getElem?_append_right (by rw [listL_len]; omega), listL_len, show i * 8 + j - i * 8 = j by omega]
      simp
    · rw [List.getElem?_append_left (by rw [listL_len]; omega)]
      exact listL_get L n i j (by omega) hj
/-- a slice that holds n lanes, in memory from base on -/
def OwnLs (w : World) (base : Nat) (v : Value) (n : Nat) (L : Nat → Ln) : Prop := w.ownsRow base 51 8 v n (listL L n)
theorem OwnLs.nil (w : World) (base : Nat) (L : Nat → Ln) : OwnLs w base (.slice none 0 0) 0 L := World.ownsRow_nil _ _ _ _
theorem OwnLs.up {w w' : World} {base n : Nat} {v : Value} {L : Nat → Ln} (h : OwnLs w base v n L) (hb : Below w.heap.size w w') : OwnLs w' base v n L := own_below h hb (Nat.le_refl _)
theorem cells_lane_new (w : World) (l : Ln) (t : TypeId) : ∀ j u, (l.cells.toList)[j]? = some u → (w.alloc (.cells l.cells t)).cell? ((⟨w.heap.size, 0, none⟩ : Addr).add j) = some u := by
  intro j u hj
  have hc := blk_cell (blk_new w (.cells l.cells t)) j
  have : (⟨w.heap.size, 0, none⟩ : Addr).add j = ⟨w.heap.size, j, none⟩ := by unfold Addr.add; split <;> simp_all
  rw [this, hc]
  simpa using hj
theorem oneL (l : Ln) : ∀ u ∈ l.cells.toList, u.oneCell' = true := by
  intro u hu
  simp [Ln.cells] at hu
  rcases hu with rfl | rfl | rfl | rfl | rfl | rfl | rfl | rfl <;> rfl
theorem appendLn {w : World} {base n : Nat} {v : Value} {L : Nat → Ln} (l : Ln) (h : OwnLs w base v n L) (hl : n ≤ 1048576) (hb : base ≤ w.heap.size) (ty : TypeId) :
    ∃ g cap w', (Builtin.append_ #[33, 33] ty #[v, .slice (some ⟨w.heap.size, 0, none⟩) 1 1]).run Try.prog (w.alloc (.cells l.cells 51)) = .ok (.slice (some ⟨g, 0, none⟩) (n + 1) cap) w' ∧
      OwnLs w' base (.slice (some ⟨g, 0, none⟩) (n + 1) cap) (n + 1) (upd L n l) ∧ w.grownBy w' v.ownBlock ∧ (some g = v.ownBlock ∨ w.heap.size ≤ g) := by
  obtain ⟨i0, hi, hz0, hz1, hz2⟩ := info_parts infoLn
  obtain ⟨v', w', hr, h2, h3, h4, h5⟩ := run_append_own_at (P := Try.prog) (w.alloc (.cells l.cells 51)) base 33 ty 51 i0 _ 8 144 Try.underlying33 hi hz0 hz1 hz2 rfl (by decide) v n (listL L n) (World.ownsRow.alloc h _) ⟨w.heap.size, 0, none⟩ 1 1 l.cells.toList rfl (cells_lane_new w l _) (oneL l) (by unfold maxLen; omega) (by omega) (by simp; omega)
  rcases h2.2 with ⟨_, h0⟩ | ⟨g, cap, cur, rfl, _⟩
  · omega
  refine ⟨g, cap, w', hr, ?_, ?_, ?_⟩
  · unfold OwnLs
    rw [listL_succ, upd_self, listL_ext (L' := L) (fun i hi => upd_ne _ _ _ (by omega))]
    exact h2
  · exact (World.grownBy_alloc w _ _).trans h3
  · rcases h5 with h5 | h5
    · exact .inl h5
    · right
      simp only [Value.ownBlock, Option.some.injEq] at h5
      rw [h5]; simp
theorem OwnLs.row {w : World} {base n : Nat} {v : Value} {L : Nat → Ln} (h : OwnLs w base v n L) : (v = .slice none 0 0 ∧ n = 0) ∨ ∃ g cap, v = .slice (some ⟨g, 0, none⟩) n cap ∧ base ≤ g ∧ RowTo g 51 (n * 8) (flatL L) (n * 8) w := by
  rcases h.2 with ⟨h1, h2⟩ | ⟨g, cap, cur, hv, hg, hblk, hn, hc, hs, ht⟩
  · exact .inl ⟨h1, h2⟩
  refine .inr ⟨g, cap, hv, hg, cur, hblk, by rw [hs]; omega, fun j hj => ?_⟩
  have hg0 : cur[j]? = (listL L n)[j]? := by
    rw [← ht, List.getElem?_take_of_lt hj, Array.getElem?_toList]
  rw [hg0, show j = j / 8 * 8 + j % 8 by omega, listL_get L n (j / 8) (j % 8) (by omega) (by omega), flatL_at L (j / 8) (j % 8) (by omega)]
/-- the lanes made so far: the row, and what each holds -/
structure MadeL (w : World) (b0 : Nat) (v : Value) (n : Nat) (b : Nat → Nat) (L : Nat → Ln) : Prop where
  row : OwnLs w b0 v n L
  own : ∀ i, i < n → OwnRn w (b i) (L i).R
  sh : ∀ i, i < n → (L i).R.nQ = 2 ∧ (L i).R.nD = 2 ∧ (L i).R.nS = 2 ∧ ∀ j, (L i).R.L j = 0
  u : ∀ i, i < n → VS w (b i) (L i).aU 2 fun _ => .slice none 0 0
  hq : ∀ i, i < n → ∀ x ∈ blkI (L i).R.aQ (L i).R.nQ, x < b (i + 1)
  hd : ∀ i, i < n → ∀ x ∈ blkI (L i).R.aD (L i).R.nD, x < b (i + 1)
  bm : ∀ i, i < n → b i ≤ b (i + 1)
  b0 : b0 = b 0
  bn : b n ≤ w.heap.size
theorem MadeL.start (w : World) (b0 : Nat) (h : b0 ≤ w.heap.size) (L : Nat → Ln) : MadeL w b0 (.slice none 0 0) 0 (fun _ => b0) L :=
  ⟨OwnLs.nil _ _ _, fun i hi => by omega, fun i hi => by omega, fun i hi => by omega, fun i hi => by omega, fun i hi => by omega, fun i hi => by omega, rfl, h⟩
theorem MadeL.up {w w' : World} {b0 n : Nat} {v : Value} {b : Nat → Nat} {L : Nat → Ln} (h : MadeL w b0 v n b L) (hb : Below w.heap.size w w') : MadeL w' b0 v n b L :=
  ⟨h.row.up hb, fun i hi => (h.own i hi).up hb, h.sh, fun i hi => (h.u i hi).up hb, h.hq, h.hd, h.bm, h.b0, Nat.le_trans h.bn hb.size⟩
theorem MadeL.lanes {w : World} {b0 n : Nat} {v : Value} {b : Nat → Nat} {L : Nat → Ln} (h : MadeL w b0 v n b L) : (v = .slice none 0 0 ∧ n = 0) ∨ ∃ g cap, v = .slice (some ⟨g, 0, none⟩) n cap ∧ b0 ≤ g ∧ Lanes w n b g L := by
  rcases h.row.row with h1 | ⟨g, cap, hv, hg, hr⟩
  · exact .inl h1
  · exact .inr ⟨g, cap, hv, hg, hr, h.own, h.sh, h.u, h.hq, h.hd, h.bm, by rw [← h.b0]; exact hg⟩
end Go.Proofs.Ytaiodombphpcgaa
