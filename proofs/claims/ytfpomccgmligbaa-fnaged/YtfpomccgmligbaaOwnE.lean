/- Slices of entries that a call owns. -/
import Derived.Test.YtfpomccgmligbaaEMap
import Derived.Maps.AppendAt
import Derived.Room.AppendFits
namespace Go.Proofs.Ytfpomccgmligbaa
open Go.RowKit
set_option linter.unusedVariables false
set_option linter.unusedSimpArgs false

theorem infoE : (Try.prog.info? 31).map (fun i => (i.zero, i.size, i.bytes)) = some (some (.agg #[.int .i64 0, .int .i64 0, .int .i64 0]), 3, 24) := by kernel_rfl
def cellsE (x : Ent) : List Value := [.int .i64 x.m, .int .i64 x.p, .int .i64 x.t]
def flatE (L : List Ent) : List Value := L.flatMap cellsE
theorem flatE_len : ∀ L : List Ent, (flatE L).length = L.length * 3
  | [] => rfl
  | x :: r => by
    have := flatE_len r
    unfold flatE at this ⊢
    simp [cellsE, this]; omega
theorem flatE_snoc (L : List Ent) (x : Ent) : flatE (L ++ [x]) = flatE L ++ cellsE x := by simp [flatE]
theorem flatE_get : ∀ (L : List Ent) (i : Nat), i < L.length → (flatE L)[i * 3]? = some (.int .i64 (L.getD i default).m) ∧ (flatE L)[i * 3 + 1]? = some (.int .i64 (L.getD i default).p) ∧ (flatE L)[i * 3 + 2]? = some (.int .i64 (L.getD i default).t)
  | [], i, h => by simp at h
  | x :: r, 0, _ => by simp [flatE, cellsE]
  | x :: r, i + 1, h => by
    have hr := flatE_get r i (by simpa using h)
    have e : flatE (x :: r) = .int .i64 x.m :: .int .i64 x.p :: .int .i64 x.t :: flatE r := by simp [flatE, cellsE]
    rw [e, show (i + 1) * 3 = i * 3 + 1 + 1 + 1 by omega]
    simpa using hr
/-- a slice that holds L, in memory from base on -/
def OwnL (w : World) (base : Nat) (v : Value) (L : List Ent) : Prop := w.ownsRow base 31 3 v L.length (flatE L)
theorem OwnL.nil (w : World) (base : Nat) : OwnL w base (.slice none 0 0) [] := World.ownsRow_nil _ _ _ _
theorem cells_three_new (w : World) (x : Ent) (t : TypeId) : ∀ j u, (cellsE x)[j]? = some u → (w.alloc (.cells #[.int .i64 x.m, .int .i64 x.p, .int .i64 x.t] t)).cell? ((⟨w.heap.size, 0, none⟩ : Addr).add j) = some u := by
  intro j u hj
  have hc := blk_cell (blk_new w (.cells #[.int .i64 x.m, .int .i64 x.p, .int .i64 x.t] t))
  match j, hj with
  | 0, hj => simpa [cellsE, Addr.add] using (hc 0).trans hj
  | 1, hj => simpa [cellsE, Addr.add] using (hc 1).trans hj
  | 2, hj => simpa [cellsE, Addr.add] using (hc 2).trans hj
theorem oneE (x : Ent) : ∀ u ∈ cellsE x, u.oneCell' = true := by
  intro u hu
  simp [cellsE] at hu
  rcases hu with rfl | rfl | rfl <;> rfl
/-- append of one entry that lies in a new block: its run -/
theorem appendE {w : World} {base : Nat} {v : Value} {L : List Ent} (x : Ent) (h : OwnL w base v L) (hl : L.length ≤ 1048576) (hb : base ≤ w.heap.size) (ty : TypeId) :
    ∃ g cap w', (Builtin.append_ #[24, 24] ty #[v, .slice (some ⟨w.heap.size, 0, none⟩) 1 1]).run Try.prog (w.alloc (.cells #[.int .i64 x.m, .int .i64 x.p, .int .i64 x.t] 31)) = .ok (.slice (some ⟨g, 0, none⟩) (L.length + 1) cap) w' ∧
      OwnL w' base (.slice (some ⟨g, 0, none⟩) (L.length + 1) cap) (L ++ [x]) ∧ w.grownBy w' v.ownBlock ∧ (some g = v.ownBlock ∨ w.heap.size ≤ g) := by
  obtain ⟨i0, hi, hz0, hz1, hz2⟩ := info_parts infoE
  obtain ⟨v', w', hr, h2, h3, h4, h5⟩ := run_append_own_at (P := Try.prog) (w.alloc (.cells #[.int .i64 x.m, .int .i64 x.p, .int .i64 x.t] 31)) base 24 ty 31 i0 (.agg #[.int .i64 0, .int .i64 0, .int .i64 0]) 3 24 Try.underlying24 hi hz0 hz1 hz2 rfl (by decide) v L.length (flatE L) (World.ownsRow.alloc h _) ⟨w.heap.size, 0, none⟩ 1 1 (cellsE x) rfl (cells_three_new w x _) (oneE x) (by unfold maxLen; omega) (by omega) (by simp; omega)
  rcases h2.2 with ⟨_, h0⟩ | ⟨g, cap, cur, rfl, _⟩
  · omega
  refine ⟨g, cap, w', hr, ?_, ?_, ?_⟩
  · unfold OwnL
    rw [flatE_snoc, List.length_append]
    exact h2
  · exact (World.grownBy_alloc w _ _).trans h3
  · rcases h5 with h5 | h5
    · exact .inl h5
    · right
      simp only [Value.ownBlock, Option.some.injEq] at h5
      rw [h5]; simp
/-- .. as a row that is known cell by cell -/
theorem OwnL.row {w : World} {base : Nat} {v : Value} {L : List Ent} (h : OwnL w base v L) : (v = .slice none 0 0 ∧ L = []) ∨ ∃ g cap, v = .slice (some ⟨g, 0, none⟩) L.length cap ∧ base ≤ g ∧ RowTo g 31 (L.length * 3) (flat fun i => L.getD i default) (L.length * 3) w := by
  rcases h.2 with ⟨h1, h2⟩ | ⟨g, cap, cur, hv, hg, hblk, hn, hc, hs, ht⟩
  · exact .inl ⟨h1, List.eq_nil_of_length_eq_zero h2⟩
  refine .inr ⟨g, cap, hv, hg, cur, hblk, by rw [hs]; omega, fun j hj => ?_⟩
  have hg0 : cur[j]? = (flatE L)[j]? := by
    rw [← ht, List.getElem?_take_of_lt hj, Array.getElem?_toList]
  rw [hg0]
  obtain ⟨i, hi | hi | hi⟩ : ∃ i, j = i * 3 ∨ j = i * 3 + 1 ∨ j = i * 3 + 2 := ⟨j / 3, by omega⟩
  · subst hi; rw [flat0, (flatE_get L i (by omega)).1]
  · subst hi; rw [flat1, (flatE_get L i (by omega)).2.1]
  · subst hi; rw [flat2, (flatE_get L i (by omega)).2.2]
theorem OwnL.read {w : World} {base : Nat} {v : Value} {L : List Ent} (h : OwnL w base v L) : ∃ a cap, v = .slice a L.length cap ∧ RdEnt w a L.length fun i => L.getD i default := by
  rcases h.row with ⟨rfl, rfl⟩ | ⟨g, cap, rfl, _, hr⟩
  · exact ⟨_, _, rfl, RdEnt.nil _ _ _⟩
  · exact ⟨_, _, rfl, hr.ents⟩
theorem OwnL.up {w w' : World} {base : Nat} {v : Value} {L : List Ent} (h : OwnL w base v L) (hb : Below w.heap.size w w') : OwnL w' base v L := own_below h hb (Nat.le_refl _)
theorem OwnL.mono {w : World} {base base' : Nat} {v : Value} {L : List Ent} (h : OwnL w base v L) (hb : base' ≤ base) : OwnL w base' v L := by
  obtain ⟨h1, h2⟩ := h
  refine ⟨h1, h2.imp id ?_⟩
  rintro ⟨g, cap, cur, hv, hg, hr⟩
  exact ⟨g, cap, cur, hv, by omega, hr⟩
end Go.Proofs.Ytfpomccgmligbaa
