/- A table that learns, as the specification goes about it: what stands between its rounds. -/
import Derived.Test.YtfpomccgmligbaaLrn
import Derived.Test.YtfpomccgmligbaaSAged
import Derived.Room.AppendFits
namespace Go.Proofs.Ytfpomccgmligbaa
open Go.RowKit
set_option linter.unusedVariables false
set_option linter.unusedSimpArgs false

/-- append at an operation of a drawn region, its run and its place told -/
theorem wp_appD {o : Oper} {a : Act} {K : Act → World → Prop} {Q : Exit → Act → World → Prop} {W W' : World} {c : Prop} [Decidable c] {E : Prop} (hc : c) (d : Option Tmp) (s x : Operand) (t : TypeId) (vs vx v : Value) (hd : o.dst = d)
    (ho : o.op = .call { callee := .builtin .append, args := #[s, x], argTypes := #[t, t] }) (hty : o.type = t) (hs : a.eval s = vs) (hx : a.eval x = vx)
    (hr : (Builtin.append_ #[t, t] t #[vs, vx]).run Try.prog W = .ok v W') (h : K (a.put d v) W') : if c then o.wp Try.prog a W K Q else E := by
  subst hd
  exact wp_appR hc s x t vs vx v ho hty hs hx hr h
/-- behind k rounds of the first loop -/
def St1 (f : Nat → Ent) (x : Ent) (k : Nat) (d : Bool) (L : List Ent) : Prop :=
  (d = false ∧ (∀ y ∈ entsL k f, y.m < x.m) ∧ L = entsL k f) ∨ (d = true ∧ (∃ i, i < k ∧ x.m ≤ (f i).m) ∧ L = insE x (notM x.m (entsL k f)))
theorem notM_snoc (k : Int) (L : List Ent) (y : Ent) : notM k (L ++ [y]) = if y.m = k then notM k L else notM k L ++ [y] := by
  by_cases h : y.m = k <;> simp [notM, h]
theorem st1_len {f : Nat → Ent} {x : Ent} {k : Nat} {d : Bool} {L : List Ent} (h : St1 f x k d L) : L.length ≤ k + 1 := by
  rcases h with ⟨_, _, rfl⟩ | ⟨_, _, rfl⟩
  · rw [entsL_len]; omega
  · rw [insE_len]
    have := (notM_sub x.m (entsL k f)).length_le
    rw [entsL_len] at this
    omega
theorem low_insE {f : Nat → Ent} {x : Ent} {k : Nat} (h : ∀ y ∈ entsL k f, y.m < x.m) : entsL k f ++ [x] = insE x (notM x.m (entsL k f)) := by
  rw [notM_all (fun y hy => by have := h y hy; omega), insE_last h]
theorem st1_less {f : Nat → Ent} {x : Ent} {k : Nat} {L : List Ent} (h : St1 f x k false L) (hk : (f k).m < x.m) : St1 f x (k + 1) false (L ++ [f k]) := by
  rcases h with ⟨_, h1, rfl⟩ | ⟨h, _⟩
  · refine .inl ⟨rfl, fun y hy => ?_, (entsL_succ k f).symm⟩
    rw [entsL_succ] at hy
    rcases List.mem_append.1 hy with hy | hy
    · exact h1 y hy
    · simp at hy; rw [hy]; exact hk
  · cases h
theorem st1_same {f : Nat → Ent} {x : Ent} {k : Nat} {L : List Ent} (h : St1 f x k false L) (hk : (f k).m = x.m) : St1 f x (k + 1) true (L ++ [x]) := by
  rcases h with ⟨_, h1, rfl⟩ | ⟨h, _⟩
  · refine .inr ⟨rfl, ⟨k, by omega, by omega⟩, ?_⟩
    rw [entsL_succ, notM_snoc, if_pos hk, low_insE h1]
  · cases h
theorem st1_more {f : Nat → Ent} {x : Ent} {k : Nat} {L : List Ent} (h : St1 f x k false L) (hk : x.m < (f k).m) : St1 f x (k + 1) true (L ++ [x] ++ [f k]) := by
  rcases h with ⟨_, h1, rfl⟩ | ⟨h, _⟩
  · refine .inr ⟨rfl, ⟨k, by omega, by omega⟩, ?_⟩
    rw [entsL_succ, notM_snoc, if_neg (by omega), insE_snoc hk, low_insE h1]
  · cases h
theorem st1_done {n : Nat} {f : Nat → Ent} {x : Ent} {k : Nat} {L : List Ent} (ho : entsOk n f) (hn : k < n) (h : St1 f x k true L) : x.m < (f k).m ∧ St1 f x (k + 1) true (L ++ [f k]) := by
  rcases h with ⟨h, _⟩ | ⟨_, ⟨i, hi, h1⟩, rfl⟩
  · cases h
  · have hlt := ho.lt k i hi hn
    have hk : x.m < (f k).m := by omega
    refine ⟨hk, .inr ⟨rfl, ⟨i, by omega, h1⟩, ?_⟩⟩
    rw [entsL_succ, notM_snoc, if_neg (by omega), insE_snoc hk]
theorem st1_end {f : Nat → Ent} {x : Ent} {k : Nat} {d : Bool} {L : List Ent} (h : St1 f x k d L) : (if d then L else L ++ [x]) = insE x (notM x.m (entsL k f)) := by
  rcases h with ⟨rfl, h1, rfl⟩ | ⟨rfl, _, rfl⟩
  · exact low_insE h1
  · rfl
/-- behind k rounds of the second loop -/
def St2 (f : Nat → Ent) (mac : Int) (k : Nat) (old : Int) : Prop :=
  (old = -1 ∧ notM mac (entsL k f) = []) ∨ ∃ o : Nat, o < k ∧ old = o ∧ (f o).m ≠ mac ∧ bestO (notM mac (entsL k f)) = some (f o)
theorem st2_pass {f : Nat → Ent} {mac : Int} {k : Nat} {old : Int} (h : St2 f mac k old) (hk : (f k).m = mac) : St2 f mac (k + 1) old := by
  have e : notM mac (entsL (k + 1) f) = notM mac (entsL k f) := by rw [entsL_succ, notM_snoc, if_pos hk]
  rcases h with ⟨h1, h2⟩ | ⟨o, h1, h2, h3, h4⟩
  · exact .inl ⟨h1, by rw [e]; exact h2⟩
  · exact .inr ⟨o, by omega, h2, h3, by rw [e]; exact h4⟩
theorem st2_first {f : Nat → Ent} {mac : Int} {k : Nat} {old : Int} (h : St2 f mac k old) (hk : (f k).m ≠ mac) (h0 : old < 0) : St2 f mac (k + 1) k := by
  have e : notM mac (entsL (k + 1) f) = notM mac (entsL k f) ++ [f k] := by rw [entsL_succ, notM_snoc, if_neg hk]
  rcases h with ⟨h1, h2⟩ | ⟨o, h1, h2, h3, h4⟩
  · exact .inr ⟨k, by omega, rfl, hk, by rw [e, bestO_snoc, h2]; rfl⟩
  · omega
theorem st2_next {f : Nat → Ent} {mac : Int} {k o : Nat} (h : St2 f mac k o) (hk : (f k).m ≠ mac) : o < k ∧ ((f k).t < (f o).t → St2 f mac (k + 1) k) ∧ (¬ (f k).t < (f o).t → St2 f mac (k + 1) o) := by
  have e : notM mac (entsL (k + 1) f) = notM mac (entsL k f) ++ [f k] := by rw [entsL_succ, notM_snoc, if_neg hk]
  rcases h with ⟨h1, h2⟩ | ⟨o', h1, h2, h3, h4⟩
  · omega
  · obtain rfl : o = o' := by omega
    refine ⟨h1, fun ht => .inr ⟨k, by omega, rfl, hk, ?_⟩, fun ht => .inr ⟨o, by omega, rfl, h3, ?_⟩⟩
    · rw [e, bestO_snoc, h4]; simp [pickO, ht]
    · rw [e, bestO_snoc, h4]; simp [pickO, ht]

/-- the list under way, the entry that is learned in its box -/
structure Out (w wr : World) (v : Value) (L : List Ent) (x : Ent) : Prop where
  own : OwnL wr w.heap.size v L
  below : Below w.heap.size w wr
  box : wr.heap[w.heap.size + 1]? = some (.cells #[.int .i64 x.m, .int .i64 x.p, .int .i64 x.t] 31 (0, 0))
  apart : v.ownBlock ≠ some (w.heap.size + 1)
theorem Out.app {w wr w' : World} {v v' : Value} {L : List Ent} {x y : Ent} {o : Obj} (h : Out w wr v L x) (hown' : w'.ownsRow w.heap.size 31 3 v' (L.length + 1) (flatE L ++ cellsE y)) (hg : (wr.alloc o).grownBy w' v.ownBlock) (hat : v'.ownBlock = v.ownBlock ∨ v'.ownBlock = some (wr.alloc o).heap.size) : Out w w' v' (L ++ [y]) x := by
  have hg' : wr.grownBy w' v.ownBlock := (World.grownBy_alloc wr o _).trans hg
  have hbl := blk_lt h.box
  refine ⟨?_, h.below.grown hg' h.below.size (fun j hj => (World.ownsRow.lt h.own j hj).1), (hg'.block _ hbl (fun e => h.apart e.symm)).trans h.box, ?_⟩
  · unfold OwnL
    rw [flatE_snoc, List.length_append]
    exact hown'
  · intro e
    rcases hat with e2 | e2
    · rw [e2] at e; exact h.apart e
    · rw [e2] at e
      simp at e
      omega
theorem appendR {W : World} {base : Nat} {v : Value} {L M : List Ent} {g q c : Nat} (h : OwnL W base v L) (hb : base ≤ W.heap.size) (hL : L.length ≤ 1000) (hM : M.length ≤ 1000) (hc : ∀ j u, (flatE M)[j]? = some u → W.cell? ⟨g, q + j, none⟩ = some u) :
    ∃ v' W', (Builtin.append_ #[24, 24] 24 #[v, .slice (some ⟨g, q, none⟩) M.length c]).run Try.prog W = .ok v' W' ∧ OwnL W' base v' (L ++ M) ∧ W.grownBy W' v.ownBlock := by
  obtain ⟨i0, hi, hz0, hz1, hz2⟩ := info_parts infoE
  obtain ⟨v', w', hr, h2, h3, h4, h5⟩ := run_append_own_at (P := Try.prog) W base 24 24 31 i0 (.agg #[.int .i64 0, .int .i64 0, .int .i64 0]) 3 24 Try.underlying24 hi hz0 hz1 hz2 rfl (by decide) v L.length (flatE L) h ⟨g, q, none⟩ M.length c (flatE M) (flatE_len M) (fun j u hj => by
    have := hc j u hj
    have e : (⟨g, q, none⟩ : Addr).add j = ⟨g, q + j, none⟩ := by unfold Addr.add; split <;> simp_all
    rw [e]; exact this) (fun u hu => by
    obtain ⟨y, _, hy⟩ := List.mem_flatMap.1 hu
    exact oneE y u hy) (by unfold maxLen; omega) (by omega) hb
  refine ⟨v', w', hr, ?_, h3⟩
  unfold OwnL
  rw [show flatE (L ++ M) = flatE L ++ flatE M by simp [flatE], List.length_append]
  exact h2
theorem own_succ {w : World} {base sz n : Nat} {e : TypeId} {v : Value} {xs : List Value} (h : w.ownsRow base e sz v (n + 1) xs) : ∃ g cap, v = .slice (some ⟨g, 0, none⟩) (n + 1) cap := by
  rcases h.2 with ⟨_, h0⟩ | ⟨g, cap, cur, hv, _⟩
  · omega
  · exact ⟨g, cap, hv⟩
theorem flatE_app (A B : List Ent) : flatE (A ++ B) = flatE A ++ flatE B := by simp [flatE]
theorem flatE_take {M : List Ent} {o j : Nat} {u : Value} (h : (flatE (M.take o))[j]? = some u) : (flatE M)[j]? = some u := by
  have e : flatE M = flatE (M.take o) ++ flatE (M.drop o) := by rw [← flatE_app, List.take_append_drop]
  rw [e, List.getElem?_append_left (List.getElem?_eq_some_iff.1 h).1]
  exact h
theorem flatE_drop {M : List Ent} {o j : Nat} {u : Value} (ho : o ≤ M.length) (h : (flatE (M.drop o))[j]? = some u) : (flatE M)[o * 3 + j]? = some u := by
  have e : flatE M = flatE (M.take o) ++ flatE (M.drop o) := by rw [← flatE_app, List.take_append_drop]
  have e2 : (flatE (M.take o)).length = o * 3 := by rw [flatE_len, List.length_take, Nat.min_eq_left ho]
  rw [e, List.getElem?_append_right (by omega), e2]
  simpa using h
theorem OwnL.at {W : World} {base g N cap : Nat} {M : List Ent} (h : OwnL W base (.slice (some ⟨g, 0, none⟩) N cap) M) {j : Nat} {u : Value} (hj : (flatE M)[j]? = some u) : W.cell? ⟨g, j, none⟩ = some u := by
  have := World.ownsRow.cells h (g := g) rfl j u hj
  have e : (⟨g, 0, none⟩ : Addr).add j = ⟨g, j, none⟩ := by unfold Addr.add; split <;> simp_all
  rw [e] at this; exact this
theorem cutRun {W : World} {base g N cap : Nat} {M : List Ent} {o : Nat} (q : Nat) (h : OwnL W base (.slice (some ⟨g, 0, none⟩) N cap) M) (hN : M.length = N) (hN9 : N ≤ 1000) (ho : o < N) (hb : base ≤ W.heap.size) (hq : q = (o + 1) * 3 ∨ N = o + 1) (c1 c2 : Nat) :
    ∃ v1 W2 v2 W3, (Builtin.append_ #[24, 24] 24 #[.slice (some ⟨W.heap.size, 0, none⟩) 0 0, .slice (some ⟨g, 0, none⟩) o c1]).run Try.prog (W.alloc (.cells #[] 31)) = .ok v1 W2 ∧
      (Builtin.append_ #[24, 24] 24 #[v1, .slice (some ⟨g, q, none⟩) (N - (o + 1)) c2]).run Try.prog W2 = .ok v2 W3 ∧ OwnL W3 base v2 (M.take o ++ M.drop (o + 1)) ∧ Below base W W3 := by
  have hgl := (World.ownsRow.lt h g rfl).2
  have l1 : (M.take o).length = o := by rw [List.length_take]; omega
  have l2 : (M.drop (o + 1)).length = N - (o + 1) := by rw [List.length_drop]; omega
  have hE := OwnL.empty W base hb
  have b1 : Below W.heap.size W (W.alloc (.cells #[] 31)) := (Below.refl _ _).alloc (Nat.le_refl _) _
  have h1 := h.up b1
  obtain ⟨v1, W2, r1, o1, g1⟩ := appendR (M := M.take o) (g := g) (q := 0) (c := c1) hE (by have := b1.size; omega) (by simp) (by omega) (fun j u hj => by rw [Nat.zero_add]; exact h1.at (flatE_take hj))
  rw [l1] at r1
  have hb2 : W2.heap[g]? = (W.alloc (.cells #[] 31)).heap[g]? := g1.block g (by have := b1.size; omega) (by simp [Value.ownBlock]; omega)
  have h2 : OwnL W2 base (.slice (some ⟨g, 0, none⟩) N cap) M := by
    obtain ⟨x1, x2⟩ := h1
    refine ⟨x1, x2.imp id ?_⟩
    rintro ⟨g', cap', cur, e, hg', hbk, hr⟩
    cases e
    exact ⟨_, _, cur, rfl, hg', hb2.trans hbk, hr⟩
  have B2 : Below base W W2 := ((b1.mono hb).grown g1 (by have := b1.size; omega) (fun k e => by cases e; exact hb))
  obtain ⟨v2, W3, r2, o2, g2⟩ := appendR (M := M.drop (o + 1)) (g := g) (q := q) (c := c2) o1 (Nat.le_trans hb B2.size) (by simp; omega) (by omega) (fun j u hj => by
    rcases hq with rfl | hq
    · exact h2.at (flatE_drop (by omega) hj)
    · rw [List.drop_eq_nil_of_le (by omega)] at hj
      simp [flatE] at hj)
  rw [l2] at r2
  refine ⟨v1, W2, v2, W3, r1, r2, by simpa using o2, B2.grown g2 (Nat.le_trans hb B2.size) (fun k e => (World.ownsRow.lt o1 k e).1)⟩
end Go.Proofs.Ytfpomccgmligbaa
