/- What the specification picks: the way to its loop. -/
import Derived.Test.YtnfcmiiibkbmfaaPkS1
import Derived.Test.YtnfcmiiibkbmfaaRnCpS
namespace Go.Proofs.Ytnfcmiiibkbmfaa
open Go.RowKit
set_option linter.unusedVariables false
set_option linter.unusedSimpArgs false

theorem infoRn : (Try.prog.info? 27).map (·.size) = some 5 := by kernel_rfl
/-- a whole round out of its block, and into one -/
theorem wpList_ldR {ops : Array Oper} {rest : List Oper} {o : Oper} {a : Act} {w : World} {Q : Exit → Act → World → Prop} (hg : o.guard = none) (x : Operand) (ho : o.op = .load 27 x) (g : Nat) (hx : a.eval x = .pointer (some ⟨g, 0, none⟩))
    (cs : Array Value) (hk : w.heap[g]? = some (.cells cs 27 (0, 0))) (hs : cs.size = 5) (h : wpList Try.prog ops Q rest (a.put o.dst (.agg cs)) w) : wpList Try.prog ops Q (o :: rest) a w :=
  wpList_plain hg fun _ hK => wp_load_row 27 x ho g hx 27 cs (0, 0) _ hk Try.underlying27 rfl (by rw [hs]; exact infoRn) (hK _ _ h)
theorem wpList_stR {ops : Array Oper} {rest : List Oper} {o : Oper} {a : Act} {w : World} {Q : Exit → Act → World → Prop} (hg : o.guard = none) (x y : Operand) (ho : o.op = .store 27 x y) (g : Nat) (hx : a.eval x = .pointer (some ⟨g, 0, none⟩))
    (cs : Array Value) (hy : a.eval y = .agg cs) (old : Array Value) (hk : w.heap[g]? = some (.cells old 27 (0, 0))) (hs : cs.size = 5) (ho2 : old.size = 5) (h1 : cs.all (·.oneCell') = true) (h : wpList Try.prog ops Q rest (a.put o.dst undef) (w.setRow g cs)) : wpList Try.prog ops Q (o :: rest) a w :=
  wpList_plain hg fun _ hK => wp_store_row 27 x y ho g cs hx hy 27 old hk (by rw [hs]; exact infoRn) (by omega) h1 (hK _ _ h)
theorem setRow_blkR {w : World} {g : Nat} {old cs : Array Value} {t : TypeId} (h : w.heap[g]? = some (.cells old t (0, 0))) : (w.setRow g cs).heap[g]? = some (.cells cs t (0, 0)) := by
  simp [World.setRow, Array.getElem?_modify, h]
theorem setRow_touchR (w : World) (g : Nat) (cs : Array Value) : Touch [g] w (w.setRow g cs) := ⟨rfl, rfl, rfl, by simp [World.setRow], fun k _ hn => by
  have : ¬ g = k := fun e => hn (by simp [e])
  simp [World.setRow, Array.getElem?_modify, this]⟩
theorem Rnd.cells_one (R : Rnd) : R.cells.all (·.oneCell') = true := by simp [Rnd.cells, Value.oneCell']
/-- a round on its way: its box, its rows, what it is -/
structure Rep (wr : World) (base gb gD : Nat) (X cur : Rnd) : Prop where
  box : wr.heap[gb]? = some (.cells cur.cells 27 (0, 0))
  own : OwnRn wr base cur
  like : Alike X cur
  ad : cur.aD = some ⟨gD, 0, none⟩
  cap : ∀ i, i < cur.nS → cur.L i ≤ cur.C i
def flagOf : Option Value → Bool
  | some (.bool b) => b
  | _ => false
/-- what is left, read off the world -/
def leftW (n gb gD c0 : Nat) (wr : World) : Nat :=
  (5 - intOf ((wr.cell? ⟨gD, c0, none⟩).getD undef)).toNat * n +
    (if (intOf ((wr.cell? ⟨gb, 2, none⟩).getD undef)).toNat = c0 then (if flagOf (wr.cell? ⟨gb, 3, none⟩) = true then 0 else n) else (c0 + n - (intOf ((wr.cell? ⟨gb, 2, none⟩).getD undef)).toNat) % n)
theorem Rep.left {wr : World} {base gb gD : Nat} {X cur : Rnd} (h : Rep wr base gb gD X cur) {c0 : Nat} (hc : c0 < X.nQ) (hd : X.nD = X.nQ) : leftW X.nQ gb gD c0 wr = leftR X c0 := by
  have b := blk_cell h.box
  have c2 : wr.cell? ⟨gb, 2, none⟩ = some (.int .i64 X.turn) := by rw [b, ← h.like.t]; rfl
  have c3 : wr.cell? ⟨gb, 3, none⟩ = some (.bool X.fresh) := by rw [b, ← h.like.f]; rfl
  have cd : wr.cell? ⟨gD, c0, none⟩ = some (.int .i64 (X.d c0)) := by
    obtain ⟨g, o, e, hcell⟩ := h.own.rd.d c0 (by rw [h.like.nD, hd]; exact hc)
    rw [h.ad] at e
    cases e
    rw [Nat.zero_add] at hcell
    rw [hcell, h.like.d]
  unfold leftW leftR farR Rnd.now
  rw [c2, c3, cd]
  rfl
theorem boxed2p {w wi : World} {A B : Array Value} {t s : TypeId} (h : Below (w.heap.size + 2) ((w.alloc (.cells A t)).alloc (.cells B s)) wi) : (∀ o, wi.cell? ⟨w.heap.size, o, none⟩ = A[o]?) ∧ ∀ o, wi.cell? ⟨w.heap.size + 1, o, none⟩ = B[o]? := by
  have k1 : wi.heap[w.heap.size]? = some (.cells A t (0, 0)) := (h.block _ (by omega)).trans ((blk_old _ (by simp)).trans (blk_new _ _))
  have k2 : wi.heap[w.heap.size + 1]? = some (.cells B s (0, 0)) := by
    refine (h.block _ (by omega)).trans ?_
    have := blk_new (w.alloc (.cells A t)) (.cells B s)
    simpa using this
  exact ⟨blk_cell k1, blk_cell k2⟩
theorem under2p {w wi : World} {o o' : Obj} (h : Below (w.heap.size + 2) ((w.alloc o).alloc o') wi) : Below w.heap.size w wi :=
  (((Below.refl _ _).alloc (Nat.le_refl _) o).alloc (by simp) o').trans (h.mono (by omega))
theorem upper2p {w wi : World} {o o' : Obj} (h : Below (w.heap.size + 2) ((w.alloc o).alloc o') wi) : w.heap.size + 2 ≤ wi.heap.size := by
  have := h.size
  simpa using this
theorem next2p {w wi wj : World} {o o' : Obj} (h : Below (w.heap.size + 2) ((w.alloc o).alloc o') wi) (k : Below wi.heap.size wi wj) : Below (w.heap.size + 2) ((w.alloc o).alloc o') wj :=
  h.trans (k.mono (upper2p h))
end Go.Proofs.Ytnfcmiiibkbmfaa
