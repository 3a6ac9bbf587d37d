/- What a call that answers counts has laid; counts marked, the touched blocks told. -/
import Derived.Test.YtpldaohflojkmaaCnAdm
namespace Go.Proofs.Ytpldaohflojkmaa
open Go.RowKit
set_option linter.unusedVariables false
set_option linter.unusedSimpArgs false

/-- an answer of counts that a call has laid, and its place -/
structure Ans (W0 wc : World) (M : Cnt) (gA : Nat) (R : Cnt) : Prop where
  b : Below W0.heap.size W0 wc
  g : W0.heap.size ≤ gA
  k : wc.heap[gA]? = some (.cells R.cells 29 (0, 0))
  o : OwnCn wc W0.heap.size R
  a : AlikeC M R
theorem Ans.of {W0 W : World} {M R : Cnt} {gA : Nat} {cs : Array Value} {x y z : Value} (hcs : cs = #[x, y, z]) (hb : Below W0.heap.size W0 W) (hg : W0.heap.size ≤ gA) (hk : W.heap[gA]? = some (.cells cs 29 (0, 0))) (ho : OwnCn W W0.heap.size R) (ha : AlikeC M R) :
    Ans W0 (put3 W gA (.slice R.aU R.nU R.cU) (.int .i64 R.lo) (.slice R.aP R.nP R.cP)) M gA R := by
  subst hcs
  exact ⟨hb.trans ((put3_touch _ _ _ _ _).below hb.size (fun k hk => by simp at hk; omega)), hg, put3_blk hk _ _ _, touch3 ho hk, ha⟩
def rowsT (N : Cnt) : List Nat := blkV N.aU N.nU ++ blkV N.aP N.nP
theorem OwnCn.tbl {w : World} {base : Nat} {N : Cnt} (h : OwnCn w base N) : ∀ x ∈ rowsT N, base ≤ x ∧ x < w.heap.size := by
  intro x hx
  rcases List.mem_append.1 hx with hx | hx
  · exact h.u.blk x hx
  · exact h.p.blk x hx
theorem OwnCn.boxOut {w : World} {base : Nat} {N : Cnt} (h : OwnCn w base N) {g : Nat} {cs : Array Value} {t : TypeId} (h2 : 2 ≠ t) (h4 : 4 ≠ t) (hk : w.heap[g]? = some (.cells cs t (0, 0))) : g ∉ rowsT N := by
  intro hx
  rcases List.mem_append.1 hx with hx | hx
  · exact VT.boxOut h.u h2 hk hx
  · exact VT.boxOut h.p h4 hk hx
theorem formP_copy {C : Cfg} {N : Cnt} {a b c : Int} {gU gP : Nat} : formP C (N.copy gU gP) a b c ↔ formP C N a b c :=
  ⟨fun h => ⟨(copy_alike N gU gP).ok.1 h.ok, h.port, h.prio, h.cells⟩, fun h => ⟨(copy_alike N gU gP).ok.2 h.ok, h.port, h.prio, h.cells⟩⟩
theorem addN_copy {N : Cnt} {a b y : Int} {gU gP : Nat} : AlikeC (addN N a b y) (addN (N.copy gU gP) a b y) := by
  unfold addN
  split <;> exact ⟨rfl, rfl, rfl, rfl, rfl⟩
theorem AlikeC.orZero {A B : Cnt} (h : AlikeC A B) (ok : Bool) : AlikeC (orZero A ok) (Go.Proofs.Ytpldaohflojkmaa.orZero B ok) := by
  cases ok
  · exact AlikeC.refl _
  · exact h
theorem zeroC_small : zeroC.Small := ⟨Nat.zero_le _, Nat.zero_le _⟩
theorem addN_small {N : Cnt} {a b y : Int} (h : N.Small) : (addN N a b y).Small := by
  unfold addN
  split <;> exact ⟨h.u, h.p⟩
theorem orZero_small {N : Cnt} {ok : Bool} (h : N.Small) : (orZero N ok).Small := by
  cases ok
  · exact zeroC_small
  · exact h
theorem addOk_copy {C : Cfg} {N : Cnt} {a b c y : Int} {gU gP : Nat} : (formP C (N.copy gU gP) a b c ∧ Cnt.Ok C (addN (N.copy gU gP) a b y)) ↔ (formP C N a b c ∧ Cnt.Ok C (addN N a b y)) :=
  and_congr formP_copy (addN_copy (gU := gU) (gP := gP)).ok
end Go.Proofs.Ytpldaohflojkmaa
