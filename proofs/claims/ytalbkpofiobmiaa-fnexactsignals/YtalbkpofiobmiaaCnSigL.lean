/- The two sides of Signals at a copy; what such a call has laid. -/
import Derived.Test.YtalbkpofiobmiaaCnSigS
namespace Go.Proofs.Ytalbkpofiobmiaa
open Go.RowKit
set_option linter.unusedVariables false
set_option linter.unusedSimpArgs false

theorem sigM_copy {C : Cfg} {N : Cnt} {ok : Bool} {gU gP : Nat} : AlikeC (sigM C N ok) (sigM C (N.copy gU gP) ok) := by
  cases ok
  · exact AlikeC.refl _
  · exact ⟨rfl, rfl, rfl, rfl, rfl⟩
theorem sigM_small {C : Cfg} {N : Cnt} {ok : Bool} (h : N.Small) : (sigM C N ok).Small := by
  cases ok
  · exact zeroC_small
  · exact ⟨h.u, h.p⟩
theorem toldC_len {C : Cfg} {N : Cnt} {ok : Bool} (h : N.Small) : (toldC C N ok).length ≤ 1048576 := by
  cases ok
  · exact Nat.zero_le _
  · exact Nat.le_trans (toldL_len C N.u N.p N.nU) h.u
theorem sSig_any (C : Cfg) (N : Cnt) (gU gP nT : Nat) (f : Nat → Int) (w : World) (hs : N.Small) (h : RdCnt w (N.copy gU gP)) (ok : Bool) (hok : ok = true ↔ Cnt.Ok C N) (hn : nT = (toldC C N ok).length) (hf : f = fun i => (toldC C N ok).getD i 0) :
    Calls Try.prog 25 #[.agg C.cells, .agg (N.copy gU gP).cells] w fun e w' => ∃ L aT cT, e = .returned (.tuple #[.agg L.cells, .slice aT nT cT]) ∧ SigAns w w' (sigM C N ok) L aT nT f := by
  refine (sSignals_any C (N.copy gU gP) w (copy_smallC hs).fit h ok (hok.trans (copy_alike N gU gP).ok.symm)).mono ?_
  rintro e w' ⟨L, aT, cT, rfl, hS⟩
  subst hn hf
  exact ⟨L, aT, cT, rfl, hS.o, hS.t, hS.ap, hS.b, sigM_copy.trans hS.a⟩
theorem iSig_any (C : Cfg) (N : Cnt) (gU gP nT : Nat) (f : Nat → Int) (w : World) (hs : N.Small) (h : RdCnt w (N.copy gU gP)) (ok : Bool) (hok : ok = true ↔ Cnt.Ok C N) (hn : nT = (toldC C N ok).length) (hf : f = fun i => (toldC C N ok).getD i 0) :
    Calls Try.prog 26 #[.agg C.cells, .agg (N.copy gU gP).cells] w fun e w' => ∃ L aT cT, e = .returned (.tuple #[.agg L.cells, .slice aT nT cT]) ∧ SigAns w w' (sigM C N ok) L aT nT f := by
  refine (iSignals_any C (N.copy gU gP) w (copy_smallC hs).fit h ok (hok.trans (copy_alike N gU gP).ok.symm)).mono ?_
  rintro e w' ⟨L, aT, cT, rfl, hS⟩
  subst hn hf
  exact ⟨L, aT, cT, rfl, hS.o, hS.t, hS.ap, hS.b, sigM_copy.trans hS.a⟩
/-- counts and a list of numbers that a call has laid, and the counts' place -/
structure AnsS (W0 wc : World) (M : Cnt) (nT : Nat) (f : Nat → Int) (gA : Nat) (R : Cnt) (aT : Option Addr) : Prop where
  b : Below W0.heap.size W0 wc
  g : W0.heap.size ≤ gA
  k : wc.heap[gA]? = some (.cells R.cells 34 (0, 0))
  o : OwnCn wc W0.heap.size R
  a : AlikeC M R
  t : VT 2 wc W0.heap.size aT nT (fun i => .int .i64 (f i))
  ap : ∀ x ∈ blkV aT nT, x ∉ rowsT R
theorem AnsS.of {W0 W : World} {M R : Cnt} {gA nT : Nat} {f : Nat → Int} {aT : Option Addr} {cs : Array Value} {x y z : Value} (hcs : cs = #[x, y, z]) (hb : Below W0.heap.size W0 W) (hg : W0.heap.size ≤ gA) (hk : W.heap[gA]? = some (.cells cs 34 (0, 0))) (ho : OwnCn W W0.heap.size R) (ha : AlikeC M R) (ht : VT 2 W W0.heap.size aT nT (fun i => .int .i64 (f i))) (hap : ∀ x ∈ blkV aT nT, x ∉ rowsT R) :
    AnsS W0 (put3 W gA (.slice R.aU R.nU R.cU) (.int .i64 R.lo) (.slice R.aP R.nP R.cP)) M nT f gA R aT := by
  have h := Ans.of hcs hb hg hk ho ha
  exact ⟨h.b, h.g, h.k, h.o, h.a, ht.touchS (put3_touch _ _ _ _ _) (fun x hx hy => by
    have e := List.mem_singleton.1 hy
    subst e
    exact VT.boxOut ht (by decide) hk hx), hap⟩
theorem OwnCn.touchS {w w' : World} {base : Nat} {N : Cnt} {S : List Nat} (h : OwnCn w base N) (ht : Touch S w w') (hS : ∀ x ∈ S, x ∉ rowsT N) : OwnCn w' base N :=
  ⟨h.u.touchS ht (fun x hx hy => hS x hy (List.mem_append_left _ hx)), h.p.touchS ht (fun x hx hy => hS x hy (List.mem_append_right _ hx))⟩
theorem rowsT_marked (N : Cnt) (m : Nat) : rowsT (N.marked m) = rowsT N := rfl
end Go.Proofs.Ytalbkpofiobmiaa
