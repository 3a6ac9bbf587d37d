/- What a call that answers counts has laid; counts marked, the touched blocks told. -/
import Derived.Test.YtalbkpofiobmiaaCnAdm
namespace Go.Proofs.Ytalbkpofiobmiaa
open Go.RowKit
set_option linter.unusedVariables false
set_option linter.unusedSimpArgs false

/-- an answer of counts that a call has laid, and its place -/
structure Ans (W0 wc : World) (M : Cnt) (gA : Nat) (R : Cnt) : Prop where
  b : Below W0.heap.size W0 wc
  g : W0.heap.size ≤ gA
  k : wc.heap[gA]? = some (.cells R.cells 34 (0, 0))
  o : OwnCn wc W0.heap.size R
  a : AlikeC M R
theorem Ans.of {W0 W : World} {M R : Cnt} {gA : Nat} {cs : Array Value} {x y z : Value} (hcs : cs = #[x, y, z]) (hb : Below W0.heap.size W0 W) (hg : W0.heap.size ≤ gA) (hk : W.heap[gA]? = some (.cells cs 34 (0, 0))) (ho : OwnCn W W0.heap.size R) (ha : AlikeC M R) :
    Ans W0 (put3 W gA (.slice R.aU R.nU R.cU) (.int .i64 R.lo) (.slice R.aP R.nP R.cP)) M gA R := by
  subst hcs
  exact ⟨hb.trans ((put3_touch _ _ _ _ _).below hb.size (fun k hk => by simp at hk; omega)), hg, put3_blk hk _ _ _, touch3 ho hk, ha⟩
def rowsT (N : Cnt) : List Nat := blkV N.aU N.nU ++ blkV N.aP N.nP
theorem OwnCn.tbl {w : World} {base : Nat} {N : Cnt} (h : OwnCn w base N) : ∀ x ∈ rowsT N, base ≤ x ∧ x < w.heap.size := by
  intro x hx
  rcases List.mem_append.1 hx with hx | hx
  · exact h.u.blk x hx
  · exact h.p.blk x hx
theorem OwnCn.boxOut {w : World} {base : Nat} {N : Cnt} (h : OwnCn w base N) {g : Nat} {cs : Array Value} {t : TypeId} (h2 : 2 ≠ t) (h4 : 4 ≠ t) (hk : w.heap[g]? = some (.cells cs t (0, 0))) : g ∉ rowsT N := by
  intro hx
  rcases List.mem_append.1 hx with hx | hx
  · exact VT.boxOut h.u h2 hk hx
  · exact VT.boxOut h.p h4 hk hx
set_option maxHeartbeats 1000000 in
theorem markCountsT_any (N : Cnt) (m base : Nat) (w : World) (h : OwnCn w base N) (hs : N.Small) (hm : m ≤ 1000) (hb : base ≤ w.heap.size) :
    Calls Try.prog 19 #[.agg N.cells, .int .i64 m] w fun e w' => e = .returned (.int .i64 (N.total m : Nat)) ∧ OwnCn w' base (N.marked m) ∧ Touch (rowsT N) w w' := by
  obtain ⟨aU, nU, cU, u, lo, aP, nP, cP, p⟩ := N
  obtain ⟨wb, hwb⟩ : ∃ wb, wb = w.alloc (.cells #[.slice aU nU cU, .int .i64 lo, .slice aP nP cP] 34) := ⟨_, rfl⟩
  have HB : Hid (Below w.heap.size w wb) := by rw [Hid, hwb]; exact (Below.refl _ _).alloc (Nat.le_refl _) _
  have H0 : Hid (OwnCn wb base ⟨aU, nU, cU, u, lo, aP, nP, cP, p⟩) := h.up HB.out
  have HX0 : Hid (wb.heap[w.heap.size]? = some (.cells #[.slice aU nU cU, .int .i64 lo, .slice aP nP cP] 34 (0, 0))) := by rw [Hid, hwb]; exact blk_new _ _
  have cX := blk_cell HX0.out
  have hs1 : nU ≤ 1048576 := hs.u
  have hs2 : nP ≤ 1048576 := hs.p
  clear h hs
  unfold Cnt.cells
  dsimp only
  go_enter Try.func19, Try.ntmps19
  go_wp2_with fail
  rw [← hwb]
  clear hwb
  refine (markVInts_any aU nU cU m base _ _ H0.out.u hs1 (by omega)).mono ?_
  rintro e w1 ⟨rfl, hv1, ht1⟩
  have HV1 : Hid (VT 2 w1 base aU nU (fun i => .int .i64 ((m + i : Nat) : Int))) := hv1
  have HP1 : Hid (VT 4 w1 base aP nP (fun i => .bool (p i))) := VT.touchS H0.out.p ht1 (VT.apart H0.out.p H0.out.u (by decide))
  have HX1 : Hid (w1.heap[w.heap.size]? = some (.cells #[.slice aU nU cU, .int .i64 lo, .slice aP nP cP] 34 (0, 0))) := (ht1.block _ (blk_lt HX0.out) (VT.boxOut H0.out.u (by decide) HX0.out)).trans HX0.out
  have HT1 : Hid (Touch (blkV aU nU) wb w1) := ht1
  clear hv1 ht1 cX HX0 H0
  have cX := blk_cell HX1.out
  go_wp2_with fail
  refine (markVBools_any aP nP cP (m + nU) base _ _ HP1.out hs2 (by omega)).mono ?_
  rintro e w2 ⟨rfl, hv2, ht2⟩
  have H2 : OwnCn w2 base (Cnt.marked ⟨aU, nU, cU, u, lo, aP, nP, cP, p⟩ m) := ⟨HV1.out.touchS ht2 (VT.apart HV1.out HP1.out (by decide)), hv2⟩
  have HT : Hid (Touch (blkV aU nU ++ blkV aP nP) w w2) :=
    ((Touch.ofBelow HB.out).trans (HT1.out.mono (fun x hx => List.mem_append_left _ hx))).trans (ht2.mono (fun x hx => List.mem_append_right _ hx))
  clear hv2 ht2 cX HX1 HV1 HP1
  go_wp2_with fail
  go_ret
  exact ⟨rfl, H2, HT.out⟩
theorem formP_copy {C : Cfg} {N : Cnt} {a b c : Int} {gU gP : Nat} : formP C (N.copy gU gP) a b c ↔ formP C N a b c :=
  ⟨fun h => ⟨(copy_alike N gU gP).ok.1 h.ok, h.port, h.prio, h.cells⟩, fun h => ⟨(copy_alike N gU gP).ok.2 h.ok, h.port, h.prio, h.cells⟩⟩
theorem addN_copy {N : Cnt} {a b y : Int} {gU gP : Nat} : AlikeC (addN N a b y) (addN (N.copy gU gP) a b y) := by
  unfold addN
  split <;> exact ⟨rfl, rfl, rfl, rfl, rfl⟩
theorem AlikeC.orZero {A B : Cnt} (h : AlikeC A B) (ok : Bool) : AlikeC (orZero A ok) (Go.Proofs.Ytalbkpofiobmiaa.orZero B ok) := by
  cases ok
  · exact AlikeC.refl _
  · exact h
theorem zeroC_small : zeroC.Small := ⟨Nat.zero_le _, Nat.zero_le _⟩
theorem addN_small {N : Cnt} {a b y : Int} (h : N.Small) : (addN N a b y).Small := by
  unfold addN
  split <;> exact ⟨h.u, h.p⟩
theorem orZero_small {N : Cnt} {ok : Bool} (h : N.Small) : (orZero N ok).Small := by
  cases ok
  · exact zeroC_small
  · exact h
theorem addOk_copy {C : Cfg} {N : Cnt} {a b c y : Int} {gU gP : Nat} : (formP C (N.copy gU gP) a b c ∧ Cnt.Ok C (addN (N.copy gU gP) a b y)) ↔ (formP C N a b c ∧ Cnt.Ok C (addN N a b y)) :=
  and_congr formP_copy (addN_copy (gU := gU) (gP := gP)).ok
end Go.Proofs.Ytalbkpofiobmiaa
