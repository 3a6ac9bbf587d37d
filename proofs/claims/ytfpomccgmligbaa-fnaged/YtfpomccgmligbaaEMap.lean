/- Maps from addresses to entries: what they hold, as a list by rising address. -/
import Derived.Test.YtfpomccgmligbaaEnt
import Derived.Maps.OwnSet
namespace Go.Proofs.Ytfpomccgmligbaa
open Go.RowKit
set_option linter.unusedVariables false
set_option linter.unusedSimpArgs false

def entD (x : Ent) : DataW Unit := .agg [.lit (.int .i64 x.m), .lit (.int .i64 x.p), .lit (.int .i64 x.t)]
theorem entD_inj {x y : Ent} (h : entD x = entD y) : x = y := by
  cases x; cases y
  simp [entD] at h
  simp [h]
theorem v_inj {x y : Ent} (h : x.v = y.v) : x = y := by
  cases x; cases y
  simp [Ent.v] at h
  simp [h]
open Classical in
/-- how an element reads -/
noncomputable def entElem (v : Value) : Option (DataW Unit × List MemPlace) := if h : ∃ x : Ent, v = x.v then some (entD (Classical.choose h), []) else none
theorem entElem_mk (x : Ent) : entElem x.v = some (entD x, []) := by
  unfold entElem
  have h : ∃ y : Ent, x.v = y.v := ⟨x, rfl⟩
  rw [dif_pos h, ← v_inj (Classical.choose_spec h)]
theorem entElem_inv {v : Value} {x : Ent} {ps : List MemPlace} (h : entElem v = some (entD x, ps)) : v = x.v := by
  unfold entElem at h
  split at h
  · rename_i hx
    have e := Classical.choose_spec hx
    simp only [Option.some.injEq, Prod.mk.injEq] at h
    rw [e, entD_inj h.1]
  · cases h

def kv (x : Ent) : Lit × DataW Unit := (.int .i64 x.m, entD x)
/-- the map that holds just these entries -/
def mD (L : List Ent) : DataW Unit := .map (L.map kv)
def insE (x : Ent) : List Ent → List Ent
  | [] => [x]
  | y :: r => if x.m < y.m then x :: y :: r else y :: insE x r
def notM (k : Int) (L : List Ent) : List Ent := L.filter fun y => decide (y.m ≠ k)
theorem same_int (a b : Int) : (Lit.int .i64 a).sameKey (Lit.int .i64 b) = decide (a = b) := by simp [Lit.sameKey]
theorem ins_kv (x : Ent) : ∀ L : List Ent, DataW.insert (kv x) (L.map kv) = (insE x L).map kv
  | [] => rfl
  | y :: r => by
    have hb : (kv x).1.before (kv y).1 = decide (x.m < y.m) := by simp [kv, Lit.before]
    show DataW.insert (kv x) (kv y :: r.map kv) = _
    unfold DataW.insert insE
    rw [hb]
    by_cases h : x.m < y.m
    · simp [h]
    · simp [h, ins_kv x r]
theorem filter_kv (k : Int) (L : List Ent) : (L.map kv).filter (fun p => !p.1.sameKey (.int .i64 k)) = (notM k L).map kv := by
  unfold notM
  induction L with
  | nil => rfl
  | cons y r ih =>
    have hb : (kv y).1.sameKey (.int .i64 k) = decide (y.m = k) := same_int _ _
    by_cases h : y.m = k
    · simp [List.filter_cons, hb, h, ih]
    · simp [List.filter_cons, hb, h, ih]
theorem mD_put (x : Ent) (L : List Ent) : (mD L).put (.int .i64 x.m) (entD x) = mD (insE x (notM x.m L)) := by
  show DataW.map (DataW.insert (kv x) ((L.map kv).filter _)) = _
  rw [filter_kv, ins_kv]; rfl
theorem mD_del (k : Int) (L : List Ent) : (mD L).del (.int .i64 k) = mD (notM k L) := by
  show DataW.map ((L.map kv).filter _) = _
  rw [filter_kv]; rfl
theorem mD_size (L : List Ent) : Maps.size (mD L) = L.length := by simp [mD, Maps.size]
def hasM (k : Int) (L : List Ent) : Bool := L.any fun y => decide (y.m = k)
def atM (k : Int) (L : List Ent) : Ent := (L.find? fun y => decide (y.m = k)).getD ⟨0, 0, 0⟩
theorem mD_has (k : Int) (L : List Ent) : Maps.has (mD L) (.int .i64 k) = hasM k L := by
  unfold mD hasM
  rw [Maps.has_eq]
  induction L with
  | nil => rfl
  | cons y r ih =>
    have hb : (kv y).1.sameKey (.int .i64 k) = decide (y.m = k) := same_int _ _
    simp only [List.map_cons, List.any_cons, hb, ih]
theorem mD_at (k : Int) (L : List Ent) : (mD L).atKey (.int .i64 k) (entD ⟨0, 0, 0⟩) = entD (atM k L) := by
  unfold mD atM
  simp only [DataW.atKey]
  induction L with
  | nil => rfl
  | cons y r ih =>
    have hb : (kv y).1.sameKey (.int .i64 k) = decide (y.m = k) := same_int _ _
    by_cases h : y.m = k
    · simp only [List.map_cons, List.find?_cons, hb, h, decide_true]
      rfl
    · simp only [List.map_cons, List.find?_cons, hb, h, decide_false]
      exact ih
theorem notM_all {k : Int} {L : List Ent} (h : ∀ y ∈ L, y.m ≠ k) : notM k L = L := by
  unfold notM
  rw [List.filter_eq_self]
  intro y hy
  simp [h y hy]
theorem insE_last {x : Ent} : ∀ {L : List Ent}, (∀ y ∈ L, y.m < x.m) → insE x L = L ++ [x]
  | [], _ => rfl
  | y :: r, h => by
    have h1 := h y (by simp)
    unfold insE
    rw [if_neg (by omega), insE_last (fun z hz => h z (by simp [hz]))]
    rfl
theorem mD_put_last {x : Ent} {L : List Ent} (h : ∀ y ∈ L, y.m < x.m) : (mD L).put (.int .i64 x.m) (entD x) = mD (L ++ [x]) := by
  rw [mD_put, notM_all (fun y hy => by have := h y hy; omega), insE_last h]

/-- the entries of a table, as a list -/
def entsL (n : Nat) (f : Nat → Ent) : List Ent := (List.range n).map f
theorem entsL_succ (n : Nat) (f : Nat → Ent) : entsL (n + 1) f = entsL n f ++ [f n] := by simp [entsL, List.range_succ]
theorem entsL_len (n : Nat) (f : Nat → Ent) : (entsL n f).length = n := by simp [entsL]
theorem entsOk.lt {n : Nat} {f : Nat → Ent} (h : entsOk n f) : ∀ j i, i < j → j < n → (f i).m < (f j).m
  | 0, i, hi, _ => by omega
  | j + 1, i, hi, hj => by
    have h1 := (h (j + 1) hj).2 (by omega)
    simp only [Nat.add_sub_cancel] at h1
    by_cases e : i = j
    · subst e; exact h1
    · have := entsOk.lt h j i (by omega) (by omega)
      omega
theorem entsOk.below {n k : Nat} {f : Nat → Ent} (h : entsOk n f) (hk : k < n) : ∀ y ∈ entsL k f, y.m < (f k).m := by
  intro y hy
  obtain ⟨i, hi, rfl⟩ := List.mem_map.1 hy
  exact h.lt k i (List.mem_range.1 hi) hk
abbrev OwnsE (w : World) (b n : Nat) (L : List Ent) : Prop := w.ownsMap Try.prog 2 entElem b n (mD L)
theorem keyI {k : Int} (h0 : -9223372036854775808 ≤ k) (h1 : k ≤ 9223372036854775807) : keyOf Try.prog 2 (.int .i64 k) = some (.int .i64 k) :=
  Maps.keyOf_int_mk Try.underlying2 (by simp [Lit.wf, IntKind.min, IntKind.max, IntKind.signed, IntKind.bits]; omega)
end Go.Proofs.Ytfpomccgmligbaa
