/- Rounds made anew: the steps of a drawn region, and the round that lies there behind it. -/
import Derived.Test.YtaiodombphpcgaaRnNew
namespace Go.Proofs.Ytaiodombphpcgaa
open Go.RowKit
set_option linter.unusedVariables false
set_option linter.unusedSimpArgs false

theorem wp_appD {o : Oper} {a : Act} {K : Act → World → Prop} {Q : Exit → Act → World → Prop} {W W' : World} {c : Prop} [Decidable c] {E : Prop} (hc : c) (d : Option Tmp) (s x : Operand) (t : TypeId) (vs vx v : Value) (hd : o.dst = d)
    (ho : o.op = .call { callee := .builtin .append, args := #[s, x], argTypes := #[t, t] }) (hty : o.type = t) (hs : a.eval s = vs) (hx : a.eval x = vx)
    (hr : (Builtin.append_ #[t, t] t #[vs, vx]).run Try.prog W = .ok v W') (h : K (a.put d v) W') : if c then o.wp Try.prog a W K Q else E := by
  subst hd
  exact wp_appR hc s x t vs vx v ho hty hs hx hr h
/-- make at an operation of a drawn region, its run told -/
theorem wp_makeD {o : Oper} {a : Act} {K : Act → World → Prop} {Q : Exit → Act → World → Prop} {W W' : World} {c : Prop} [Decidable c] {E : Prop} (hc : c) (d : Option Tmp) (l : Operand) (t : TypeId) (vl v : Value) (hd : o.dst = d)
    (ho : o.op = .makeSlice t l l) (hl : a.eval l = vl) (hr : (Instr.makeSlice t vl vl).run Try.prog W = .ok v W') (h : K (a.put d v) W') : if c then o.wp Try.prog a W K Q else E := by
  subst hd
  rw [if_pos hc]
  unfold Oper.wp execOp
  simp only [ho, Sem.run_bind, Sem.run_pure, Result.andThen_ok, hl]
  simp only [hr, Result.andThen_ok]
  exact h
theorem Mk.runD {n : Nat} {f : Nat → Int} {w W : World} {E : Option Nat} {Q : Option (Option Addr)} {S B : Option Nat} (h : Mk n f w W E Q none S B) (hn : n ≤ 1048576) :
    ∃ gD W', (Instr.makeSlice 28 (.int .i64 (n : Int)) (.int .i64 (n : Int))).run Try.prog W = .ok (.slice (some ⟨gD, 0, none⟩) n n) W' ∧ Mk n f w W' E Q (some gD) S B := ⟨_, _, make_ints n hn W, h.mkD⟩
theorem Mk.runS {n : Nat} {f : Nat → Int} {w W : World} {E : Option Nat} {Q : Option (Option Addr)} {D B : Option Nat} (h : Mk n f w W E Q D none B) (hn : n ≤ 1048576) :
    ∃ gS W', (Instr.makeSlice 47 (.int .i64 (n : Int)) (.int .i64 (n : Int))).run Try.prog W = .ok (.slice (some ⟨gS, 0, none⟩) n n) W' ∧ Mk n f w W' E Q D (some gS) B := ⟨_, _, make_sls n hn W, h.mkS⟩
theorem Mk.runB {n : Nat} {f : Nat → Int} {w W : World} {E : Option Nat} {Q : Option (Option Addr)} {D S : Option Nat} (h : Mk n f w W E Q D S none) :
    ∃ gB W', gB = W.heap.size ∧ W' = W.alloc (.cells #[.slice none 0 0, .slice none 0 0, .int .i64 0, .bool false, .slice none 0 0] 49) ∧ Mk n f w W' E Q D S (some gB) := ⟨_, _, rfl, rfl, h.mkB⟩
theorem Mk.runE {n : Nat} {f : Nat → Int} {w W : World} {Q : Option (Option Addr)} {D S B : Option Nat} (h : Mk n f w W none Q D S B) :
    ∃ gE W', gE = W.heap.size ∧ W' = W.alloc (.cells #[] 2) ∧ Mk n f w W' (some gE) Q D S B := ⟨_, _, rfl, rfl, h.mkE⟩
theorem own_empty {W : World} {base g : Nat} (hb : base ≤ g) (h : W.heap[g]? = some (.cells #[] 2 (0, 0))) : W.ownsRow base 2 1 (.slice (some ⟨g, 0, none⟩) 0 0) 0 [] :=
  ⟨rfl, .inr ⟨g, 0, #[], rfl, hb, h, Nat.le_refl _, by unfold maxLen; omega, rfl, rfl⟩⟩
theorem Mk.runEQ {n : Nat} {f : Nat → Int} {w W : World} {D S B : Option Nat} {gE g q : Nat} (c : Nat) (h : Mk n f w W (some gE) none D S B) (hn : n ≤ 1048576) (hr : RdRow W (some ⟨g, q, none⟩) n fun i => .int .i64 (f i)) :
    ∃ aQ cQ W', (Builtin.append_ #[28, 28] 28 #[.slice (some ⟨gE, 0, none⟩) 0 0, .slice (some ⟨g, q, none⟩) n c]).run Try.prog W = .ok (.slice aQ n cQ) W' ∧ Mk n f w W' none (some aQ) D S B := by
  have hE := h.e gE rfl
  obtain ⟨a', c', W', h1, h2, h3, h4⟩ := appendV (c := c) (own_empty hE.1 hE.2) h.below.size hn (fun i hi => by
    obtain ⟨g', o', e, hc⟩ := hr i hi
    cases e
    exact hc)
  exact ⟨a', c', W', h1, h.mkEQ h2 h3 h4⟩

/-- a round that owns its rows -/
structure OwnRn (w : World) (base : Nat) (R : Rnd) : Prop where
  q : VI w base R.aQ R.nQ R.q
  d : VI w base R.aD R.nD R.d
  s : VS w base R.aS R.nS fun i => .slice (R.A i) (R.L i) (R.C i)
  z : ∀ i, i < R.nS → VI w base (R.A i) (R.L i) (R.z i)
  qd : apartI R.aQ R.nQ R.aD R.nD
  qz : ∀ i, i < R.nS → apartI R.aQ R.nQ (R.A i) (R.L i)
  dz : ∀ i, i < R.nS → apartI R.aD R.nD (R.A i) (R.L i)
  zz : ∀ i j, i < R.nS → j < R.nS → i ≠ j → apartI (R.A i) (R.L i) (R.A j) (R.L j)
theorem OwnRn.rd {w : World} {base : Nat} {R : Rnd} (h : OwnRn w base R) : RdRnd w R := ⟨h.q.read, h.d.read, h.s.read, fun i hi => (h.z i hi).read⟩
theorem OwnRn.up {w w' : World} {base : Nat} {R : Rnd} (h : OwnRn w base R) (hb : Below w.heap.size w w') : OwnRn w' base R :=
  ⟨h.q.up hb, h.d.up hb, h.s.up hb, fun i hi => (h.z i hi).up hb, h.qd, h.qz, h.dz, h.zz⟩
theorem OwnRn.mono {w : World} {base base' : Nat} {R : Rnd} (h : OwnRn w base R) (hb : base' ≤ base) : OwnRn w base' R :=
  ⟨h.q.mono hb, h.d.mono hb, h.s.mono hb, fun i hi => (h.z i hi).mono hb, h.qd, h.qz, h.dz, h.zz⟩
/-- .. and is not written where all that is written lies ahead of it -/
theorem OwnRn.touch {w w' : World} {base : Nat} {R : Rnd} {S : List Nat} (h : OwnRn w base R) (ht : Touch S w w') (hS : ∀ x ∈ S, x < base) : OwnRn w' base R :=
  have key : ∀ {a : Option Addr} {n : Nat} {f : Nat → Int}, VI w base a n f → VI w' base a n f := fun hv => hv.touchS ht (fun x hx hx2 => by
    have h1 := (hv.blk x hx).1
    have h2 := hS x hx2
    omega)
  ⟨key h.q, key h.d, h.s.imp id (by
    rintro ⟨g, ha, hg, hr⟩
    exact ⟨g, ha, hg, hr.keep (ht.block g hr.lt (fun hx => by have := hS g hx; omega))⟩), fun i hi => key (h.z i hi), h.qd, h.qz, h.dz, h.zz⟩
def newR (n : Nat) (f : Nat → Int) (aQ : Option Addr) (cQ gD gS : Nat) : Rnd :=
  ⟨aQ, n, cQ, f, some ⟨gD, 0, none⟩, n, n, fun _ => 0, 0, true, some ⟨gS, 0, none⟩, n, n, fun _ => none, fun _ => 0, fun _ => 0, fun _ _ => 0⟩
def zR : Rnd := ⟨none, 0, 0, fun _ => 0, none, 0, 0, fun _ => 0, 0, false, none, 0, 0, fun _ => none, fun _ => 0, fun _ => 0, fun _ _ => 0⟩
theorem zR_own (w : World) (base : Nat) : OwnRn w base zR :=
  ⟨.inl rfl, .inl rfl, .inl rfl, fun i hi => .inl rfl, fun x hx => by simp [blkI, zR] at hx, fun i _ x hx => by simp [blkI, zR] at hx, fun i _ x hx => by simp [blkI, zR] at hx, fun i j _ _ _ x hx => by simp [blkI, zR] at hx⟩
theorem newR_ok {n : Nat} {f : Nat → Int} {aQ aQ' : Option Addr} {cQ gD gS cQ' gD' gS' : Nat} : (newR n f aQ cQ gD gS).Ok ↔ (newR n f aQ' cQ' gD' gS').Ok := ⟨fun h => ⟨h.n, h.d, h.s, h.t, h.c⟩, fun h => ⟨h.n, h.d, h.s, h.t, h.c⟩⟩
theorem newR_fit {n : Nat} {f : Nat → Int} {aQ : Option Addr} {cQ gD gS : Nat} (hn : n ≤ 1048576) : (newR n f aQ cQ gD gS).Fit :=
  have h : n ≤ maxLen := by unfold maxLen; omega
  ⟨h, h, h, fun i hi => Nat.zero_le _⟩
/-- alike but for where they lie -/
structure Alike (R1 R2 : Rnd) : Prop where
  nQ : R2.nQ = R1.nQ
  q : R2.q = R1.q
  nD : R2.nD = R1.nD
  d : R2.d = R1.d
  t : R2.turn = R1.turn
  f : R2.fresh = R1.fresh
  nS : R2.nS = R1.nS
  l : R2.L = R1.L
  z : R2.z = R1.z
theorem Alike.refl (R : Rnd) : Alike R R := ⟨rfl, rfl, rfl, rfl, rfl, rfl, rfl, rfl, rfl⟩
theorem Alike.symm {A B : Rnd} (h : Alike A B) : Alike B A := ⟨h.nQ.symm, h.q.symm, h.nD.symm, h.d.symm, h.t.symm, h.f.symm, h.nS.symm, h.l.symm, h.z.symm⟩
theorem Alike.trans {A B C : Rnd} (h : Alike A B) (k : Alike B C) : Alike A C := ⟨k.nQ.trans h.nQ, k.q.trans h.q, k.nD.trans h.nD, k.d.trans h.d, k.t.trans h.t, k.f.trans h.f, k.nS.trans h.nS, k.l.trans h.l, k.z.trans h.z⟩
def newM (n : Nat) (f : Nat → Int) (ok : Bool) : Rnd := if ok then newR n f none 0 0 0 else zR
/-- five cells written over -/
def put5 (w : World) (g : Nat) (v0 v1 v2 v3 v4 : Value) : World := ((((w.setCell ⟨g, 0, none⟩ v0).setCell ⟨g, 1, none⟩ v1).setCell ⟨g, 2, none⟩ v2).setCell ⟨g, 3, none⟩ v3).setCell ⟨g, 4, none⟩ v4
theorem put5_touch (w : World) (g : Nat) (v0 v1 v2 v3 v4 : Value) : Touch [g] w (put5 w g v0 v1 v2 v3 v4) :=
  (((((Touch.refl [g] w).set (by simp) 0 v0).set (by simp) 1 v1).set (by simp) 2 v2).set (by simp) 3 v3).set (by simp) 4 v4
theorem put5_blk {w : World} {g : Nat} {x0 x1 x2 x3 x4 : Value} {t : TypeId} (h : w.heap[g]? = some (.cells #[x0, x1, x2, x3, x4] t (0, 0))) (v0 v1 v2 v3 v4 : Value) : (put5 w g v0 v1 v2 v3 v4).heap[g]? = some (.cells #[v0, v1, v2, v3, v4] t (0, 0)) :=
  blk_set (i := 4) (blk_set (i := 3) (blk_set (i := 2) (blk_set (i := 1) (blk_set (i := 0) h v0) v1) v2) v3) v4
/-- the round lies in its place -/
structure Made (n : Nat) (f : Nat → Int) (w W : World) (aQ : Option Addr) (cQ gD gS gB : Nat) : Prop where
  below : Below w.heap.size w W
  own : OwnRn W w.heap.size (newR n f aQ cQ gD gS)
  lo : w.heap.size ≤ gB
  b : W.heap[gB]? = some (.cells #[.slice aQ n cQ, .slice (some ⟨gD, 0, none⟩) n n, .int .i64 0, .bool true, .slice (some ⟨gS, 0, none⟩) n n] 49 (0, 0))
theorem Mk.made {n : Nat} {f : Nat → Int} {w W : World} {aQ : Option Addr} {gD gS gB : Nat} (cQ : Nat) (h : Mk n f w W none (some aQ) (some gD) (some gS) (some gB)) :
    Made n f w (put5 W gB (.slice aQ n cQ) (.slice (some ⟨gD, 0, none⟩) n n) (.int .i64 0) (.bool true) (.slice (some ⟨gS, 0, none⟩) n n)) aQ cQ gD gS gB := by
  have hb := h.b gB rfl
  have ht := put5_touch W gB (.slice aQ n cQ) (.slice (some ⟨gD, 0, none⟩) n n) (.int .i64 0) (.bool true) (.slice (some ⟨gS, 0, none⟩) n n)
  have key : ∀ {a : Option Addr} {m : Nat} {z : Nat → Int}, VI W w.heap.size a m z → ∀ x ∈ blkI a m, x ∉ [gB] := by
    intro a m z hv x hx hx2
    simp at hx2
    subst hx2
    unfold blkI at hx
    split at hx
    · simp at hx
    · rename_i h0
      rcases hv with h1 | ⟨g', rfl, _, arr, h2, _⟩
      · exact h0 h1
      · simp at hx
        subst hx
        rw [hb.2] at h2
        simp at h2
  refine ⟨h.below.trans (ht.below h.below.size (fun x hx => by simp at hx; subst hx; exact hb.1)), ⟨(h.q aQ rfl).touchS ht (key (h.q aQ rfl)), (h.d gD rfl).touchS ht (key (h.d gD rfl)), (h.s gS rfl).imp id ?_, fun i _ => .inl rfl, h.qd aQ gD rfl rfl, fun i _ x _ hx => ?_, fun i _ x _ hx => ?_, fun i j _ _ _ x hx => ?_⟩, hb.1, put5_blk hb.2 _ _ _ _ _⟩
  · rintro ⟨g, ha, hg, hr⟩
    refine ⟨g, ha, hg, hr.keep (ht.block g hr.lt ?_)⟩
    intro hx
    simp at hx
    subst hx
    obtain ⟨arr, h2, _⟩ := hr
    rw [hb.2] at h2
    simp at h2
  · simp [blkI, newR] at hx
  · simp [blkI, newR] at hx
  · simp [blkI, newR] at hx
end Go.Proofs.Ytaiodombphpcgaa
