/- Several picks, in one go or in two; and how many there are. -/
import Derived.Test.YtnfcmiiibkbmfaaDWaits
import Derived.Deep.AppendSrc
import Derived.Lib.AppendZeros
namespace Go.Proofs.Ytnfcmiiibkbmfaa
open Go.RowKit
set_option linter.unusedVariables false
set_option linter.unusedSimpArgs false

theorem PickF.join {i : Nat} {R A : Rnd} {cs : List Int} (h : PickF i R A cs) {j : Nat} {B : Rnd} {ds : List Int} (g : PickF j A B ds) : PickF (i + j) R B (cs ++ ds) := by
  induction g with
  | zero => simpa using h
  | next g1 gp ih =>
    have := (ih h).next gp
    rw [List.append_assoc] at this
    exact this
theorem pickA_two {R M A B : Rnd} {n k : Int} {cs one two : List Int} (ho : R.Ok) (hk : 0 ≤ k) (hkn : k ≤ n) (hn : n ≤ 200) (h : PickA R n M cs) (h1 : PickA R k A one) (h2 : PickA A (n - k) B two) : B = M ∧ one ++ two = cs := by
  rcases h1 with ⟨hv, _⟩ | ⟨_, i, hf1, he1⟩
  · exact absurd ⟨ho, by omega, by omega⟩ hv
  have hA := (hf1.ok ho).1
  rcases h2 with ⟨hv, _⟩ | ⟨_, j, hf2, he2⟩
  · exact absurd ⟨hA, by omega, by omega⟩ hv
  refine h.at_ ⟨ho, by omega, by omega⟩ (hf1.join hf2) ?_
  rcases he1 with e1 | ⟨e1, hno⟩
  · rcases he2 with e2 | ⟨e2, hno2⟩
    · exact .inl (by omega)
    · exact .inr ⟨by omega, hno2⟩
  · have hj : j = 0 := by
      rcases Nat.eq_zero_or_pos j with e | e
      · exact e
      · obtain ⟨X, ds, k', Z, c, s, h3, h4⟩ := hf2.cut e
        cases h3
        obtain ⟨q, hq1, hq2⟩ := h4.some hA
        exact absurd (hno q hq1) hq2
    subst hj
    cases hf2
    exact .inr ⟨by omega, hno⟩
theorem sumL_congr {L L' : Nat → Nat} : ∀ (n : Nat), (∀ i, i < n → L i = L' i) → sumL L n = sumL L' n
  | 0, _ => rfl
  | n + 1, h => by
    show sumL L n + L n = sumL L' n + L' n
    rw [sumL_congr n (fun i hi => h i (by omega)), h n (by omega)]
theorem sumL_zero {L : Nat → Nat} : ∀ (n : Nat), (∀ i, i < n → L i = 0) → sumL L n = 0
  | 0, _ => rfl
  | n + 1, h => by
    show sumL L n + L n = 0
    rw [sumL_zero n (fun i hi => h i (by omega)), h n (by omega)]
theorem sumL_upd {L : Nat → Nat} {c x : Nat} : ∀ (n : Nat), c < n → sumL (updN L c x) n + L c = sumL L n + x
  | 0, h => by omega
  | n + 1, h => by
    show sumL (updN L c x) n + updN L c x n + L c = sumL L n + L n + x
    by_cases e : c = n
    · subst e
      have e2 : sumL (updN L c x) c = sumL L c := sumL_congr c (fun i hi => updN_ne (by omega))
      rw [updN_self, e2]
      omega
    · have h2 := sumL_upd (L := L) (x := x) (c := c) n (by omega)
      rw [updN_ne (show n ≠ c by omega)]
      omega
theorem sumL_capN {L : Nat → Nat} : ∀ (n : Nat), (∀ i, i < n → L i ≤ 1000) → sumL L n ≤ 1000 * n
  | 0, _ => Nat.zero_le _
  | n + 1, h => by
    have h1 := sumL_capN n (fun i hi => h i (by omega))
    have h2 := h n (by omega)
    show sumL L n + L n ≤ _
    omega
theorem sumL_ok {R : Rnd} (h : R.Ok) (i : Nat) (hi : i ≤ R.nS) : sumL R.L i ≤ 4000 := by
  have h1 := sumL_capN (L := R.L) i (fun j hj => (h.c j (by have := h.s; omega)).2.1.1)
  have := h.n
  have := h.s
  omega
theorem takeR_L (R : Rnd) : (takeR R).L = updN R.L R.now (R.L R.now - 1) ∧ (takeR R).nS = R.nS := by
  unfold takeR
  split <;> exact ⟨rfl, rfl⟩
theorem grantR_nS (R : Rnd) : (grantR R).nS = R.nS := by unfold grantR; split <;> rfl
theorem Picks.sum {k : Nat} {R R' : Rnd} {c : Nat} {s : Int} (h : Picks k R R' c s) : R.Ok → sumL R'.L R'.nS + 1 = sumL R.L R.nS := by
  induction h with
  | skip h0 _ ih =>
    intro ho
    exact ih (turn_ok ho (fun e => absurd h0 e))
  | short h0 h1 _ ih =>
    rename_i R0 _ _ _ _
    intro ho
    have hg := grant_ok ho h0
    have hz := ((ho.c R0.now ho.now_lt).2.1).2 0 (by omega)
    have h2 := ih (turn_ok hg (fun _ => by rw [grantR_now]; omega))
    have e1 : (turnR (grantR R0)).L = R0.L := grantR_L R0
    have e2 : (turnR (grantR R0)).nS = R0.nS := grantR_nS R0
    rw [e1, e2] at h2
    exact h2
  | take h0 h1 =>
    rename_i R
    intro ho
    have hnow : R.now < R.nS := by
      have := ho.t
      have := ho.s
      unfold Rnd.now
      omega
    obtain ⟨e1, e2⟩ := takeR_L (grantR R)
    rw [e1, e2, grantR_nS, grantR_now, grantR_L]
    have := sumL_upd (L := R.L) (x := R.L R.now - 1) R.nS hnow
    omega
theorem PickF.sum {i : Nat} {R X : Rnd} {cs : List Int} (h : PickF i R X cs) (ho : R.Ok) : sumL X.L X.nS + i = sumL R.L R.nS := by
  induction h with
  | zero => rfl
  | next h1 hp ih =>
    have h2 := ih ho
    have h3 := hp.sum (h1.ok ho).1
    omega
theorem pickA_all {R M : Rnd} {cs : List Int} (ho : R.Ok) (h : PickA R 200 M cs) : 200 < sumL R.L R.nS ∨ cs.length = sumL R.L R.nS := by
  rcases h with ⟨hv, _⟩ | ⟨_, i, hf, he⟩
  · exact absurd ⟨ho, by omega, by omega⟩ hv
  have hs := hf.sum ho
  have hM := (hf.ok ho).1
  rw [hf.len]
  rcases he with e | ⟨e, hno⟩
  · omega
  · have := sumL_zero (L := M.L) M.nS (fun j hj => hno j (by have := hM.s; omega))
    omega
/-- a list of one's own -/
structure LI (W : World) (base : Nat) (a : Option Addr) (N c : Nat) (cs : List Int) : Prop where
  own : W.ownsRow base 2 1 (.slice a N c) N (cs.map (.int .i64))
  len : cs.length = N
theorem LI.up {W W' : World} {base : Nat} {a : Option Addr} {N c : Nat} {cs : List Int} (h : LI W base a N c cs) (hb : Below W.heap.size W W') : LI W' base a N c cs := ⟨own_keepA h.own (fun b _ hlt => hb.block b hlt), h.len⟩
theorem LI.rd {W : World} {base : Nat} {a : Option Addr} {N c : Nat} {cs : List Int} (h : LI W base a N c cs) : RdRow W a N fun i => .int .i64 (cs.getD i 0) := by
  obtain ⟨ho, rfl⟩ := h
  exact (own_viA ho).read
theorem iPA_any (R M : Rnd) (n : Int) (cs : List Int) (N : Nat) (w : World) (hs : R.Small) (h : RdRnd w R) (hp : PickA R n M cs) (hN : cs.length = N) :
    Calls Try.prog 19 #[.agg R.cells, .int .i64 n] w fun e w' => ∃ R' a c, e = .returned (.tuple #[.agg R'.cells, .slice a N c]) ∧ OwnRo w' w.heap.size R' ∧ LI w' w.heap.size a N c cs ∧ Below w.heap.size w w' ∧ Alike M R' := by
  subst hN
  refine (iPickedAll_any R M n cs w hs h hp).mono ?_
  rintro e w' ⟨R', v, rfl, h1, h2, h3, h4, h5⟩
  obtain ⟨a, c, rfl⟩ := own_formA h2
  exact ⟨R', a, c, rfl, h1, ⟨h2, rfl⟩, h4, h5⟩
theorem sPA_any (R M : Rnd) (n : Int) (cs : List Int) (N : Nat) (w : World) (hs : R.Small) (h : RdRnd w R) (hp : PickA R n M cs) (hN : cs.length = N) :
    Calls Try.prog 20 #[.agg R.cells, .int .i64 n] w fun e w' => ∃ R' a c, e = .returned (.tuple #[.agg R'.cells, .slice a N c]) ∧ OwnRn w' w.heap.size R' ∧ LI w' w.heap.size a N c cs ∧ Below w.heap.size w w' ∧ Alike M R' := by
  subst hN
  refine (sPickedAll_any R M n cs w hs h hp).mono ?_
  rintro e w' ⟨R', v, rfl, h1, h2, h4, h5⟩
  obtain ⟨a, c, rfl⟩ := own_formA h2
  exact ⟨R', a, c, rfl, h1, ⟨h2, rfl⟩, h4, h5⟩
/-- a list behind a list that has a place of its own -/
theorem app_list {W : World} {base b2 g0 cap0 : Nat} {vx : Value} {C L : List Int} (hown : W.ownsRow base 2 1 (.slice (some ⟨g0, 0, none⟩) C.length cap0) C.length (C.map (.int .i64))) (hx : W.ownsRow b2 2 1 vx L.length (L.map (.int .i64))) (hl : C.length + L.length ≤ 1000) (hbase : base ≤ W.heap.size) :
    ∃ g1 c1 W', (Builtin.append_ #[24, 24] 24 #[.slice (some ⟨g0, 0, none⟩) C.length cap0, vx]).run Try.prog W = .ok (.slice (some ⟨g1, 0, none⟩) (C.length + L.length) c1) W' ∧ W'.ownsRow base 2 1 (.slice (some ⟨g1, 0, none⟩) (C ++ L).length c1) (C ++ L).length ((C ++ L).map (.int .i64)) ∧ (∀ B w0, Below B w0 W → B ≤ g0 → B ≤ W.heap.size → Below B w0 W') ∧ (g1 = g0 ∨ g1 = W.heap.size) := by
  obtain ⟨ii, hi, hz0, hz1, hz2⟩ := info_parts info2
  obtain ⟨hlx, ⟨rfl, hn⟩ | ⟨g, cap, cur, rfl, hg2, hblk2, hn2, hc2, hs2, ht2⟩⟩ := hx
  · have hL0 : L = [] := List.eq_nil_of_length_eq_zero hn
    subst hL0
    have h0 := hown
    obtain ⟨hl', h | ⟨g', cap', cur, hv', hge, hblk, hn', hc, hs, ht⟩⟩ := hown
    · cases h.1
    · cases hv'
      have hrun := run_append_room_src (P := Try.prog) W 24 24 24 2 ii Try.underlying24 hi g0 0 C.length cap0 (.slice none 0 0) 0 [] (Src.ofNil W Try.underlying24 0) (by omega) (by simp) (by simp)
      refine ⟨g0, cap0, _, hrun, ?_, fun B w0 hB _ _ => ?_, .inl rfl⟩
      · simpa [World.setCells] using h0
      · simpa [World.setCells] using hB
  · have hadd : ∀ (o j : Nat), (⟨g, o, none⟩ : Addr).add j = ⟨g, o + j, none⟩ := fun o j => by unfold Addr.add; split <;> simp_all
    obtain ⟨va, W2, hrun, hown2, hgrow, _, hblk⟩ := run_append_own_at (P := Try.prog) (w := W) base 24 24 2 ii (.int .i64 0) 1 8 Try.underlying24 hi hz0 hz1 hz2 rfl (by decide) _ C.length _ hown ⟨g, 0, none⟩ L.length cap (L.map (.int .i64)) (by simp) (fun j u hu => by
      rw [hadd, Nat.zero_add, blk_cell hblk2]
      have hj : j < L.length := by
        have := (List.getElem?_eq_some_iff.1 hu).1
        simpa using this
      rw [← ht2, List.getElem?_take_of_lt (by omega)] at hu
      simpa using hu) (by intro u hu; rw [List.mem_map] at hu; obtain ⟨y, _, rfl⟩ := hu; rfl) (by unfold maxLen; omega) (by omega) hbase
    have hown3 : W2.ownsRow base 2 1 va (C ++ L).length ((C ++ L).map (.int .i64)) := by rw [List.length_append, List.map_append]; exact hown2
    have eL : (C ++ L).length = C.length + L.length := List.length_append
    obtain ⟨_, ⟨rfl, _⟩ | ⟨g1, c1, cur1, rfl, _⟩⟩ := id hown3
    · rcases hblk with e | e <;> cases e
    · rw [eL] at hrun
      refine ⟨g1, c1, W2, hrun, hown3, fun B w0 hB h1 h2 => hB.grown hgrow h2 (fun k hk => ?_), ?_⟩
      · simp only [Value.ownBlock, Option.some.injEq] at hk
        omega
      · rcases hblk with e | e
        · left; simpa [Value.ownBlock] using e
        · right; simpa [Value.ownBlock] using e
/-- two lists behind nothing -/
theorem app_two {W : World} {b1 b2 : Nat} {a1 a2 : Option Addr} {N1 c1 N2 c2 : Nat} {L1 L2 : List Int} (h1 : LI W b1 a1 N1 c1 L1) (h2 : LI W b2 a2 N2 c2 L2) (hl : N1 + N2 ≤ 1000) :
    ∃ g3 c3 W1 g4 c4 W2, (Builtin.append_ #[24, 24] 24 #[.slice (some ⟨W.heap.size, 0, none⟩) 0 0, .slice a1 N1 c1]).run Try.prog (W.alloc (.cells #[] 2)) = .ok (.slice (some ⟨g3, 0, none⟩) N1 c3) W1 ∧ (Builtin.append_ #[24, 24] 24 #[.slice (some ⟨g3, 0, none⟩) N1 c3, .slice a2 N2 c2]).run Try.prog W1 = .ok (.slice (some ⟨g4, 0, none⟩) (N1 + N2) c4) W2 ∧ LI W2 W.heap.size (some ⟨g4, 0, none⟩) (N1 + N2) c4 (L1 ++ L2) ∧ Below W.heap.size W W2 := by
  obtain ⟨o1, rfl⟩ := h1
  obtain ⟨o2, rfl⟩ := h2
  have hA : Below W.heap.size W (W.alloc (.cells #[] 2)) := (Below.refl _ _).alloc (Nat.le_refl _) _
  have e0 : (W.alloc (.cells #[] 2)).heap.size = W.heap.size + 1 := by simp
  have hn : (W.alloc (.cells #[] 2)).ownsRow W.heap.size 2 1 (.slice (some ⟨W.heap.size, 0, none⟩) ([] : List Int).length 0) ([] : List Int).length (([] : List Int).map (.int .i64)) := ⟨by simp, .inr ⟨_, _, #[], rfl, Nat.le_refl _, blk_new W _, by simp, by unfold maxLen; omega, by simp, by simp⟩⟩
  obtain ⟨g3, c3, W1, r1, w1, b1', e1⟩ := app_list hn (own_keepA o1 (fun b _ hlt => hA.block b hlt)) (by simp; omega) (by omega)
  have hB1 := b1' _ _ hA (Nat.le_refl _) (by omega)
  have hs1 : W.heap.size + 1 ≤ W1.heap.size := by
    have := (b1' _ _ (Below.refl W.heap.size (W.alloc (.cells #[] 2))) (Nat.le_refl _) (by omega)).size
    omega
  simp only [List.nil_append, List.length_nil, Nat.zero_add] at r1 w1
  obtain ⟨g4, c4, W2, r2, w2, b2', e2⟩ := app_list w1 (own_keepA o2 (fun b _ hlt => hB1.block b hlt)) hl (by omega)
  refine ⟨g3, c3, W1, g4, c4, W2, r1, r2, ⟨?_, by simp⟩, b2' _ _ hB1 (by omega) (by omega)⟩
  rw [List.length_append] at w2
  exact w2
/-- a guarded append that is wanted, and whose run is known -/
theorem wpList_append_on {P : Program} (w : World) {ops : Array Oper} {rest : List Oper} {o : Oper} {a : Act} {Q : Exit → Act → World → Prop} (hgd : Region.wanted o (yielded ops a.tmps) = true) (s x : Operand) (t tn : TypeId)
    (ho : o.op = .call { callee := .builtin .append, args := #[s, x], argTypes := #[t, tn] }) (vs vx : Value) (hs : a.eval s = vs) (hx : a.eval x = vx)
    (v' : Value) (w' : World) (hr : (Builtin.append_ #[t, tn] o.type #[vs, vx]).run P w = .ok v' w') (h : wpList P ops Q rest (a.put o.dst v') w') : wpList P ops Q (o :: rest) a w :=
  wpList_step fun K hK => by simp only [hgd, if_true]; exact Lib.wp_append_run w s x t tn ho vs vx hs hx v' w' hr (hK _ _ h)
end Go.Proofs.Ytnfcmiiibkbmfaa
