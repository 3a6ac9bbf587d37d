/- What the specification picks: where nothing waits; the whole answer. -/
import Derived.Test.YtnfcmiiibkbmfaaPkS3
namespace Go.Proofs.Ytnfcmiiibkbmfaa
open Go.RowKit
set_option linter.unusedVariables false
set_option linter.unusedSimpArgs false

set_option maxRecDepth 100000 in
set_option maxHeartbeats 4000000 in
theorem l4Picked_none (R : Rnd) (w : World) (hs : R.Small) (h : RdRnd w R) (ho : R.Ok) (hno : ∀ i, i < R.nQ → R.L i = 0) :
    Calls Try.prog 27 #[.agg R.cells] w fun e w' => ∃ M, e = .returned (.tuple #[.agg M.cells, .int .i64 (-1), .int .i64 0]) ∧ OwnRn w' w.heap.size M ∧ Below w.heap.size w w' ∧ Alike R M := by
  obtain ⟨aQ, nQ, cQ, q, aD, nD, cD, d, turn, fresh, aS, nS, cS, A, L, C, z⟩ := R
  have HSm : Hid (Rnd.Small ⟨aQ, nQ, cQ, q, aD, nD, cD, d, turn, fresh, aS, nS, cS, A, L, C, z⟩) := hs
  have HRd : Hid (RdRnd w ⟨aQ, nQ, cQ, q, aD, nD, cD, d, turn, fresh, aS, nS, cS, A, L, C, z⟩) := h
  have hsS : nS ≤ 1048576 := hs.s
  have HnS : Hid (nS = nQ) := ho.s
  have HNo : Hid (∀ i, i < nQ → L i = 0) := hno
  have HRow : Hid (RdRow w aS nS fun i => .slice (A i) (L i) (C i)) := h.s
  have hB : Below (w.heap.size + 2) ((w.alloc (.cells #[.slice aQ nQ cQ, .slice aD nD cD, .int .i64 turn, .bool fresh, .slice aS nS cS] 27)).alloc (.cells #[.slice none 0 0, .slice none 0 0, .int .i64 0, .bool false, .slice none 0 0] 27)) ((w.alloc (.cells #[.slice aQ nQ cQ, .slice aD nD cD, .int .i64 turn, .bool fresh, .slice aS nS cS] 27)).alloc (.cells #[.slice none 0 0, .slice none 0 0, .int .i64 0, .bool false, .slice none 0 0] 27)) := Below.refl _ _
  have cb := boxed2p hB
  clear hs h ho hno
  unfold Rnd.cells
  dsimp only
  go_enter Try.func27, Try.ntmps27
  go_wp2_with fail
  go_loop [5, 6] (fun bv i => ∃ (j : Nat), j ≤ nS ∧ i = .int .i64 j ∧ bv = .bool false) (fun _ i => nS - (intOf i).toNat)
  case atStart => exact ⟨0, Nat.zero_le _, rfl, rfl⟩
  case round =>
    obtain ⟨j, hj, rfl, rfl⟩ := hrel
    by_cases hlt : j < nS
    · have hlt' : (j : Int) < nS := by omega
      obtain ⟨g, o, rfl, s1⟩ := (HRow.out.up (under2p hB)) j hlt
      dsimp only at s1
      have hLj : L j = 0 := HNo.out j (by have := HnS.out; omega)
      rw [hLj] at s1
      clear hLj
      go_wp2_with fail
      go_round
      case rel => exact ⟨j + 1, by omega, by go_num, rfl⟩
      case measure => simp [intOf]; omega
    · obtain rfl : j = nS := by omega
      have hjj : ¬ ((j : Nat) : Int) < ((j : Nat) : Int) := by omega
      go_wp2_with fail
      refine (l4Copy_any ⟨aQ, nQ, cQ, q, aD, nD, cD, d, turn, fresh, aS, j, cS, A, L, C, z⟩ _ HSm.out (HRd.out.up (under2p hB))).mono ?_
      rintro e w3 ⟨aq, cq, ad, cd, av, cv, A2, C2, rfl, hOw, hb⟩
      replace hB := next2p hB hb
      have hA := (Below.refl w3.heap.size w3).alloc (Nat.le_refl _) (.cells #[.slice aq nQ cq, .slice ad nD cd, .int .i64 turn, .bool fresh, .slice av j cv] 27)
      have kb := blk_new w3 (.cells #[.slice aq nQ cq, .slice ad nD cd, .int .i64 turn, .bool fresh, .slice av j cv] 27)
      have hOw2 := hOw.own.up hA
      have hgb : w.heap.size + 2 ≤ w3.heap.size := by have := upper2p hB; omega
      replace hB := next2p hB hA
      clear hb hA hOw
      dsimp only [Rnd.cells, Rnd.cp2]
      go_wp2_with fail
      generalize w3.alloc (.cells #[.slice aq nQ cq, .slice ad nD cd, .int .i64 turn, .bool fresh, .slice av j cv] 27) = w4 at *
      generalize w3.heap.size = gb at *
      have HB4 : Hid (Below (w.heap.size + 2) _ w4) := hB
      have kR := out2p hB
      have cR := blk_cell kR
      have fR := blk_free kR
      have cG := blk_cell kb
      have hne : gb ≠ w.heap.size + 1 := by omega
      have hne2 : w.heap.size + 1 ≠ gb := by omega
      have hbase : ((w.alloc (.cells #[.slice aQ nQ cQ, .slice aD nD cD, .int .i64 turn, .bool fresh, .slice aS j cS] 27)).alloc (.cells #[.slice none 0 0, .slice none 0 0, .int .i64 0, .bool false, .slice none 0 0] 27)).heap.size = w.heap.size + 2 := by simp
      rw [hbase] at hOw2
      have HOw : Hid (OwnRn w4 (w.heap.size + 2) (Rnd.cp2 ⟨aQ, nQ, cQ, q, aD, nD, cD, d, turn, fresh, aS, j, cS, A, L, C, z⟩ aq cq ad cd av cv A2 C2)) := hOw2
      have HKR : Hid (w4.heap[w.heap.size + 1]? = some (.cells #[.slice none 0 0, .slice none 0 0, .int .i64 0, .bool false, .slice none 0 0] 27 (0, 0))) := kR
      have HUn : Hid (Below w.heap.size w w4) := under2p hB
      clear hOw2 hbase hB kR kb HRd HSm HRow HNo HnS
      go_loopw [8] (fun _ wr => wr = w4) (fun _ _ => 0)
      case atStart => rfl
      case round =>
        obtain rfl := hrel
        go_wp2_with fail
        have ht := put5_touch wr (w.heap.size + 1) (.slice aq nQ cq) (.slice ad nD cd) (.int .i64 turn) (.bool fresh) (.slice av j cv)
        have cF := blk_cell (put5_blk HKR.out (.slice aq nQ cq) (.slice ad nD cd) (.int .i64 turn) (.bool fresh) (.slice av j cv))
        have hBf := HUn.out.trans (ht.below HUn.out.size (fun x hx => by simp at hx; omega))
        have hOf := (HOw.out.touch ht (fun x hx => by simp at hx; omega)).mono (show w.heap.size ≤ w.heap.size + 2 by omega)
        unfold put5 at cF hBf hOf
        exact bodyPost_ret (v := .tuple #[.agg #[.slice aq nQ cq, .slice ad nD cd, .int .i64 turn, .bool fresh, .slice av j cv], .int .i64 (-1), .int .i64 0]) (by simp [results, Try.results27, go_sem, cF]) rfl ⟨_, rfl, hOf, hBf, ⟨rfl, rfl, rfl, rfl, rfl, rfl, rfl, rfl, rfl⟩⟩
/-- what a pick answers -/
def PickM (R M : Rnd) (x s : Int) : Prop :=
  (¬ R.Ok ∧ M = zR ∧ x = -1 ∧ s = 0) ∨ (R.Ok ∧ (∀ i, i < R.nQ → R.L i = 0) ∧ M = R ∧ x = -1 ∧ s = 0) ∨ (R.Ok ∧ (∃ c0, c0 < R.nQ ∧ R.L c0 ≠ 0) ∧ ∃ k c, Picks k R M c s ∧ x = ((c : Nat) : Int))
theorem pickM_ex (R : Rnd) : ∃ M x s, PickM R M x s := by
  by_cases ho : R.Ok
  · by_cases hw : ∃ c0, c0 < R.nQ ∧ R.L c0 ≠ 0
    · obtain ⟨c0, h1, h2⟩ := hw
      obtain ⟨k, R', c, s, hp⟩ := picks_ex c0 _ R rfl ho h1 h2
      exact ⟨R', c, s, .inr (.inr ⟨ho, ⟨c0, h1, h2⟩, k, c, hp, rfl⟩)⟩
    · refine ⟨R, -1, 0, .inr (.inl ⟨ho, fun i hi => ?_, rfl, rfl, rfl⟩)⟩
      by_cases e : R.L i = 0
      · exact e
      · exact absurd ⟨i, hi, e⟩ hw
  · exact ⟨zR, -1, 0, .inl ⟨ho, rfl, rfl, rfl⟩⟩
theorem Alike.okI {A B : Rnd} (h : Alike A B) : B.Ok ↔ A.Ok := by
  have key : ∀ {A B : Rnd}, Alike A B → A.Ok → B.Ok := fun {A B} h ho => by
    refine ⟨by rw [h.nQ]; exact ho.n, by rw [h.nD, h.nQ]; exact ho.d, by rw [h.nS, h.nQ]; exact ho.s, by rw [h.t, h.nQ]; exact ho.t, fun i hi => ?_⟩
    have := ho.c i (by rw [← h.nQ]; exact hi)
    unfold Rnd.begun at this ⊢
    rw [h.q, h.d, h.l, h.z, h.t, h.f]
    exact this
  exact ⟨key h.symm, key h⟩
theorem PickM.like {R M B : Rnd} {x s : Int} (h : PickM R M x s) (ha : Alike R B) : ∃ M', PickM B M' x s ∧ Alike M M' := by
  rcases h with ⟨ho, rfl, h1, h2⟩ | ⟨ho, hn, rfl, h1, h2⟩ | ⟨ho, ⟨c0, h1, h2⟩, k, c, hp, hx⟩
  · exact ⟨zR, .inl ⟨fun hb => ho (ha.okI.1 hb), rfl, h1, h2⟩, Alike.refl _⟩
  · exact ⟨B, .inr (.inl ⟨ha.okI.2 ho, fun i hi => by rw [ha.l]; exact hn i (by rw [← ha.nQ]; exact hi), rfl, h1, h2⟩), ha⟩
  · obtain ⟨B', hp2, ha2⟩ := hp.like ha
    exact ⟨B', .inr (.inr ⟨ha.okI.2 ho, ⟨c0, by rw [ha.nQ]; exact h1, by rw [ha.l]; exact h2⟩, k, c, hp2, hx⟩), ha2⟩
theorem l4PickedM_any (R M : Rnd) (x s : Int) (w : World) (hs : R.Small) (h : RdRnd w R) (ho : R.Ok) (hp : PickM R M x s) :
    Calls Try.prog 27 #[.agg R.cells] w fun e w' => ∃ R', e = .returned (.tuple #[.agg R'.cells, .int .i64 x, .int .i64 s]) ∧ OwnRn w' w.heap.size R' ∧ Below w.heap.size w w' ∧ Alike M R' := by
  rcases hp with ⟨hn, _⟩ | ⟨_, hn, rfl, rfl, rfl⟩ | ⟨_, ⟨c0, h1, h2⟩, k, c, hp, rfl⟩
  · exact absurd ho hn
  · exact l4Picked_none _ w hs h ho hn
  · exact l4Picked_any R w hs h ho c0 h1 h2 k M c s hp
set_option maxHeartbeats 4000000 in
theorem sPicked_any (R M : Rnd) (x s : Int) (w : World) (hs : R.Small) (h : RdRnd w R) (hp : PickM R M x s) :
    Calls Try.prog 10 #[.agg R.cells] w fun e w' => ∃ R', e = .returned (.tuple #[.agg R'.cells, .int .i64 x, .int .i64 s]) ∧ OwnRn w' w.heap.size R' ∧ Below w.heap.size w w' ∧ Alike M R' := by
  have HP : Hid (PickM R M x s) := hp
  have HR : Hid (RdRnd w R) := h
  have HS : Hid R.Small := hs
  obtain ⟨ok, hok⟩ := ok_decR R.Ok
  have HO : Hid (ok = true ↔ R.Ok) := hok
  have HA : Hid (∀ A B, Below w.heap.size w ((w.alloc A).alloc B)) := fun A B => ((Below.refl _ _).alloc (Nat.le_refl _) _).alloc (by simp) _
  clear hp h hs hok
  unfold Rnd.cells
  go_enter Try.func10, Try.ntmps10
  go_wp2_with fail
  refine (sRoundOk_any R _ (small_fit HS.out) (HR.out.up (HA.out _ _)) ok HO.out).mono ?_
  rintro e w1 ⟨rfl, hb1⟩
  obtain ⟨kA, kB, B1, z1⟩ := two_laidR hb1
  clear hb1 HA
  have cA := blk_cell kA
  cases ok
  · have hM : M = zR ∧ x = -1 ∧ s = 0 := by
      rcases HP.out with ⟨_, h1, h2, h3⟩ | ⟨ho, _⟩ | ⟨ho, _⟩
      · exact ⟨h1, h2, h3⟩
      · exact absurd (HO.out.2 ho) (by simp)
      · exact absurd (HO.out.2 ho) (by simp)
    obtain ⟨rfl, rfl, rfl⟩ := hM
    have cX := blk_cell kB
    have fX := blk_free kB
    go_wp2_with fail
    have ht := put5_touch w1 (w.heap.size + 1) (.slice none 0 0) (.slice none 0 0) (.int .i64 0) (.bool false) (.slice none 0 0)
    have cF := blk_cell (put5_blk kB (.slice none 0 0) (.slice none 0 0) (.int .i64 0) (.bool false) (.slice none 0 0))
    have hBf := B1.trans (ht.below B1.size (fun x hx => by simp at hx; omega))
    unfold put5 at cF hBf
    exact bodyPost_ret (v := .tuple #[.agg zR.cells, .int .i64 (-1), .int .i64 0]) (by simp [results, Try.results10, go_sem, cF, zR, Rnd.cells]) rfl ⟨zR, rfl, zR_own _ _, hBf, Alike.refl _⟩
  have HOk : Hid R.Ok := HO.out.1 rfl
  go_wp2_with fail
  refine (l4PickedM_any R M x s _ HS.out (HR.out.up B1) HOk.out HP.out).mono ?_
  rintro e w2 ⟨R', rfl, hOw, hb2, hAl⟩
  have HAl : Hid (Alike M R') := hAl
  have HOw : Hid (OwnRn w2 w1.heap.size R') := hOw
  have kB2 := (hb2.block _ (blk_lt kB)).trans kB
  have B2 := B1.trans (hb2.mono B1.size)
  have cX := blk_cell kB2
  have fX := blk_free kB2
  clear hAl hOw hb2 cA kA
  unfold Rnd.cells
  go_wp2_with fail
  have ht := put5_touch w2 (w.heap.size + 1) (.slice R'.aQ R'.nQ R'.cQ) (.slice R'.aD R'.nD R'.cD) (.int .i64 R'.turn) (.bool R'.fresh) (.slice R'.aS R'.nS R'.cS)
  have cF := blk_cell (put5_blk kB2 (.slice R'.aQ R'.nQ R'.cQ) (.slice R'.aD R'.nD R'.cD) (.int .i64 R'.turn) (.bool R'.fresh) (.slice R'.aS R'.nS R'.cS))
  have hBf := B2.trans (ht.below B2.size (fun x hx => by simp at hx; omega))
  have hOf := (HOw.out.touch ht (fun x hx => by simp at hx; omega)).mono (show w.heap.size ≤ w1.heap.size from B1.size)
  unfold put5 at cF hBf hOf
  exact bodyPost_ret (v := .tuple #[.agg #[.slice R'.aQ R'.nQ R'.cQ, .slice R'.aD R'.nD R'.cD, .int .i64 R'.turn, .bool R'.fresh, .slice R'.aS R'.nS R'.cS], .int .i64 x, .int .i64 s]) (by simp [results, Try.results10, go_sem, cF]) rfl ⟨R', rfl, hOf, hBf, HAl.out⟩
end Go.Proofs.Ytnfcmiiibkbmfaa
