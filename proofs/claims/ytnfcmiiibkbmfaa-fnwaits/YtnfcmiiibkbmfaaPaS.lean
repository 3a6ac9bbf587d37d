/- Several picks: the specification's answer. -/
import Derived.Test.YtnfcmiiibkbmfaaPaI
namespace Go.Proofs.Ytnfcmiiibkbmfaa
open Go.RowKit
set_option linter.unusedVariables false
set_option linter.unusedSimpArgs false

theorem own_keepT {w w' : World} {base n : Nat} {v : Value} {xs : List Value} (h : w.ownsRow base 2 1 v n xs) (hk : ∀ (b : Nat) (cur : Array Value), w.heap[b]? = some (Obj.cells cur 2 (0, 0)) → w'.heap[b]? = w.heap[b]?) : w'.ownsRow base 2 1 v n xs := by
  obtain ⟨hl, h | ⟨g', cap', cur, hv, hg, hblk, hr⟩⟩ := h
  · exact ⟨hl, .inl h⟩
  · exact ⟨hl, .inr ⟨g', cap', cur, hv, hg, (hk g' cur hblk).trans hblk, hr⟩⟩
theorem own_ltA {w : World} {base n : Nat} {v : Value} {xs : List Value} (h : w.ownsRow base 2 1 v n xs) {x : Nat} (hx : v.ownBlock = some x) : x < w.heap.size := by
  obtain ⟨hl, ⟨rfl, _⟩ | ⟨g', cap', cur, rfl, hg, hblk, hr⟩⟩ := h
  · cases hx
  · simp only [Value.ownBlock, Option.some.injEq] at hx
    have := blk_lt hblk
    omega
theorem OwnRn.blks {w : World} {base : Nat} {R : Rnd} (h : OwnRn w base R) : ∀ x ∈ rBlk R, base ≤ x ∧ x < w.heap.size := fun x hx => by
  unfold rBlk at hx
  rcases List.mem_append.1 hx with hx | hx
  · rcases List.mem_append.1 hx with hx | hx
    · rcases List.mem_append.1 hx with hx | hx
      · exact h.q.blk x hx
      · exact h.d.blk x hx
    · rcases h.s with h0 | ⟨g, e, hb, hr⟩
      · unfold blkI at hx; rw [if_pos h0] at hx; simp at hx
      · rw [e] at hx
        unfold blkI at hx
        split at hx
        · simp at hx
        · have hx' : x = g := by simpa using hx
          rw [hx']
          exact ⟨hb, hr.lt⟩
  · obtain ⟨i, hi, hx⟩ := zBlk_mem.1 hx
    exact (h.z i hi).blk x hx
theorem OwnRn.touchB {w w' : World} {base : Nat} {R : Rnd} {S : List Nat} (h : OwnRn w base R) (ht : Touch S w w') (hS : ∀ x ∈ rBlk R, x ∉ S) : OwnRn w' base R := by
  refine ⟨h.q.touchS ht (fun x hx => hS x (by unfold rBlk; simp [hx])), h.d.touchS ht (fun x hx => hS x (by unfold rBlk; simp [hx])), ?_, fun i hi => (h.z i hi).touchS ht (fun x hx => hS x (by unfold rBlk; exact List.mem_append_right _ (zBlk_mem.2 ⟨i, hi, hx⟩))), h.qd, h.qz, h.dz, h.zz⟩
  rcases h.s with h0 | ⟨g, e, hb, hr⟩
  · exact .inl h0
  · by_cases hn : R.nS = 0
    · exact .inl hn
    refine .inr ⟨g, e, hb, hr.keep (ht.block g hr.lt (hS g ?_))⟩
    unfold rBlk
    have : g ∈ blkI R.aS R.nS := by rw [e]; exact blkI_mem hn
    simp [this]
/-- the specification's run, between two picks -/
structure PaS (w : World) (gb : Nat) (R : Rnd) (k : Nat) (X X' : Rnd) (ds : List Int) (v : Value) (wr : World) : Prop where
  run : PickF k R X ds
  like : Alike X X'
  box : wr.heap[gb]? = some (.cells X'.cells 27 (0, 0))
  rows : OwnRn wr (w.heap.size + 2) X'
  own : wr.ownsRow (w.heap.size + 2) 2 1 v ds.length (ds.map (.int .i64))
  ap : ∀ x ∈ rBlk X', v.ownBlock ≠ some x
  res : wr.heap[w.heap.size + 1]? = some (.cells #[.slice none 0 0, .slice none 0 0, .int .i64 0, .bool false, .slice none 0 0] 27 (0, 0))
  below : Below w.heap.size w wr
theorem PaS.up {w wr wr' : World} {gb : Nat} {R : Rnd} {k : Nat} {X X' : Rnd} {ds : List Int} {v : Value} (h : PaS w gb R k X X' ds v wr) (hb : Below wr.heap.size wr wr') : PaS w gb R k X X' ds v wr' :=
  ⟨h.run, h.like, (hb.block _ (blk_lt h.box)).trans h.box, h.rows.up hb, own_keepT h.own (fun b cur hk => hb.block b (blk_lt hk)), h.ap, (hb.block _ (blk_lt h.res)).trans h.res, h.below.trans (hb.mono h.below.size)⟩
/-- a new round laid into the box, a class behind the list -/
theorem PaS.next {w wr w4 : World} {gb : Nat} {R : Rnd} {k : Nat} {X X' Y R4 : Rnd} {ds : List Int} {v : Value} {c : Nat} (h : PaS w gb R k X X' ds v wr) (hgb : w.heap.size + 1 < gb) (hF : PickF (k + 1) R Y (ds ++ [((c : Nat) : Int)])) (hA : Alike Y R4) (hb : Below wr.heap.size wr w4) (hO : OwnRn w4 wr.heap.size R4) (hl : ds.length ≤ 1000) (o9 : Obj) (W5 : World)
    (hW : W5 = put5 (w4.alloc o9) gb (.slice R4.aQ R4.nQ R4.cQ) (.slice R4.aD R4.nD R4.cD) (.int .i64 R4.turn) (.bool R4.fresh) (.slice R4.aS R4.nS R4.cS)) :
    ∃ a' c' W', (Builtin.append_ #[24, 24] 24 #[v, .slice (some ⟨W5.heap.size, 0, none⟩) 1 1]).run Try.prog (W5.alloc (.cells #[.int .i64 (c : Int)] 2)) = .ok (.slice a' (ds.length + 1) c') W' ∧ PaS w gb R (k + 1) Y R4 (ds ++ [((c : Nat) : Int)]) (.slice a' (ds.length + 1) c') W' := by
  have h4 := h.up hb
  have hA9 : Below w4.heap.size w4 (w4.alloc o9) := (Below.refl _ _).alloc (Nat.le_refl _) _
  have h5 := h4.up hA9
  have hO5 := hO.up hA9
  have hgl : gb < wr.heap.size := blk_lt h.box
  have ht := put5_touch (w4.alloc o9) gb (.slice R4.aQ R4.nQ R4.cQ) (.slice R4.aD R4.nD R4.cD) (.int .i64 R4.turn) (.bool R4.fresh) (.slice R4.aS R4.nS R4.cS)
  have hbx : W5.heap[gb]? = some (.cells R4.cells 27 (0, 0)) := by rw [hW]; exact put5_blk h5.box _ _ _ _ _
  rw [← hW] at ht
  have hb2 := h.below.size
  have hO6 : OwnRn W5 wr.heap.size R4 := hO5.touch ht (fun x hx => by simp at hx; omega)
  have hown6 : W5.ownsRow (w.heap.size + 2) 2 1 v ds.length (ds.map (.int .i64)) := own_keepT h5.own (fun b cur hk => ht.block b (blk_lt hk) (fun hx => by
    simp at hx
    subst hx
    rw [h5.box] at hk
    simp at hk))
  have hres6 := (ht.block _ (blk_lt h5.res) (by simp; omega)).trans h5.res
  have hbel6 := h5.below.trans (ht.below h5.below.size (fun x hx => by simp at hx; omega))
  have hsz := h5.below.size
  have hrs := blk_lt h.res
  obtain ⟨v', W', hrun, hown', ⟨a', c', rfl⟩, ⟨S, hTS, hS1, hS2⟩, hob⟩ := app_one hown6 (c : Int) hl (by have := ht.size; have := blk_lt hres6; have := blk_lt h5.box; omega)
  have eL : (ds ++ [((c : Nat) : Int)]).length = ds.length + 1 := by simp
  have hvl : ∀ x, v.ownBlock = some x → x < wr.heap.size := fun x e => own_ltA h.own e
  have hrb := hO6.blks
  have hrb4 := hO.blks
  have hs4 : w4.heap.size ≤ W5.heap.size := Nat.le_trans hA9.size ht.size
  have hap' : ∀ x ∈ rBlk R4, (Value.slice a' (ds ++ [((c : Nat) : Int)]).length c').ownBlock ≠ some x := fun x hx e => by
    rcases hob with e2 | ⟨g, e2, hg⟩
    · rw [e] at e2
      have := hvl x e2.symm
      have := (hrb x hx).1
      omega
    · rw [e] at e2
      cases e2
      have := (hrb4 x hx).2
      omega
  rw [eL] at hrun hap'
  refine ⟨a', c', W', hrun, hF, hA, (hTS.block _ (blk_lt hbx) (fun hx => ?_)).trans hbx, (hO6.touchB hTS (fun x hx hx2 => ?_)).mono (by omega), by rw [eL] at hown' ⊢; exact hown', hap', (hTS.block _ (blk_lt hres6) (fun hx => by have := hS1 _ hx; omega)).trans hres6, hbel6.trans (hTS.below hbel6.size (fun x hx => by have := hS1 x hx; omega))⟩
  · obtain ⟨_, hz | ⟨g', cap', cur, rfl, hg, hblk, _⟩⟩ := h.own
    · have := hS2 _ hx
      rw [hz.1] at this
      cases this
    · have := hS2 _ hx
      simp only [Value.ownBlock, Option.some.injEq] at this
      subst this
      rw [h.box] at hblk
      simp at hblk
  · have := hvl x (hS2 x hx2)
    have := (hrb x hx).1
    omega
theorem pas_close {w w4 : World} {gb k : Nat} {R X X4 : Rnd} {v : Value} {ds : List Int} (h : PaS w gb R k X X4 ds v w4) (hgb : w.heap.size + 1 < gb) :
    (∀ o, (put5 w4 (w.heap.size + 1) (.slice X4.aQ X4.nQ X4.cQ) (.slice X4.aD X4.nD X4.cD) (.int .i64 X4.turn) (.bool X4.fresh) (.slice X4.aS X4.nS X4.cS)).cell? ⟨w.heap.size + 1, o, none⟩ = (#[.slice X4.aQ X4.nQ X4.cQ, .slice X4.aD X4.nD X4.cD, .int .i64 X4.turn, .bool X4.fresh, .slice X4.aS X4.nS X4.cS] : Array Value)[o]?) ∧
    OwnRn (put5 w4 (w.heap.size + 1) (.slice X4.aQ X4.nQ X4.cQ) (.slice X4.aD X4.nD X4.cD) (.int .i64 X4.turn) (.bool X4.fresh) (.slice X4.aS X4.nS X4.cS)) w.heap.size X4 ∧ World.ownsRow (put5 w4 (w.heap.size + 1) (.slice X4.aQ X4.nQ X4.cQ) (.slice X4.aD X4.nD X4.cD) (.int .i64 X4.turn) (.bool X4.fresh) (.slice X4.aS X4.nS X4.cS)) w.heap.size 2 1 v ds.length (ds.map (.int .i64)) ∧
    Below w.heap.size w (put5 w4 (w.heap.size + 1) (.slice X4.aQ X4.nQ X4.cQ) (.slice X4.aD X4.nD X4.cD) (.int .i64 X4.turn) (.bool X4.fresh) (.slice X4.aS X4.nS X4.cS)) := by
  have ht := put5_touch w4 (w.heap.size + 1) (.slice X4.aQ X4.nQ X4.cQ) (.slice X4.aD X4.nD X4.cD) (.int .i64 X4.turn) (.bool X4.fresh) (.slice X4.aS X4.nS X4.cS)
  exact ⟨blk_cell (put5_blk h.res _ _ _ _ _), (h.rows.touch ht (fun x hx => by simp at hx; omega)).mono (by omega), own_lowA (own_keepA h.own (fun b hb hlt => ht.block b hlt (by simp; omega))) (by omega), h.below.trans (ht.below h.below.size (fun x hx => by simp at hx; omega))⟩
theorem ok_smallA {R : Rnd} (h : R.Ok) : R.Small := by
  have hn := h.n
  refine ⟨by omega, by rw [h.d]; omega, by rw [h.s]; omega, fun i hi => ?_⟩
  have := (h.c i (by rw [h.s] at hi; exact hi)).2.1.1
  omega
set_option maxRecDepth 100000 in
set_option maxHeartbeats 8000000 in
theorem sPickedAll_any (R M : Rnd) (n : Int) (cs : List Int) (w : World) (hs : R.Small) (h : RdRnd w R) (hp : PickA R n M cs) :
    Calls Try.prog 20 #[.agg R.cells, .int .i64 n] w fun e w' => ∃ R' v, e = .returned (.tuple #[.agg R'.cells, v]) ∧ OwnRn w' w.heap.size R' ∧ w'.ownsRow w.heap.size 2 1 v cs.length (cs.map (.int .i64)) ∧ Below w.heap.size w w' ∧ Alike M R' := by
  have HP : Hid (PickA R n M cs) := hp
  have HR : Hid (RdRnd w R) := h
  have HS : Hid R.Small := hs
  obtain ⟨ok, hok⟩ := ok_decR R.Ok
  have HO : Hid (ok = true ↔ R.Ok) := hok
  have HA : Hid (∀ A B C, Below w.heap.size w (((w.alloc A).alloc B).alloc C)) := fun A B C => (((Below.refl _ _).alloc (Nat.le_refl _) _).alloc (by simp) _).alloc (by simp; omega) _
  have HNo : Hid (¬ validA R n → M = zR ∧ cs = []) := fun hv => by
    rcases HP.out with ⟨_, h1, h2⟩ | ⟨h1, _⟩
    · exact ⟨h1, h2⟩
    · exact absurd h1 hv
  clear hp h hs hok
  unfold Rnd.cells
  go_enter Try.func20, Try.ntmps20
  go_wp2_with fail
  refine (sRoundOk_any R _ (small_fit HS.out) (HR.out.up (HA.out _ _ _)) ok HO.out).mono ?_
  rintro e w1 ⟨rfl, hb1⟩
  obtain ⟨kA, kB, kE, B1, z1⟩ := three_laidR hb1
  clear hb1 HA
  have cA := blk_cell kA
  have cX := blk_cell kB
  have fX := blk_free kB
  have HBad : Hid (M = zR → cs = [] → ∃ w', w' = put5 w1 (w.heap.size + 1) (.slice none 0 0) (.slice none 0 0) (.int .i64 0) (.bool false) (.slice none 0 0) ∧ (∀ o, w'.cell? ⟨w.heap.size + 1, o, none⟩ = (#[.slice none 0 0, .slice none 0 0, .int .i64 0, .bool false, .slice none 0 0] : Array Value)[o]?) ∧ Below w.heap.size w w') := fun _ _ => by
    have ht := put5_touch w1 (w.heap.size + 1) (.slice none 0 0) (.slice none 0 0) (.int .i64 0) (.bool false) (.slice none 0 0)
    exact ⟨_, rfl, blk_cell (put5_blk kB (.slice none 0 0) (.slice none 0 0) (.int .i64 0) (.bool false) (.slice none 0 0)), B1.trans (ht.below B1.size (fun x hx => by simp at hx; omega))⟩
  by_cases hv : validA R n
  rotate_left
  · obtain ⟨hM, hc⟩ := HNo.out hv
    obtain ⟨w', ew, cF, hBf⟩ := HBad.out hM hc
    have hin : ok = true → ¬ (0 ≤ n ∧ n ≤ 200) := fun e h2 => hv ⟨HO.out.1 e, h2⟩
    subst hM
    subst hc
    unfold put5 at ew
    clear hv
    cases ok
    · go_wp2_with fail
      rw [← ew]
      exact bodyPost_ret (v := .tuple #[.agg zR.cells, .slice none 0 0]) (by simp [results, Try.results20, go_sem, cF, zR, Rnd.cells]) rfl ⟨zR, _, rfl, zR_own _ _, ⟨rfl, .inl ⟨rfl, rfl⟩⟩, hBf, Alike.refl _⟩
    · have hin2 := hin rfl
      go_wp2_with fail
      refine (l1In_any _ _ _ _).mono ?_
      rintro e w1' ⟨rfl, hw1'⟩
      obtain rfl := hw1'
      rw [decide_eq_false hin2]
      go_wp2_with fail
      rw [← ew]
      exact bodyPost_ret (v := .tuple #[.agg zR.cells, .slice none 0 0]) (by simp [results, Try.results20, go_sem, cF, zR, Rnd.cells]) rfl ⟨zR, _, rfl, zR_own _ _, ⟨rfl, .inl ⟨rfl, rfl⟩⟩, hBf, Alike.refl _⟩
  have HV : Hid (validA R n) := hv
  obtain rfl : ok = true := HO.out.2 hv.1
  have hin : 0 ≤ n ∧ n ≤ 200 := hv.2
  clear hv HBad HNo HO
  go_wp2_with fail
  refine (l1In_any _ _ _ _).mono ?_
  rintro e w1' ⟨rfl, hw1'⟩
  obtain rfl := hw1'
  rw [decide_eq_true hin]
  go_wp2_with fail
  refine (l4Copy_any R _ HS.out (HR.out.up B1)).mono ?_
  rintro e w2 ⟨aq, cq, ad, cd, av, cv, A2, C2, rfl, hOw, hb2⟩
  have hAl0 : Alike R (R.cp2 aq cq ad cd av cv A2 C2) := ⟨rfl, rfl, rfl, rfl, rfl, rfl, rfl, rfl, rfl⟩
  obtain ⟨M2, hp2, hAl2⟩ := HP.out.like hAl0
  have hok2 : (R.cp2 aq cq ad cd av cv A2 C2).Ok := hAl0.okI.2 HV.out.1
  have B2 := B1.trans (hb2.mono B1.size)
  have hz2 := hb2.size
  have hX : Below w2.heap.size w2 (w2.alloc (.cells (R.cp2 aq cq ad cd av cv A2 C2).cells 27)) := (Below.refl _ _).alloc (Nat.le_refl _) _
  have HI0 : Hid (PaS w w2.heap.size (R.cp2 aq cq ad cd av cv A2 C2) 0 (R.cp2 aq cq ad cd av cv A2 C2) (R.cp2 aq cq ad cd av cv A2 C2) [] (.slice (some ⟨w.heap.size + 1 + 1, 0, none⟩) 0 0) (w2.alloc (.cells (R.cp2 aq cq ad cd av cv A2 C2).cells 27))) := by
    have kB2 := (hb2.block _ (blk_lt kB)).trans kB
    have kE2 := (hb2.block _ (blk_lt kE)).trans kE
    refine ⟨.zero, Alike.refl _, blk_new _ _, (hOw.own.up hX).mono (by omega), own_empty (by omega) ((hX.block _ (blk_lt kE2)).trans kE2), fun x hx e => ?_, (hX.block _ (blk_lt kB2)).trans kB2, B2.trans (hX.mono B2.size)⟩
    have h1 := (hOw.own.blks x hx).1
    simp only [Value.ownBlock, Option.some.injEq] at e
    omega
  have HP2 : Hid (PickA (R.cp2 aq cq ad cd av cv A2 C2) n M2 cs) := hp2
  have HOk2 : Hid (R.cp2 aq cq ad cd av cv A2 C2).Ok := hok2
  have HV2 : Hid (validA (R.cp2 aq cq ad cd av cv A2 C2) n) := ⟨hok2, HV.out.2⟩
  have HAl2 : Hid (Alike M M2) := hAl2
  have HGb : Hid (w.heap.size + 1 < w2.heap.size) := by rw [Hid]; omega
  have hn200 : n ≤ 200 := HV.out.2.2
  clear hOw hb2 hp2 hok2 hAl2 hAl0 hX kB kE B1 B2 cA kA cX fX
  dsimp only [Rnd.cp2, Rnd.cells]
  dsimp only [Rnd.cp2, Rnd.cells] at HI0 HP2 HOk2 HV2
  go_wp2_with fail
  generalize w2.alloc (.cells #[.slice aq R.nQ cq, .slice ad R.nD cd, .int .i64 R.turn, .bool R.fresh, .slice av R.nS cv] 27) = w3 at *
  generalize (⟨aq, R.nQ, cq, R.q, ad, R.nD, cd, R.d, R.turn, R.fresh, av, R.nS, cv, A2, R.L, C2, R.z⟩ : Rnd) = R0 at *
  generalize w2.heap.size = gb at *
  clear hz2 z1 HR HS HP HV
  go_loopw [8, 6] (fun i v wr => ∃ (k : Nat) (X X' : Rnd) (ds : List Int), (k : Int) ≤ n ∧ i = .int .i64 k ∧ PaS w gb R0 k X X' ds v wr) (fun i _ _ => (n - intOf i).toNat)
  case atStart => exact ⟨0, _, _, [], by omega, rfl, HI0.out⟩
  case round =>
    clear HI0
    obtain ⟨k, X, X', ds, hk, rfl, hI⟩ := hrel
    obtain ⟨a7, c7, rfl⟩ := own_formA hI.own
    have HI : Hid (PaS w gb R0 k X X' ds (.slice a7 ds.length c7) wr) := hI
    have hlen := hI.run.len
    have hokX' : X'.Ok := hI.like.okI.2 (hI.run.ok HOk2.out).1
    by_cases hlt : (k : Int) < n
    · have cG0 := blk_cell hI.box
      unfold Rnd.cells at cG0
      rcases pick_step HOk2.out hI.run with ⟨kk, Y, c, s, hPk, hF, c0, h1, h2⟩ | hno
      · obtain ⟨Y', hPk', hAY⟩ := hPk.like hI.like
        have HPM : Hid (PickM X' Y' c s) := .inr (.inr ⟨hokX', ⟨c0, by rw [hI.like.nQ]; exact h1, by rw [hI.like.l]; exact h2⟩, kk, c, hPk', rfl⟩)
        have hne : ¬ ((c : Nat) : Int) < 0 := by omega
        have HF : Hid (PickF (k + 1) R0 Y (ds ++ [((c : Nat) : Int)])) := hF
        have HAY : Hid (Alike Y Y') := hAY
        have HokX : Hid X'.Ok := hokX'
        have hds : ds.length ≤ 1000 := by omega
        clear hI hPk hF h1 h2 hPk' hAY hokX' hlen
        go_wp2_with fail
        refine (l4PickedM_any X' Y' c s _ (ok_smallA HokX.out) HI.out.rows.rd HokX.out HPM.out).mono ?_
        rintro e w4 ⟨R4, rfl, hO4, hb4, hA4⟩
        obtain ⟨W5, eW5⟩ : ∃ W5, W5 = put5 (w4.alloc (.cells #[.slice R4.aQ R4.nQ R4.cQ, .slice R4.aD R4.nD R4.cD, .int .i64 R4.turn, .bool R4.fresh, .slice R4.aS R4.nS R4.cS] 27)) gb (.slice R4.aQ R4.nQ R4.cQ) (.slice R4.aD R4.nD R4.cD) (.int .i64 R4.turn) (.bool R4.fresh) (.slice R4.aS R4.nS R4.cS) := ⟨_, rfl⟩
        obtain ⟨a', c', W', hrun, hN⟩ := HI.out.next HGb.out HF.out (HAY.out.trans hA4) hb4 hO4 hds _ W5 eW5
        have HN : Hid (PaS w gb R0 (k + 1) Y R4 (ds ++ [((c : Nat) : Int)]) (.slice a' (ds.length + 1) c') W') := hN
        have h5 := (HI.out.up hb4).up (wr' := w4.alloc (.cells #[.slice R4.aQ R4.nQ R4.cQ, .slice R4.aD R4.nD R4.cD, .int .i64 R4.turn, .bool R4.fresh, .slice R4.aS R4.nS R4.cS] 27)) ((Below.refl _ _).alloc (Nat.le_refl _) _)
        have cG := blk_cell h5.box
        have fG := blk_free h5.box
        unfold Rnd.cells at cG
        have hneg : w4.heap.size ≠ gb := by have := blk_lt HI.out.box; have := hb4.size; omega
        have hneg2 : gb ≠ w4.heap.size := fun e => hneg e.symm
        have ew := eW5.symm
        unfold put5 at ew
        clear hA4 hO4 hb4 hN h5 HPM HokX HF HAY eW5 cG0
        unfold Rnd.cells
        go_wp2_with (at_builtin; refine Lib.wpList_append_run _ rfl _ _ _ _ rfl _ _ rfl rfl _ _ hrun ?_)
        go_roundw
        case rel => exact ⟨k + 1, Y, R4, _, by omega, by go_num, HN.out⟩
        case measure => simp [intOf]; omega
      · obtain ⟨rfl, rfl⟩ := HP2.out.at_ HV2.out hI.run (.inr ⟨hlt, hno⟩)
        have HPM : Hid (PickM X' X' (-1) 0) := .inr (.inl ⟨hokX', fun i hi => by rw [hI.like.l]; exact hno i (by rw [← hI.like.nQ]; exact hi), rfl, rfl, rfl⟩)
        have HokX : Hid X'.Ok := hokX'
        have HAz : Hid (Alike M X') := HAl2.out.trans hI.like
        clear hI hokX' hlen hno
        go_wp2_with fail
        refine (l4PickedM_any X' X' (-1) 0 _ (ok_smallA HokX.out) HI.out.rows.rd HokX.out HPM.out).mono ?_
        rintro e w4 ⟨R4, rfl, hO4, hb4, hA4⟩
        have HZ : Hid (PaS w gb R0 k X X' ds (.slice a7 ds.length c7) (w4.alloc (.cells #[.slice R4.aQ R4.nQ R4.cQ, .slice R4.aD R4.nD R4.cD, .int .i64 R4.turn, .bool R4.fresh, .slice R4.aS R4.nS R4.cS] 27))) := (HI.out.up hb4).up ((Below.refl _ _).alloc (Nat.le_refl _) _)
        clear hO4 hb4 hA4 HPM HokX cG0
        unfold Rnd.cells
        have cG := blk_cell HZ.out.box
        unfold Rnd.cells at cG
        have cX := blk_cell HZ.out.res
        have fX := blk_free HZ.out.res
        have hne1 : gb ≠ w.heap.size + 1 := by have := HGb.out; omega
        have hne2 : w.heap.size + 1 ≠ gb := by have := HGb.out; omega
        obtain ⟨f1, f2, f3, f5⟩ := pas_close HZ.out HGb.out
        have HF : Hid (_ ∧ _ ∧ _) := ⟨f2, f3, f5⟩
        unfold put5 at f1 HF
        clear f2 f3 f5
        go_wp2_with fail
        exact bodyPost_ret (v := .tuple #[.agg #[.slice X'.aQ X'.nQ X'.cQ, .slice X'.aD X'.nD X'.cD, .int .i64 X'.turn, .bool X'.fresh, .slice X'.aS X'.nS X'.cS], .slice a7 ds.length c7]) (by simp [results, Try.results20, go_sem, f1]) rfl ⟨X', _, rfl, HF.out.1, HF.out.2.1, HF.out.2.2, HAz.out⟩
    · obtain ⟨rfl, rfl⟩ := HP2.out.at_ HV2.out hI.run (.inl (by omega))
      have HZ := HI
      have HAz : Hid (Alike M X') := HAl2.out.trans hI.like
      clear hI hokX' hlen
      have cG := blk_cell HZ.out.box
      unfold Rnd.cells at cG
      have cX := blk_cell HZ.out.res
      have fX := blk_free HZ.out.res
      have hne1 : gb ≠ w.heap.size + 1 := by have := HGb.out; omega
      have hne2 : w.heap.size + 1 ≠ gb := by have := HGb.out; omega
      obtain ⟨f1, f2, f3, f5⟩ := pas_close HZ.out HGb.out
      have HF : Hid (_ ∧ _ ∧ _) := ⟨f2, f3, f5⟩
      unfold put5 at f1 HF
      clear f2 f3 f5
      go_wp2_with fail
      exact bodyPost_ret (v := .tuple #[.agg #[.slice X'.aQ X'.nQ X'.cQ, .slice X'.aD X'.nD X'.cD, .int .i64 X'.turn, .bool X'.fresh, .slice X'.aS X'.nS X'.cS], .slice a7 ds.length c7]) (by simp [results, Try.results20, go_sem, f1]) rfl ⟨X', _, rfl, HF.out.1, HF.out.2.1, HF.out.2.2, HAz.out⟩
end Go.Proofs.Ytnfcmiiibkbmfaa
