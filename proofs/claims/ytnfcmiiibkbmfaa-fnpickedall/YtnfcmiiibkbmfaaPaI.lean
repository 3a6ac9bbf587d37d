/- Several picks: the program's answer. -/
import Derived.Test.YtnfcmiiibkbmfaaPaM
import Derived.Test.YtnfcmiiibkbmfaaPkQ
import Derived.Maps.AppendAt
import Derived.Lib.AppendZeros
namespace Go.Proofs.Ytnfcmiiibkbmfaa
open Go.RowKit
set_option linter.unusedVariables false
set_option linter.unusedSimpArgs false

/-- the blocks of a round -/
def rBlk (R : Rnd) : List Nat := blkI R.aQ R.nQ ++ blkI R.aD R.nD ++ blkI R.aS R.nS ++ zBlk R
theorem Touch.ofGrown {w w' : World} {row : Option Nat} (h : w.grownBy w' row) : Touch row.toList w w' := ⟨h.os, h.tape, h.output, h.size, fun k hk hn => h.block k hk (fun e => hn (by rw [← e]; simp))⟩
theorem own_keepA {w w' : World} {base n : Nat} {v : Value} {xs : List Value} (h : w.ownsRow base 2 1 v n xs) (hk : ∀ b, base ≤ b → b < w.heap.size → w'.heap[b]? = w.heap[b]?) : w'.ownsRow base 2 1 v n xs := by
  obtain ⟨hl, h | ⟨g', cap', cur, hv, hg, hblk, hr⟩⟩ := h
  · exact ⟨hl, .inl h⟩
  · exact ⟨hl, .inr ⟨g', cap', cur, hv, hg, (hk g' hg (blk_lt hblk)).trans hblk, hr⟩⟩
theorem own_lowA {w : World} {base base' n : Nat} {v : Value} {xs : List Value} (h : w.ownsRow base 2 1 v n xs) (hb : base' ≤ base) : w.ownsRow base' 2 1 v n xs := by
  obtain ⟨hl, h | ⟨g', cap', cur, hv, hg, hr⟩⟩ := h
  · exact ⟨hl, .inl h⟩
  · exact ⟨hl, .inr ⟨g', cap', cur, hv, by omega, hr⟩⟩
theorem own_geA {w : World} {base n : Nat} {v : Value} {xs : List Value} (h : w.ownsRow base 2 1 v n xs) {x : Nat} (hx : v.ownBlock = some x) : base ≤ x := by
  obtain ⟨hl, ⟨rfl, _⟩ | ⟨g', cap', cur, rfl, hg, hr⟩⟩ := h
  · cases hx
  · simp only [Value.ownBlock, Option.some.injEq] at hx
    omega
theorem own_formA {w : World} {base n : Nat} {v : Value} {xs : List Value} (h : w.ownsRow base 2 1 v n xs) : ∃ a c, v = .slice a n c := by
  obtain ⟨hl, ⟨rfl, rfl⟩ | ⟨g', cap', cur, rfl, hg, hr⟩⟩ := h
  · exact ⟨_, _, rfl⟩
  · exact ⟨_, _, rfl⟩
theorem RepO.blks {w : World} {base top gb gD gS : Nat} {X : Rnd} (h : RepO w base top gb gD gS X) : ∀ x ∈ rBlk X, x < top := fun x hx => by
  obtain ⟨h1, h2, h3, h4, h5⟩ := h.hi
  have one : ∀ {g n : Nat}, x ∈ blkI (some ⟨g, 0, none⟩) n → x = g := fun {g n} hh => by
    unfold blkI at hh
    split at hh
    · simp at hh
    · simpa using hh
  unfold rBlk at hx
  rcases List.mem_append.1 hx with hx | hx
  · rcases List.mem_append.1 hx with hx | hx
    · rcases List.mem_append.1 hx with hx | hx
      · exact h1 x hx
      · rw [h.ad] at hx; rw [one hx]; exact h2
    · rw [h.as_] at hx; rw [one hx]; exact h3
  · obtain ⟨i, hi, hx⟩ := zBlk_mem.1 hx
    exact h5 i hi x hx
/-- one number more behind a list of one's own -/
theorem app_one {W : World} {base : Nat} {v : Value} {ds : List Int} (hown : W.ownsRow base 2 1 v ds.length (ds.map (.int .i64))) (c : Int) (hl : ds.length ≤ 1000) (hb : base ≤ W.heap.size) :
    ∃ v' W', (Builtin.append_ #[24, 24] 24 #[v, .slice (some ⟨W.heap.size, 0, none⟩) 1 1]).run Try.prog (W.alloc (.cells #[.int .i64 c] 2)) = .ok v' W' ∧ W'.ownsRow base 2 1 v' (ds ++ [c]).length ((ds ++ [c]).map (.int .i64)) ∧ (∃ a c', v' = .slice a (ds ++ [c]).length c') ∧ (∃ S, Touch S W W' ∧ (∀ x ∈ S, base ≤ x) ∧ ∀ x ∈ S, v.ownBlock = some x) ∧ (v'.ownBlock = v.ownBlock ∨ ∃ g, v'.ownBlock = some g ∧ W.heap.size ≤ g) := by
  obtain ⟨ii, hi, hz0, hz1, hz2⟩ := info_parts info2
  have hA : Below W.heap.size W (W.alloc (.cells #[.int .i64 c] 2)) := (Below.refl _ _).alloc (Nat.le_refl _) _
  have eA : (W.alloc (.cells #[.int .i64 c] 2)).heap.size = W.heap.size + 1 := by simp
  have hown2 := own_keepA hown (fun b _ hlt => hA.block b hlt)
  have hadd : ∀ j : Nat, (⟨W.heap.size, 0, none⟩ : Addr).add j = ⟨W.heap.size, 0 + j, none⟩ := fun j => by unfold Addr.add; split <;> simp_all
  obtain ⟨va, W2, hrun, hown3, hgrow, _, hblk⟩ := run_append_own_at (P := Try.prog) (w := W.alloc (.cells #[.int .i64 c] 2)) base 24 24 2 ii (.int .i64 0) 1 8 Try.underlying24 hi hz0 hz1 hz2 rfl (by decide) v ds.length _ hown2 ⟨W.heap.size, 0, none⟩ 1 1 [.int .i64 c] rfl (fun j u hu => by
    have hj : j = 0 := by
      have := (List.getElem?_eq_some_iff.1 hu).1
      simp at this
      exact this
    subst hj
    rw [hadd, blk_cell (blk_new W _)]
    simpa using hu) (by intro u hu; simp at hu; subst hu; rfl) (by unfold maxLen; omega) (by omega) (by omega)
  have hown4 : W2.ownsRow base 2 1 va (ds ++ [c]).length ((ds ++ [c]).map (.int .i64)) := by
    rw [List.length_append, List.map_append]; exact hown3
  refine ⟨va, W2, hrun, hown4, own_formA hown4, ⟨v.ownBlock.toList, ?_, fun x hx => ?_, fun x hx => by simpa using hx⟩, ?_⟩
  · exact (Touch.ofBelow hA).trans (Touch.ofGrown hgrow)
  · exact own_geA hown (by simpa using hx)
  · rcases hblk with e | e
    · exact .inl e
    · exact .inr ⟨_, e, by omega⟩

/-- the program's run, between two picks -/
structure PaI (w : World) (base top gb gD gS : Nat) (R : Rnd) (k : Nat) (X X' : Rnd) (ds : List Int) (v : Value) (wr : World) : Prop where
  run : PickF k R X ds
  like : Alike X X'
  rep : RepO wr base top gb gD gS X'
  own : wr.ownsRow top 2 1 v ds.length (ds.map (.int .i64))
  res : wr.heap[w.heap.size + 1]? = some (.cells #[.slice none 0 0, .slice none 0 0, .int .i64 0, .bool false, .slice none 0 0] 27 (0, 0))
  below : Below w.heap.size w wr
  top : top ≤ wr.heap.size
theorem PaI.form {w : World} {base top gb gD gS : Nat} {R : Rnd} {k : Nat} {X X' : Rnd} {ds : List Int} {v : Value} {wr : World} (h : PaI w base top gb gD gS R k X X' ds v wr) : ∃ a c, v = .slice a ds.length c := own_formA h.own
/-- what a pick leaves of it -/
theorem PaI.picked {w : World} {base top gb gD gS : Nat} {R : Rnd} {k : Nat} {X X' Y : Rnd} {ds : List Int} {v : Value} {wr w4 : World} (h : PaI w base top gb gD gS R k X X' ds v wr) (hlo : w.heap.size + 1 < base) (hl : base ≤ gb ∧ base ≤ gD ∧ base ≤ gS) {X4 : Rnd} (hR : RepO w4 base top gb gD gS X4) (hT : Touch [gb, gD, gS] wr w4) :
    w4.ownsRow top 2 1 v ds.length (ds.map (.int .i64)) ∧ w4.heap[w.heap.size + 1]? = some (.cells #[.slice none 0 0, .slice none 0 0, .int .i64 0, .bool false, .slice none 0 0] 27 (0, 0)) ∧ Below w.heap.size w w4 ∧ top ≤ w4.heap.size := by
  obtain ⟨_, h2, h3, h4, _⟩ := hR.hi
  refine ⟨own_keepA h.own (fun b hb hlt => hT.block b hlt (by simp; omega)), (hT.block _ (blk_lt h.res) (by simp; omega)).trans h.res, h.below.trans (hT.below h.below.size (fun x hx => by simp at hx; omega)), ?_⟩
  have := h.top
  have := hT.size
  omega
/-- the answer's box is written, nothing else -/
theorem pai_close {w w4 : World} {base top gb gD gS : Nat} {X4 : Rnd} {v : Value} {ds : List Int} (hR : RepO w4 base top gb gD gS X4) (hown : w4.ownsRow top 2 1 v ds.length (ds.map (.int .i64)))
    (hres : w4.heap[w.heap.size + 1]? = some (.cells #[.slice none 0 0, .slice none 0 0, .int .i64 0, .bool false, .slice none 0 0] 27 (0, 0))) (hB : Below w.heap.size w w4) (hlo : w.heap.size + 1 < base) (hl : base ≤ gb) :
    (∀ o, (put5 w4 (w.heap.size + 1) (.slice X4.aQ X4.nQ X4.cQ) (.slice X4.aD X4.nD X4.cD) (.int .i64 X4.turn) (.bool X4.fresh) (.slice X4.aS X4.nS X4.cS)).cell? ⟨w.heap.size + 1, o, none⟩ = (#[.slice X4.aQ X4.nQ X4.cQ, .slice X4.aD X4.nD X4.cD, .int .i64 X4.turn, .bool X4.fresh, .slice X4.aS X4.nS X4.cS] : Array Value)[o]?) ∧
    OwnRo (put5 w4 (w.heap.size + 1) (.slice X4.aQ X4.nQ X4.cQ) (.slice X4.aD X4.nD X4.cD) (.int .i64 X4.turn) (.bool X4.fresh) (.slice X4.aS X4.nS X4.cS)) w.heap.size X4 ∧ World.ownsRow (put5 w4 (w.heap.size + 1) (.slice X4.aQ X4.nQ X4.cQ) (.slice X4.aD X4.nD X4.cD) (.int .i64 X4.turn) (.bool X4.fresh) (.slice X4.aS X4.nS X4.cS)) w.heap.size 2 1 v ds.length (ds.map (.int .i64)) ∧ (∀ x ∈ rBlk X4, v.ownBlock ≠ some x) ∧
    Below w.heap.size w (put5 w4 (w.heap.size + 1) (.slice X4.aQ X4.nQ X4.cQ) (.slice X4.aD X4.nD X4.cD) (.int .i64 X4.turn) (.bool X4.fresh) (.slice X4.aS X4.nS X4.cS)) := by
  have ht := put5_touch w4 (w.heap.size + 1) (.slice X4.aQ X4.nQ X4.cQ) (.slice X4.aD X4.nD X4.cD) (.int .i64 X4.turn) (.bool X4.fresh) (.slice X4.aS X4.nS X4.cS)
  have hgt := hR.hi.2.2.2.1
  refine ⟨blk_cell (put5_blk hres _ _ _ _ _), (hR.own.touchLo ht (fun x hx => by simp at hx; omega)).mono (by omega), own_lowA (own_keepA hown (fun b hb hlt => ht.block b hlt (by simp; omega))) (by omega), fun x hx e => ?_, hB.trans (ht.below hB.size (fun x hx => by simp at hx; omega))⟩
  have h1 := hR.blks x hx
  have h2 := own_geA hown e
  omega
set_option maxRecDepth 100000 in
set_option maxHeartbeats 8000000 in
theorem iPickedAll_any (R M : Rnd) (n : Int) (cs : List Int) (w : World) (hs : R.Small) (h : RdRnd w R) (hp : PickA R n M cs) :
    Calls Try.prog 19 #[.agg R.cells, .int .i64 n] w fun e w' => ∃ R' v, e = .returned (.tuple #[.agg R'.cells, v]) ∧ OwnRo w' w.heap.size R' ∧ w'.ownsRow w.heap.size 2 1 v cs.length (cs.map (.int .i64)) ∧ (∀ x ∈ rBlk R', v.ownBlock ≠ some x) ∧ Below w.heap.size w w' ∧ Alike M R' := by
  have HP : Hid (PickA R n M cs) := hp
  have HR : Hid (RdRnd w R) := h
  have HS : Hid R.Small := hs
  obtain ⟨ok, hok⟩ := ok_decR R.Ok
  have HO : Hid (ok = true ↔ R.Ok) := hok
  have HA : Hid (∀ A B, Below w.heap.size w ((w.alloc A).alloc B)) := fun A B => ((Below.refl _ _).alloc (Nat.le_refl _) _).alloc (by simp) _
  have HNo : Hid (¬ validA R n → M = zR ∧ cs = []) := fun hv => by
    rcases HP.out with ⟨_, h1, h2⟩ | ⟨h1, _⟩
    · exact ⟨h1, h2⟩
    · exact absurd h1 hv
  clear hp h hs hok
  unfold Rnd.cells
  go_enter Try.func19, Try.ntmps19
  go_wp2_with fail
  refine (iRoundOk_any R _ (small_fit HS.out) (HR.out.up (HA.out _ _)) ok HO.out).mono ?_
  rintro e w1 ⟨rfl, hb1⟩
  obtain ⟨kA, kB, B1, z1⟩ := two_laidR hb1
  clear hb1 HA
  have cA := blk_cell kA
  have cX := blk_cell kB
  have fX := blk_free kB
  have HBad : Hid (M = zR → cs = [] → ∃ w', w' = put5 w1 (w.heap.size + 1) (.slice none 0 0) (.slice none 0 0) (.int .i64 0) (.bool false) (.slice none 0 0) ∧ (∀ o, w'.cell? ⟨w.heap.size + 1, o, none⟩ = (#[.slice none 0 0, .slice none 0 0, .int .i64 0, .bool false, .slice none 0 0] : Array Value)[o]?) ∧ Below w.heap.size w w') := fun _ _ => by
    have ht := put5_touch w1 (w.heap.size + 1) (.slice none 0 0) (.slice none 0 0) (.int .i64 0) (.bool false) (.slice none 0 0)
    exact ⟨_, rfl, blk_cell (put5_blk kB (.slice none 0 0) (.slice none 0 0) (.int .i64 0) (.bool false) (.slice none 0 0)), B1.trans (ht.below B1.size (fun x hx => by simp at hx; omega))⟩
  by_cases hv : validA R n
  rotate_left
  · obtain ⟨hM, hc⟩ := HNo.out hv
    obtain ⟨w', ew, cF, hBf⟩ := HBad.out hM hc
    have HV : Hid (¬ validA R n) := hv
    have hcase : ok = false ∨ n < 0 ∨ 200 < n := by
      cases ok
      · exact .inl rfl
      · by_cases h1 : n < 0
        · exact .inr (.inl h1)
        · by_cases h2 : 200 < n
          · exact .inr (.inr h2)
          · exact absurd ⟨HO.out.1 rfl, by omega, by omega⟩ hv
    subst hM
    subst hc
    unfold put5 at ew
    clear hv
    have fin : ∀ {a : Act}, a.tmps = a.tmps := fun {a} => rfl
    rcases hcase with rfl | h1 | h1
    · go_wp2_with fail
      rw [← ew]
      exact bodyPost_ret (v := .tuple #[.agg zR.cells, .slice none 0 0]) (by simp [results, Try.results19, go_sem, cF, zR, Rnd.cells]) rfl ⟨zR, _, rfl, (zR_own _ _).o, ⟨rfl, .inl ⟨rfl, rfl⟩⟩, fun x _ => by simp [Value.ownBlock], hBf, Alike.refl _⟩
    · cases ok
      · go_wp2_with fail
        rw [← ew]
        exact bodyPost_ret (v := .tuple #[.agg zR.cells, .slice none 0 0]) (by simp [results, Try.results19, go_sem, cF, zR, Rnd.cells]) rfl ⟨zR, _, rfl, (zR_own _ _).o, ⟨rfl, .inl ⟨rfl, rfl⟩⟩, fun x _ => by simp [Value.ownBlock], hBf, Alike.refl _⟩
      · go_wp2_with fail
        rw [← ew]
        exact bodyPost_ret (v := .tuple #[.agg zR.cells, .slice none 0 0]) (by simp [results, Try.results19, go_sem, cF, zR, Rnd.cells]) rfl ⟨zR, _, rfl, (zR_own _ _).o, ⟨rfl, .inl ⟨rfl, rfl⟩⟩, fun x _ => by simp [Value.ownBlock], hBf, Alike.refl _⟩
    · have h2 : ¬ n < 0 := by omega
      cases ok
      · go_wp2_with fail
        rw [← ew]
        exact bodyPost_ret (v := .tuple #[.agg zR.cells, .slice none 0 0]) (by simp [results, Try.results19, go_sem, cF, zR, Rnd.cells]) rfl ⟨zR, _, rfl, (zR_own _ _).o, ⟨rfl, .inl ⟨rfl, rfl⟩⟩, fun x _ => by simp [Value.ownBlock], hBf, Alike.refl _⟩
      · go_wp2_with fail
        rw [← ew]
        exact bodyPost_ret (v := .tuple #[.agg zR.cells, .slice none 0 0]) (by simp [results, Try.results19, go_sem, cF, zR, Rnd.cells]) rfl ⟨zR, _, rfl, (zR_own _ _).o, ⟨rfl, .inl ⟨rfl, rfl⟩⟩, fun x _ => by simp [Value.ownBlock], hBf, Alike.refl _⟩
  have HV : Hid (validA R n) := hv
  obtain rfl : ok = true := HO.out.2 hv.1
  have hn0 : ¬ n < 0 := by have := hv.2; omega
  have hn2 : ¬ 200 < n := by have := hv.2; omega
  clear hv HBad HNo HO
  go_wp2_with fail
  refine (copyRound_any R _ HS.out (HR.out.up B1)).mono ?_
  rintro e w2 ⟨aq, cq, ad, cd, gS, A2, C2, rfl, hOw, hb2⟩
  obtain ⟨M2, hp2, hAl2⟩ := HP.out.like (cp_alike (R := R) (aQ := aq) (cQ := cq) (aD := ad) (cD := cd) (gS := gS) (A := A2) (C := C2))
  have hok2 : (R.cp aq cq ad cd gS A2 C2).Ok := (cp_alike).okI.2 HV.out.1
  obtain ⟨gD, rfl, hbD, hbS, hRep⟩ := rep_copy HV.out.1 hOw
  have B2 := B1.trans (hb2.mono B1.size)
  have kB2 := (hb2.block _ (blk_lt kB)).trans kB
  have hz2 := hb2.size
  have hX : Below w2.heap.size w2 (w2.alloc (.cells (R.cp aq cq (some ⟨gD, 0, none⟩) cd gS A2 C2).cells 27)) := (Below.refl _ _).alloc (Nat.le_refl _) _
  have HI0 : Hid (PaI w w1.heap.size (w2.heap.size + 1) w2.heap.size gD gS (R.cp aq cq (some ⟨gD, 0, none⟩) cd gS A2 C2) 0 (R.cp aq cq (some ⟨gD, 0, none⟩) cd gS A2 C2) (R.cp aq cq (some ⟨gD, 0, none⟩) cd gS A2 C2) [] (.slice none 0 0) (w2.alloc (.cells (R.cp aq cq (some ⟨gD, 0, none⟩) cd gS A2 C2).cells 27))) :=
    ⟨.zero, Alike.refl _, hRep, ⟨rfl, .inl ⟨rfl, rfl⟩⟩, (hX.block _ (blk_lt kB2)).trans kB2, B2.trans (hX.mono B2.size), by simp⟩
  have HP2 : Hid (PickA (R.cp aq cq (some ⟨gD, 0, none⟩) cd gS A2 C2) n M2 cs) := hp2
  have HOk2 : Hid (R.cp aq cq (some ⟨gD, 0, none⟩) cd gS A2 C2).Ok := hok2
  have HV2 : Hid (validA (R.cp aq cq (some ⟨gD, 0, none⟩) cd gS A2 C2) n) := ⟨hok2, HV.out.2⟩
  have HAl2 : Hid (Alike M M2) := hAl2
  have HLo : Hid (w.heap.size + 1 < w1.heap.size ∧ (w1.heap.size ≤ w2.heap.size ∧ w1.heap.size ≤ gD ∧ w1.heap.size ≤ gS)) := by rw [Hid]; exact ⟨by omega, by omega, hbD, hbS⟩
  have hn200 : n ≤ 200 := HV.out.2.2
  clear hOw hb2 hRep hp2 hok2 hAl2 hX kB kB2 B1 B2 cA kA cX fX hbD hbS
  dsimp only [Rnd.cp, Rnd.cells]
  dsimp only [Rnd.cp, Rnd.cells] at HI0 HP2 HOk2 HV2
  go_wp2_with fail
  generalize w2.alloc (.cells #[.slice aq R.nQ cq, .slice (some ⟨gD, 0, none⟩) R.nD cd, .int .i64 R.turn, .bool R.fresh, .slice (some ⟨gS, 0, none⟩) R.nS R.nS] 27) = w3 at *
  generalize (⟨aq, R.nQ, cq, R.q, some ⟨gD, 0, none⟩, R.nD, cd, R.d, R.turn, R.fresh, some ⟨gS, 0, none⟩, R.nS, R.nS, A2, R.L, C2, R.z⟩ : Rnd) = R0 at *
  generalize w2.heap.size = gb at *
  generalize w1.heap.size = base at *
  clear hz2 z1 HR HS HP HV
  go_loopw [25, 7] (fun i v wr => ∃ (k : Nat) (X X' : Rnd) (ds : List Int), (k : Int) ≤ n ∧ i = .int .i64 k ∧ PaI w base (gb + 1) gb gD gS R0 k X X' ds v wr) (fun i _ _ => (n - intOf i).toNat)
  case atStart => exact ⟨0, _, _, [], by omega, rfl, HI0.out⟩
  case round =>
    clear HI0
    obtain ⟨k, X, X', ds, hk, rfl, hI⟩ := hrel
    have HI : Hid (PaI w base (gb + 1) gb gD gS R0 k X X' ds u7 wr) := hI
    obtain ⟨a7, c7, rfl⟩ := hI.form
    have hlen := hI.run.len
    have hokX' : X'.Ok := hI.like.okI.2 (hI.run.ok HOk2.out).1
    by_cases hlt : (k : Int) < n
    · rcases pick_step HOk2.out hI.run with ⟨kk, Y, c, s, hPk, hF, c0, h1, h2⟩ | hno
      · obtain ⟨Y', hPk', hAY⟩ := hPk.like hI.like
        have HPM : Hid (PickM X' Y' c s) := .inr (.inr ⟨hokX', ⟨c0, by rw [hI.like.nQ]; exact h1, by rw [hI.like.l]; exact h2⟩, kk, c, hPk', rfl⟩)
        have hne : ((c : Int) == -1) = false := by simp
        have HF : Hid (PickF (k + 1) R0 Y (ds ++ [((c : Nat) : Int)])) := hF
        have HAY : Hid (Alike Y Y') := hAY
        have HokX : Hid X'.Ok := hokX'
        have hds : ds.length ≤ 1000 := by omega
        clear hI hPk hF h1 h2 hPk' hAY hokX' hlen
        go_wp2_with fail
        refine (pickM_any X' Y' c s _ _ _ _ _ _ HI.out.top HI.out.rep HokX.out HPM.out).mono ?_
        rintro e w4 ⟨rfl, ⟨X4, hA4, hR4⟩, hT4⟩
        obtain ⟨o4, r4, b4, t4⟩ := HI.out.picked (Y := X) HLo.out.1 HLo.out.2 hR4 hT4
        obtain ⟨v', W', hrun, hown', ⟨a', c', rfl⟩, ⟨S, hTS, hS, _⟩, _⟩ := app_one o4 (c : Int) hds t4
        have HN : Hid (PaI w base (gb + 1) gb gD gS R0 (k + 1) Y X4 (ds ++ [((c : Nat) : Int)]) (.slice a' (ds ++ [((c : Nat) : Int)]).length c') W') := by
          have hlo := HLo.out
          exact ⟨HF.out, HAY.out.trans hA4, hR4.touchNew hTS hS, hown', (hTS.block _ (blk_lt r4) (fun hx => by have := hS _ hx; omega)).trans r4, b4.trans (hTS.below b4.size (fun x hx => by have := hS x hx; omega)), by have := hTS.size; omega⟩
        have eL : (ds ++ [((c : Nat) : Int)]).length = ds.length + 1 := by simp
        rw [eL] at HN
        clear hA4 hR4 hT4 o4 r4 b4 t4 hown' hTS hS HPM HokX HF HAY eL
        go_wp2_with (at_builtin; refine Lib.wpList_append_run _ rfl _ _ _ _ rfl _ _ rfl rfl _ _ hrun ?_)
        go_roundw
        case rel => exact ⟨k + 1, Y, X4, _, by omega, by go_num, HN.out⟩
        case measure => simp [intOf]; omega
      · obtain ⟨rfl, rfl⟩ := HP2.out.at_ HV2.out hI.run (.inr ⟨hlt, hno⟩)
        have HPM : Hid (PickM X' X' (-1) 0) := .inr (.inl ⟨hokX', fun i hi => by rw [hI.like.l]; exact hno i (by rw [← hI.like.nQ]; exact hi), rfl, rfl, rfl⟩)
        have HokX : Hid X'.Ok := hokX'
        have HLk : Hid (Alike X X') := hI.like
        clear hI hokX' hlen hno
        go_wp2_with fail
        refine (pickM_any X' X' (-1) 0 _ _ _ _ _ _ HI.out.top HI.out.rep HokX.out HPM.out).mono ?_
        rintro e w4 ⟨rfl, ⟨Xz, hA4, hRz⟩, hT4⟩
        obtain ⟨oz, rz, bz, _⟩ := HI.out.picked (Y := X) HLo.out.1 HLo.out.2 hRz hT4
        have HAz : Hid (Alike M Xz) := HAl2.out.trans (HLk.out.trans hA4)
        clear hA4 hT4 HPM HokX
        have cG := blk_cell hRz.box
        unfold Rnd.cells at cG
        have cX := blk_cell rz
        have fX := blk_free rz
        have hne1 : gb ≠ w.heap.size + 1 := by have := HLo.out; omega
        have hne2 : w.heap.size + 1 ≠ gb := by have := HLo.out; omega
        obtain ⟨f1, f2, f3, f4, f5⟩ := pai_close hRz oz rz bz HLo.out.1 HLo.out.2.1
        have HF : Hid (_ ∧ _ ∧ _ ∧ _) := ⟨f2, f3, f4, f5⟩
        unfold put5 at f1 HF
        clear f2 f3 f4 f5 hRz rz bz oz
        go_wp2_with fail
        exact bodyPost_ret (v := .tuple #[.agg #[.slice Xz.aQ Xz.nQ Xz.cQ, .slice Xz.aD Xz.nD Xz.cD, .int .i64 Xz.turn, .bool Xz.fresh, .slice Xz.aS Xz.nS Xz.cS], .slice a7 ds.length c7]) (by simp [results, Try.results19, go_sem, f1]) rfl ⟨Xz, _, rfl, HF.out.1, HF.out.2.1, HF.out.2.2.1, HF.out.2.2.2, HAz.out⟩
    · obtain ⟨rfl, rfl⟩ := HP2.out.at_ HV2.out hI.run (.inl (by omega))
      obtain ⟨Xz, rfl⟩ : ∃ Xz, Xz = X' := ⟨_, rfl⟩
      have hRz := HI.out.rep
      have oz := HI.out.own
      have rz := HI.out.res
      have bz := HI.out.below
      have HAz : Hid (Alike M Xz) := HAl2.out.trans hI.like
      clear hI hokX' hlen
      have cG := blk_cell hRz.box
      unfold Rnd.cells at cG
      have cX := blk_cell rz
      have fX := blk_free rz
      have hne1 : gb ≠ w.heap.size + 1 := by have := HLo.out; omega
      have hne2 : w.heap.size + 1 ≠ gb := by have := HLo.out; omega
      obtain ⟨f1, f2, f3, f4, f5⟩ := pai_close hRz oz rz bz HLo.out.1 HLo.out.2.1
      have HF : Hid (_ ∧ _ ∧ _ ∧ _) := ⟨f2, f3, f4, f5⟩
      unfold put5 at f1 HF
      clear f2 f3 f4 f5 hRz rz bz oz
      go_wp2_with fail
      exact bodyPost_ret (v := .tuple #[.agg #[.slice Xz.aQ Xz.nQ Xz.cQ, .slice Xz.aD Xz.nD Xz.cD, .int .i64 Xz.turn, .bool Xz.fresh, .slice Xz.aS Xz.nS Xz.cS], .slice a7 ds.length c7]) (by simp [results, Try.results19, go_sem, f1]) rfl ⟨Xz, _, rfl, HF.out.1, HF.out.2.1, HF.out.2.2.1, HF.out.2.2.2, HAz.out⟩
end Go.Proofs.Ytnfcmiiibkbmfaa
