import Derived.Test.YtlipielghpoaoaaGreatT00
import Derived.Test.YtlipielghpoaoaaGreatT07
import Derived.Test.YtlipielghpoaoaaGreatT15
import Derived.Test.YtlipielghpoaoaaGreatT19
import Derived.Test.YtlipielghpoaoaaGreatT20
import Derived.Test.YtlipielghpoaoaaGreatT24
import Derived.Test.YtlipielghpoaoaaGreatT25
import Derived.BigQuiet
import Derived.Deep.QuietTactic
import Derived.Deep.RegionHeld3
import Derived.Laws.BitsAllLaws
import Derived.Laws.BytesArg
import Derived.Laws.MakeOwn
namespace Go.Proofs.YtlipielghpoaoaaGreat
open Go.RowKit
set_option linter.unusedVariables false
set_option linter.unusedSimpArgs false
theorem OwnL.empty (w : World) (base : Nat) (hb : base ≤ w.heap.size) : OwnL (w.alloc (.cells #[] 56)) base (.slice (some ⟨w.heap.size, 0, none⟩) 0 0) [] :=
 ⟨rfl, .inr ⟨w.heap.size, 0, #[], rfl, hb, blk_new w _, Nat.le_refl _, Nat.zero_le _, rfl, rfl⟩⟩
set_option maxHeartbeats 1000000 in
theorem l3Aged_any (a : Option Addr) (n cap : Nat) (f : Nat → Ent) (now : Int) (w : World) (hok : tabOk n f) (ht : timeOk now) (h : RdEnt w a n f) :
  Calls Tryz.prog 83 #[.slice a n cap, .int .i64 now] w fun e w' => ∃ v, e = .returned v ∧ OwnL w' w.heap.size v (agedL (entsL n f) now) ∧ Below w.heap.size w w' := by
 have HR : Hid (RdEnt w a n f) := h
 have HO : Hid (entsOk n f) := hok.2
 have h8 := hok.1
 obtain ⟨t0, t1⟩ := ht
 clear h hok
 obtain ⟨i0, hi, hz0, hz1, hz2⟩ := info_parts infoE
 go_enter Tryz.func83, Tryz.ntmps83
 go_wp2_with fail
 go_loopw [5, 6] (fun v i wr => ∃ k : Nat, k ≤ n ∧ i = .int .i64 k ∧ OwnL wr w.heap.size v (agedL (entsL k f) now) ∧ Below w.heap.size w wr) (fun _ i _ => n - (intOf i).toNat)
 case atStart => exact ⟨0, Nat.zero_le _, rfl, OwnL.empty w _ (Nat.le_refl _), (Below.refl _ _).alloc (Nat.le_refl _) _⟩
 case round =>
  obtain ⟨k, hk, rfl, hO, hB⟩ := hrel
  by_cases hlt : k < n
  ·
   have hlt' : (k : Int) < n := by omega
   obtain ⟨g, o, rfl, c1, c2, c3⟩ := (HR.out.up hB) k hlt
   have hx3 := (HO.out k hlt).1.2.2
   have HE : Hid (agedL (entsL (k + 1) f) now = if now - (f k).t ≤ 20 then agedL (entsL k f) now ++ [f k] else agedL (entsL k f) now) := by
    rw [Hid, entsL_succ]
    by_cases hs : now - (f k).t ≤ 20
    ·
     simp [agedL, hs]
    ·
     simp [agedL, hs]
   have hll : (agedL (entsL k f) now).length ≤ k := by
    have := List.length_filter_le (fun y : Ent => decide (now - y.t ≤ 20)) (entsL k f)
    rw [entsL_len] at this
    exact this
   generalize hq : agedL (entsL k f) now = A at *
   generalize f k = x at *
   obtain ⟨m, p, t⟩ := x
   dsimp only at c1 c2 c3 hx3 HE
   have hw : IntKind.i64.wrap (now - t) = now - t := wrapE _ (by omega) (by omega)
   have hz := hB.size
   by_cases hs : now - t ≤ 20
   ·
    have HE2 : Hid (agedL (entsL (k + 1) f) now = A ++ [⟨m, p, t⟩]) := by rw [Hid, HE.out, if_pos hs]
    clear HE hx3
    go_wp2_with (at_builtin; refine wpList_append_own _ rfl (.tmp 22) (.tmp 27) 36 rfl w.heap.size 56 i0 (.agg #[.int .i64 0, .int .i64 0, .int .i64 0]) 3 24 Tryz.underlying36 hi hz0 hz1 hz2 rfl (by decide) _ A.length _ rfl (World.ownsRow.alloc hO _) ⟨wr.heap.size, 0, none⟩ 1 1 (cellsE ⟨m, p, t⟩) rfl rfl (cells_three_new wr ⟨m, p, t⟩ _) (oneE _) (by unfold maxLen; omega) (by omega) (by simp; omega) ?_; intro v' w' hown' hgrow' hnil')
    have hO2 : OwnL w' w.heap.size v' (A ++ [⟨m, p, t⟩]) := by
     unfold OwnL
     rw [flatE_snoc, List.length_append]
     exact hown'
    have B2 : Below w.heap.size w w' := hB.grown ((World.grownBy_alloc wr _ _).trans hgrow') hz (fun j hj => (World.ownsRow.lt hO j hj).1)
    clear hown' hgrow' hnil' hO hB
    go_roundw
    case rel => exact ⟨k + 1, by omega, by go_num, by rw [HE2.out]; exact hO2, B2⟩
    case measure => simp [intOf]; omega
   ·
    have HE2 : Hid (agedL (entsL (k + 1) f) now = A) := by rw [Hid, HE.out, if_neg hs]
    clear HE hx3
    go_wp2_with fail
    go_roundw
    case rel => exact ⟨k + 1, by omega, by go_num, by rw [HE2.out]; exact hO, hB⟩
    case measure => simp [intOf]; omega
  ·
   obtain rfl : k = n := by omega
   go_wp2_with fail
   go_ret
   exact ⟨_, rfl, hO, hB⟩
def Swg.tkL (S : Swg) : List Ent := agedL (entsL S.nE S.e) (S.now + 1)
def Swg.ticked (S : Swg) (aE : Option Addr) (cE : Nat) : Swg := { S with now := S.now + 1, aE := aE, nE := S.tkL.length, cE := cE, e := fun i => S.tkL.getD i default }
theorem entsL_getD (A : List Ent) : entsL A.length (fun i => A.getD i default) = A := by
 unfold entsL
 refine List.ext_getElem? fun i => ?_
 rw [List.getElem?_map]
 by_cases h : i < A.length
 ·
  rw [List.getElem?_range h]
  simp [h]
 ·
  rw [List.getElem?_eq_none (by simp; omega), List.getElem?_eq_none (by omega)]
  rfl
theorem OwnL.og {w : World} {base : Nat} {v : Value} {A : List Ent} (h : OwnL w base v A) : ∃ a c, v = .slice a A.length c ∧ OG 56 3 w base a A.length c (flatE (entsL A.length fun i => A.getD i default)) := by
 rw [entsL_getD]
 rcases h.2 with ⟨e1, e2⟩ | ⟨g, cap, cur, e1, _⟩
 ·
  refine ⟨none, 0, by rw [e1, e2], ?_⟩
  have h' : w.ownsRow base 56 3 v A.length (flatE A) := h
  rw [e1] at h'
  show w.ownsRow base 56 3 (.slice none A.length 0) A.length (flatE A)
  rw [e2] at h' ⊢
  exact h'
 ·
  refine ⟨some ⟨g, 0, none⟩, cap, e1, ?_⟩
  have h' : w.ownsRow base 56 3 v A.length (flatE A) := h
  rw [e1] at h'
  exact h'
theorem OwnSz.tick {w : World} {base : Nat} {P : Swg} {aE : Option Addr} {cE : Nat} (h : OwnSz w base P) (he : OG 56 3 w base aE P.tkL.length cE (flatE (entsL P.tkL.length fun i => P.tkL.getD i default))) : OwnSz w base (P.ticked aE cE) := ⟨he, h.n, h.k, h.l, h.un⟩
theorem OwnSz.up {w w' : World} {base : Nat} {S : Swg} (h : OwnSz w base S) (hb : Below w.heap.size w w') : OwnSz w' base S := ⟨h.e.up hb, h.n.up hb, h.k.up hb, h.l.up hb, h.un⟩
theorem OwnSz.mono {w : World} {base base' : Nat} {S : Swg} (h : OwnSz w base S) (hb : base' ≤ base) : OwnSz w base' S := ⟨h.e.mono hb, h.n.mono hb, h.k.mono hb, h.l.mono hb, h.un⟩
theorem AlikeG.refl (S : Swg) : AlikeG S S := ⟨rfl, rfl, rfl, rfl, rfl, AlikeC.refl _, rfl, rfl, rfl, fun i _ => AlikeL.refl _, rfl, rfl⟩
theorem AlikeG.tick {S P : Swg} (h : AlikeG S P) (a a' : Option Addr) (c c' : Nat) : AlikeG (S.ticked a c) (P.ticked a' c') := by
 have e : P.tkL = S.tkL := by unfold Swg.tkL; rw [h.nE, h.e, h.now]
 refine ⟨h.c, ?_, h.nx, ?_, ?_, h.n, h.nK, h.k, h.nL, h.l, h.dr, h.lst⟩
 ·
  show P.now + 1 = S.now + 1
  rw [h.now]
 ·
  show P.tkL.length = S.tkL.length
  rw [e]
 ·
  show (fun i => P.tkL.getD i default) = fun i => S.tkL.getD i default
  rw [e]
set_option maxRecDepth 100000 in
set_option maxHeartbeats 2000000 in
theorem tickSwitch_any (P : Swg) (g base : Nat) (w : World) (kb : w.heap[g]? = some (.cells P.cells 41 (0, 0))) (ho : OwnSz w base P) (hbs : base ≤ w.heap.size) (hsm : P.nE ≤ 1048576) (htab : tabOk P.nE P.e) (h0 : 0 ≤ P.now) (h1 : P.now < 1000000000) :
  Calls Tryz.prog 44 #[.pointer (some ⟨g, 0, none⟩)] w fun e w' => (∃ v, e = .returned v) ∧ ∃ aE cE, w'.heap[g]? = some (.cells (P.ticked aE cE).cells 41 (0, 0)) ∧ OwnSz w' base (P.ticked aE cE) ∧ Touch [g] w w' := by
 have HO : Hid (OwnSz w base P) := ho
 have HT : Hid (tabOk P.nE P.e) := htab
 have HK : Hid (w.heap[g]? = some (.cells P.cells 41 (0, 0))) := kb
 have c7 : w.cell? ⟨g, 7, none⟩ = some (.int .i64 P.now) := blk_cell kb 7
 have hw1 : IntKind.i64.wrap (P.now + 1) = P.now + 1 := wrapE _ (by omega) (by omega)
 clear ho htab kb
 go_enter Tryz.func44, Tryz.ntmps44
 go_wp2_with (refine wpList_stA rfl 2 (.tmp 8) (.tmp 6) rfl g 7 rfl (.int .i64 (P.now + 1)) rfl 1 rfl 41 _ HK.out infoI1 (Nat.le_of_ble_eq_true rfl) (by simp [Value.cells, Value.oneCell']) ?_)
 intro X0 hP
 clear c7
 obtain ⟨P1, eP⟩ : ∃ P1, ({ P with now := P.now + 1 } : Swg) = P1 := ⟨_, rfl⟩
 replace hP : Put w X0 g P1.cells 41 := hP.cast (by rw [← eP]; rfl)
 have HX : Hid (X0.heap[g]? = some (.cells P1.cells 41 (0, 0)) ∧ OwnSz X0 base P ∧ Touch [g] w X0 ∧ X0.heap.size = w.heap.size) := ⟨hP.blk, HO.out.off HK.out hP.to, hP.to, hP.size⟩
 have HE1 : Hid (P1.cells[7]? = some (.int .i64 (P.now + 1)) ∧ P1.cells[9]? = some (.slice P.aE P.nE P.cE)) := by rw [← eP]; exact ⟨rfl, rfl⟩
 clear hP HK
 go_wp2_with fail
 refine wp_region_E (fun w' => w'.heap[g]? = some (.cells P1.cells 41 (0, 0))) 12 (by kernel_rfl) ?_
 have hd : Below X0.heap.size X0 X0.drew := (Below.refl _ _).drew
 replace HX : Hid (X0.drew.heap[g]? = some (.cells P1.cells 41 (0, 0)) ∧ OwnSz X0.drew base P ∧ Touch [g] w X0.drew ∧ X0.drew.heap.size = w.heap.size) := ⟨(hd.block _ (blk_lt HX.out.1)).trans HX.out.1, HX.out.2.1.up hd, HX.out.2.2.1.trans (Touch.ofBelow hd), HX.out.2.2.2⟩
 clear hd
 generalize X0.drew = V at *
 have hT0 := HX.out.1
 refine takeE (i := 0) (some 9) (v := ?_) ?_ hT0 ?_
 rotate_left
 ·
  intro wx hSw
  go_simp
  try (with_reducible rfl)
 try simp only [Act.put, PZ]
 refine takeE (i := 1) (some 10) (v := ?_) ?_ hT0 ?_
 rotate_left
 ·
  intro wx hSw
  go_simp
  try (with_reducible rfl)
 try simp only [Act.put, PZ]
 refine takeE (i := 2) (some 11) (v := ?_) ?_ hT0 ?_
 rotate_left
 ·
  intro wx hSw
  go_simp
  try (with_reducible rfl)
 try simp only [Act.put, PZ]
 refine takeE (i := 3) (some 12) (v := ?_) ?_ hT0 ?_
 rotate_left
 ·
  intro wx hSw
  go_simp
  try (with_reducible rfl)
 try simp only [Act.put, PZ]
 refine takeE (i := 4) (some 13) (v := ?_) ?_ hT0 ?_
 rotate_left
 ·
  intro wx hSw
  have c9 : wx.cell? ⟨g, 9, none⟩ = some (.slice P.aE P.nE P.cE) := (blk_cell hSw 9).trans HE1.out.2
  go_simp
  try (with_reducible rfl)
 try simp only [Act.put, PZ]
 refine takeE (i := 5) (some 14) (v := ?_) ?_ hT0 ?_
 rotate_left
 ·
  intro wx hSw
  go_simp
  try (with_reducible rfl)
 try simp only [Act.put, PZ]
 refine takeE (i := 6) (some 15) (v := ?_) ?_ hT0 ?_
 rotate_left
 ·
  intro wx hSw
  go_simp
  try (with_reducible rfl)
 try simp only [Act.put, PZ]
 refine takeE (i := 7) (some 16) (v := ?_) ?_ hT0 ?_
 rotate_left
 ·
  intro wx hSw
  go_simp
  try (with_reducible rfl)
 try simp only [Act.put, PZ]
 refine takeE (i := 8) (some 17) (v := ?_) ?_ hT0 ?_
 rotate_left
 ·
  intro wx hSw
  have c7 : wx.cell? ⟨g, 7, none⟩ = some (.int .i64 (P.now + 1)) := (blk_cell hSw 7).trans HE1.out.1
  go_simp
  try (with_reducible rfl)
 try simp only [Act.put, PZ]
 refine wpAnyE_ready (rs := [9]) (by kernel_rfl) (by simp) ?_
 refine AllReadyE.cons rfl (fun K hK => ?_) AllReadyE.nil
 go_simp
 refine (iAged_any P.aE P.nE P.cE P.e (P.now + 1) P.tkL _ (by unfold maxLen; omega) HX.out.2.1.g.e.g.ents ⟨fun _ _ => rfl, fun h => absurd ⟨HT.out, ⟨by omega, by omega⟩⟩ h⟩).mono ?_
 rintro e X1 ⟨v, rfl, oA, hb⟩
 obtain ⟨aE, cE, rfl, og⟩ := oA.og
 have HN : Hid (OwnSz X1 base (P.ticked aE cE)) := (HX.out.2.1.up hb).tick (og.mono (by rw [HX.out.2.2.2]; exact hbs))
 have k1 := (hb.block _ (blk_lt HX.out.1)).trans HX.out.1
 have HT1 : Hid (Touch [g] w X1) := HX.out.2.2.1.trans (Touch.ofBelow hb)
 clear oA hb og hT0
 go_wp2_with fail
 refine hK.out _ _ k1 ?_
 clear hK K
 try simp only [Act.put, PZ]
 refine wpAnyE_ready (rs := [10]) (by kernel_rfl) (by simp) ?_
 refine AllReadyE.cons rfl (fun K hK => ?_) AllReadyE.nil
 go_simp
 refine hK.out _ _ k1 ?_
 clear hK K
 try simp only [Act.put, PZ]
 refine wpAnyE_ready (rs := [11]) (by kernel_rfl) (by simp) ?_
 refine AllReadyE.cons rfl (fun K hK => ?_) AllReadyE.nil
 go_simp
 refine hK.out _ _ k1 ?_
 clear hK K
 try simp only [Act.put, PZ]
 refine wpAnyE_ready (rs := [12]) (by kernel_rfl) (by simp) ?_
 refine AllReadyE.last rfl (fun K hK => ?_)
 refine wp_stE (by kernel_rfl) none rfl 36 (.tmp 20) (.tmp 18) rfl g 9 rfl (.slice aE P.tkL.length cE) rfl 1 rfl 41 _ k1 infoEs (Nat.le_of_ble_eq_true rfl) (by simp [Value.cells, Value.oneCell']) ?_
 intro X2 hP
 refine hK.out _ _ ?_
 clear hK K
 try simp only [Act.put, PZ]
 refine wpAnyE_done (by kernel_rfl) ?_ _
 replace hP : Put X1 X2 g (P.ticked aE cE).cells 41 := hP.cast (by rw [← eP]; rfl)
 have HF : Hid (∃ aE cE, X2.heap[g]? = some (.cells (P.ticked aE cE).cells 41 (0, 0)) ∧ OwnSz X2 base (P.ticked aE cE) ∧ Touch [g] w X2) := ⟨aE, cE, hP.blk, HN.out.off k1 hP.to, HT1.out.trans hP.to⟩
 clear hP k1 HN HT1 HX eP
 go_wp2_with fail
 go_end0
 exact ⟨⟨_, rfl⟩, HF.out⟩
def zeroG : Swg := ⟨⟨0, 0, 0, 0, 0, 0, 0⟩, 0, 0, none, 0, 0, fun _ => default, ⟨none, 0, 0, fun _ => 0, 0, none, 0, 0, fun _ => false⟩, none, 0, 0, fun _ => ⟨0, 0, 0, 0, 0, 0, 0, ⟨#[]⟩⟩, none, 0, 0, fun _ => ⟨false, none, 0, 0, fun _ => 0, none, 0, 0, fun _ => none, fun _ => 0, fun _ => 0, fun _ _ => 0, ⟨none, 0, 0, fun _ => 0, none, 0, 0, fun _ => 0, 0, false, none, 0, 0, fun _ => none, fun _ => 0, fun _ => 0, fun _ _ => 0⟩⟩, 0, 0⟩
theorem zero_own (w : World) (base : Nat) : OwnSz w base zeroG := ⟨OG.nil _ _ _ _, ⟨.inl rfl, .inl rfl⟩, OG.nil _ _ _ _, OwnLs.nil _ _ _, fun x hx => by simp [blkV, zeroG] at hx⟩
def tickOf (S : Swg) (b : Bool) : Swg := if b then S.ticked none 0 else zeroG
theorem tickOf_t (S : Swg) : tickOf S true = S.ticked none 0 := rfl
theorem res_cellT2 {fn : Func} {i j : Tmp} {ty : TypeId} (h : fn.results = #[.cell i ty, .tmp j]) (n : Nat) (d : TypeDesc) (hu : Tryz.prog.underlying ty = some d) (hd : d.isRow = true) (hn : (Tryz.prog.info? ty).map (·.size) = some n) (tmps : Array Value) (w : World) (g : Nat) (cs : Array Value) (hi : tmps[i]?.getD undef = .pointer (some ⟨g, 0, none⟩)) (t : TypeId) (hk : w.heap[g]? = some (.cells cs t (0, 0))) (hs : cs.size = n) (v : Value) (hv : tmps[j]?.getD undef = v) :
  (results fn tmps).run Tryz.prog w = .ok (.tuple #[.agg cs, v]) w := by
 have := run_loadVar_mid (P := Tryz.prog) w g 0 ty cs.toList d (fun j v hv => by
  rw [Nat.zero_add, blk_cell hk, ← Array.getElem?_toList]; exact hv) hu hd (by rw [hn, Array.length_toList, hs])
 rw [Array.toArray_toList] at this
 simp [results, h, hi, hv, asAddr, this]
theorem tab_of {S : Swg} (h : S.Ok) : tabOk S.nE S.e ∧ 0 ≤ S.now ∧ S.now ≤ 1000000000 ∧ 0 < S.N.nU ∧ 0 < S.N.nP := by
 have h1 := h.n.cfg
 have h2 := h.n.nP
 exact ⟨h.seen.1, h.nums.now.1, h.nums.now.2, by omega, by omega⟩
set_option maxRecDepth 100000 in
set_option maxHeartbeats 4000000 in
theorem iTicked_any (S : Swg) (w : World) (hs : S.Small) (hr : RdSg w S) (ok : Bool) (hok : ok = true ↔ S.Ok) (b : Bool) (hb : b = true ↔ S.Ok ∧ S.now ≠ 1000000000) :
  Calls Tryz.prog 11 #[.agg S.cells] w fun e w' => ∃ S2, e = .returned (.tuple #[.agg S2.cells, .bool b]) ∧ AlikeG (tickOf S b) S2 ∧ OwnSz w' w.heap.size S2 ∧ Below w.heap.size w w' := by
 have HO : Hid (ok = true ↔ S.Ok) := hok
 have HBB : Hid (b = true ↔ S.Ok ∧ S.now ≠ 1000000000) := hb
 have HR : Hid (RdSg w S) := hr
 have HS : Hid S.Small := hs
 obtain ⟨W, eW⟩ : ∃ W, (w.alloc (.cells S.cells 41)).alloc (.cells #[.int .i64 0, .int .i64 0, .int .i64 0, .int .i64 0, .int .i64 0, .int .i64 0, .int .i64 0, .int .i64 0, .int .i64 0, .slice none 0 0, .slice none 0 0, .int .i64 0, .slice none 0 0, .slice none 0 0, .slice none 0 0, .int .i64 0, .int .i64 0] 41) = W := ⟨_, rfl⟩
 have HX : Hid (Two w S.cells zSw 41 W) := by rw [← eW]; exact Two.start _ _ _ _
 have HL : Hid (∀ j, j < 17 → W.cell? ⟨w.heap.size, 0 + j, none⟩ = S.cells[j]?) := fun j _ => by rw [Nat.zero_add]; exact blk_cell HX.out.a j
 clear hs hr hok hb
 go_enter Tryz.func11, Tryz.ntmps11
 go_wp2_with (refine wpList_ldT rfl 41 17 _ Tryz.underlying41 rfl infoSgI (.tmp 1) rfl (w.heap.size) 0 rfl S.cells rfl HL.out ?_)
 clear eW HL
 refine (iSwitchOk_any S _ HS.out (HR.out.up HX.out.bel) ok HO.out).mono ?_
 rintro e w1 ⟨rfl, hbl⟩
 replace HX : Hid (Two w S.cells zSw 41 w1) := HX.out.up hbl
 clear hbl
 have c7 : w1.cell? ⟨w.heap.size, 7, none⟩ = some (.int .i64 S.now) := blk_cell HX.out.a 7
 have HD : Hid (w1.heap[w.heap.size + 1]? = some (.cells zSw 41 (0, 0))) := HX.out.b
 cases ok
 ·
  have HF : Hid (b = false) := by
   rw [Hid, Bool.eq_false_iff]
   intro e
   have h := HBB.out.1 e
   exact absurd (HO.out.2 h.1) (by simp)
  go_wp2_with (refine wpList_stA rfl 41 (.tmp 2) (.tmp 13) rfl (w.heap.size + 1) 0 rfl (.agg #[.int .i64 0, .int .i64 0, .int .i64 0, .int .i64 0, .int .i64 0, .int .i64 0, .int .i64 0, .int .i64 0, .int .i64 0, .slice none 0 0, .slice none 0 0, .int .i64 0, .slice none 0 0, .slice none 0 0, .slice none 0 0, .int .i64 0, .int .i64 0]) rfl 17 rfl 41 _ HD.out infoSgI (Nat.le_of_ble_eq_true rfl) (by simp [Value.cells, Value.oneCell']) ?_)
  intro X hP
  replace hP : Put w1 X (w.heap.size + 1) zeroG.cells 41 := hP.cast rfl
  have HK : Hid (X.heap[w.heap.size + 1]? = some (.cells zeroG.cells 41 (0, 0))) := hP.blk
  have HB2 : Hid (Below w.heap.size w X) := HX.out.bel.trans (hP.to.below HX.out.bel.size (fun x hx => by simp at hx; omega))
  clear hP c7
  go_wp2_with fail
  rw [HF.out]
  exact bodyPost_ret (res_cellT2 Tryz.results11 17 _ Tryz.underlying41 rfl infoSgI _ _ (w.heap.size + 1) zeroG.cells rfl 41 HK.out rfl (.bool false) rfl) rfl ⟨zeroG, rfl, AlikeG.refl _, zero_own _ _, HB2.out⟩
 have HOk : Hid S.Ok := HO.out.1 rfl
 by_cases hnow : S.now = 1000000000
 ·
  have HNow : Hid (S.now = 1000000000) := hnow
  have hnow' : (S.now == 1000000000) = true := by simp [hnow]
  clear hnow
  have HF : Hid (b = false) := by
   rw [Hid, Bool.eq_false_iff]
   intro e
   have h := HBB.out.1 e
   exact h.2 HNow.out
  go_wp2_with (refine wpList_stA rfl 41 (.tmp 2) (.tmp 13) rfl (w.heap.size + 1) 0 rfl (.agg #[.int .i64 0, .int .i64 0, .int .i64 0, .int .i64 0, .int .i64 0, .int .i64 0, .int .i64 0, .int .i64 0, .int .i64 0, .slice none 0 0, .slice none 0 0, .int .i64 0, .slice none 0 0, .slice none 0 0, .slice none 0 0, .int .i64 0, .int .i64 0]) rfl 17 rfl 41 _ HD.out infoSgI (Nat.le_of_ble_eq_true rfl) (by simp [Value.cells, Value.oneCell']) ?_)
  intro X hP
  replace hP : Put w1 X (w.heap.size + 1) zeroG.cells 41 := hP.cast rfl
  have HK : Hid (X.heap[w.heap.size + 1]? = some (.cells zeroG.cells 41 (0, 0))) := hP.blk
  have HB2 : Hid (Below w.heap.size w X) := HX.out.bel.trans (hP.to.below HX.out.bel.size (fun x hx => by simp at hx; omega))
  clear hP c7
  go_wp2_with fail
  rw [HF.out]
  exact bodyPost_ret (res_cellT2 Tryz.results11 17 _ Tryz.underlying41 rfl infoSgI _ _ (w.heap.size + 1) zeroG.cells rfl 41 HK.out rfl (.bool false) rfl) rfl ⟨zeroG, rfl, AlikeG.refl _, zero_own _ _, HB2.out⟩
 have hnow' : (S.now == 1000000000) = false := by simp [hnow]
 have HNow : Hid (S.now ≠ 1000000000) := hnow
 clear hnow
 have HF : Hid (b = true) := HBB.out.2 ⟨HOk.out, HNow.out⟩
 have HL : Hid (∀ j, j < 17 → w1.cell? ⟨w.heap.size, 0 + j, none⟩ = S.cells[j]?) := fun j _ => by rw [Nat.zero_add]; exact blk_cell HX.out.a j
 obtain ⟨ht1, ht2, ht3, ht4, ht5⟩ := tab_of HOk.out
 have HTb : Hid (tabOk S.nE S.e) := ht1
 clear ht1
 go_wp2_with (refine wpList_ldT rfl 41 17 _ Tryz.underlying41 rfl infoSgI (.tmp 1) rfl (w.heap.size) 0 rfl S.cells rfl HL.out ?_)
 clear HL c7 hnow'
 have HW1 : Hid (w.heap.size ≤ w1.heap.size) := HX.out.bel.size
 refine (copySwitch_any S _ HS.out ht4 ht5 (HR.out.up HX.out.bel)).mono ?_
 rintro e w2 ⟨P, rfl, aP, oP, hbl⟩
 replace HX : Hid (Two w S.cells zSw 41 w2) := HX.out.up hbl
 have HP : Hid (AlikeG S P ∧ OwnSz w2 w.heap.size P) := ⟨aP, oP.mono HW1.out⟩
 clear aP oP hbl
 have HG : Hid ((w2.alloc (.cells #[.int .i64 0, .int .i64 0, .int .i64 0, .int .i64 0, .int .i64 0, .int .i64 0, .int .i64 0, .int .i64 0, .int .i64 0, .slice none 0 0, .slice none 0 0, .int .i64 0, .slice none 0 0, .slice none 0 0, .slice none 0 0, .int .i64 0, .int .i64 0] 41)).heap[w2.heap.size]? = some (.cells #[.int .i64 0, .int .i64 0, .int .i64 0, .int .i64 0, .int .i64 0, .int .i64 0, .int .i64 0, .int .i64 0, .int .i64 0, .slice none 0 0, .slice none 0 0, .int .i64 0, .slice none 0 0, .slice none 0 0, .slice none 0 0, .int .i64 0, .int .i64 0] 41 (0, 0))) := blk_new _ _
 go_wp2_with (refine wpList_stA rfl 41 (.tmp 4) (.tmp 15) rfl (w2.heap.size) 0 rfl (.agg P.cells) rfl 17 rfl 41 _ HG.out infoSgI (Nat.le_of_ble_eq_true rfl) (Swg.oneC _) ?_)
 intro X0 hP
 replace hP : Put _ X0 w2.heap.size P.cells 41 := hP.cast rfl
 have hbl : Below w2.heap.size w2 X0 := ((Below.refl _ _).alloc (Nat.le_refl _) _).trans (hP.to.below (by simp) (fun x hx => by simp at hx; omega))
 have kN := hP.blk
 have hgN : w.heap.size + 1 < w2.heap.size := blk_lt HX.out.b
 replace HX : Hid (Two w S.cells zSw 41 X0) := HX.out.up hbl
 replace HP : Hid (AlikeG S P ∧ OwnSz X0 w.heap.size P) := ⟨HP.out.1, HP.out.2.up hbl⟩
 clear hP HG hbl HD
 obtain ⟨gN, eN⟩ : ∃ g, w2.heap.size = g := ⟨_, rfl⟩
 rw [eN] at kN hgN ⊢
 clear eN
 have HgN : Hid (w.heap.size + 1 < gN) := hgN
 have HkN : Hid (X0.heap[gN]? = some (.cells P.cells 41 (0, 0))) := kN
 clear kN hgN
 go_wp2_with fail
 refine (tickSwitch_any P gN w.heap.size _ HkN.out HP.out.2 HX.out.bel.size (by rw [HP.out.1.nE]; exact HS.out.e) (by rw [HP.out.1.nE, HP.out.1.e]; exact HTb.out) (by rw [HP.out.1.now]; exact ht2) (by rw [HP.out.1.now]; have := HNow.out; omega)).mono ?_
 rintro e X1 ⟨⟨v, rfl⟩, aE, cE, kN, oN, tN⟩
 replace HX : Hid (Two w S.cells zSw 41 X1) := ⟨(tN.block _ (blk_lt HX.out.a) (by have := HgN.out; simp; omega)).trans HX.out.a, (tN.block _ (blk_lt HX.out.b) (by have := HgN.out; simp; omega)).trans HX.out.b, HX.out.bel.trans (tN.below HX.out.bel.size (fun x hx => by have := HgN.out; simp at hx; omega))⟩
 have HN : Hid (AlikeG (tickOf S b) (P.ticked aE cE) ∧ OwnSz X1 w.heap.size (P.ticked aE cE)) := ⟨by rw [HF.out, tickOf_t]; exact HP.out.1.tick _ _ _ _, oN⟩
 have HL : Hid (∀ j, j < 17 → X1.cell? ⟨gN, 0 + j, none⟩ = (P.ticked aE cE).cells[j]?) := fun j _ => by rw [Nat.zero_add]; exact blk_cell kN j
 have HD : Hid (X1.heap[w.heap.size + 1]? = some (.cells zSw 41 (0, 0))) := HX.out.b
 clear kN oN tN HP HkN
 go_wp2_with (first | refine wpList_ldT rfl 41 17 _ Tryz.underlying41 rfl infoSgI (.tmp 4) rfl (gN) 0 rfl (P.ticked aE cE).cells rfl HL.out ?_ | refine wpList_stA rfl 41 (.tmp 2) (.tmp 17) rfl (w.heap.size + 1) 0 rfl (.agg (P.ticked aE cE).cells) rfl 17 rfl 41 _ HD.out infoSgI (Nat.le_of_ble_eq_true rfl) (Swg.oneC _) ?_)
 intro X hP
 replace hP : Put X1 X (w.heap.size + 1) (P.ticked aE cE).cells 41 := hP.cast rfl
 have HK : Hid (X.heap[w.heap.size + 1]? = some (.cells (P.ticked aE cE).cells 41 (0, 0))) := hP.blk
 have HFF : Hid (OwnSz X w.heap.size (P.ticked aE cE) ∧ Below w.heap.size w X) := ⟨HN.out.2.off HD.out hP.to, HX.out.bel.trans (hP.to.below HX.out.bel.size (fun x hx => by simp at hx; omega))⟩
 clear hP HL HD
 go_wp2_with fail
 rw [HF.out] at HN ⊢
 exact bodyPost_ret (res_cellT2 Tryz.results11 17 _ Tryz.underlying41 rfl infoSgI _ _ (w.heap.size + 1) (P.ticked aE cE).cells rfl 41 HK.out rfl (.bool true) rfl) rfl ⟨P.ticked aE cE, rfl, HN.out.1, HFF.out.1, HFF.out.2⟩
def RowI (g o n : Nat) (f : Nat → Value) (w : World) : Prop := RowG 2 g o n f w
def VGI (w : World) (base : Nat) (a : Option Addr) (n : Nat) (f : Nat → Int) : Prop := VG 2 w base a n fun i => .int .i64 (f i)
def apartV (a : Option Addr) (n : Nat) (a' : Option Addr) (n' : Nat) : Prop := ∀ x ∈ blkV a n, x ∉ blkV a' n'
theorem VGI.touchS {w w' : World} {base : Nat} {a : Option Addr} {n : Nat} {f : Nat → Int} {S : List Nat} (h : VGI w base a n f) (ht : Touch S w w') (hp : ∀ x ∈ blkV a n, x ∉ S) : VGI w' base a n f := VG.touchS h ht hp
def RowITo (g o n : Nat) (f : Nat → Value) (k : Nat) (w : World) : Prop := ∃ arr : Array Value, w.heap[g]? = some (.cells arr 2 (0, 0)) ∧ o + n ≤ arr.size ∧ ∀ i, i < k → arr[o + i]? = some (f i)
theorem RowITo.there {g o n k : Nat} {f : Nat → Value} {w : World} (h : RowITo g o n f k w) (i : Nat) (hi : i < n) : ∃ v, w.cell? ⟨g, o + i, none⟩ = some v := by
 obtain ⟨arr, hb, hn, hc⟩ := h
 exact ⟨arr[o + i], by rw [blk_cell hb]; simp⟩
theorem RowITo.free {g o n k : Nat} {f : Nat → Value} {w : World} (h : RowITo g o n f k w) (i : Nat) : w.frozen? ⟨g, i, none⟩ = false := by
 obtain ⟨arr, hb, hn, hc⟩ := h
 exact blk_free hb i
theorem RowITo.step {g o n k : Nat} {f : Nat → Value} {w : World} (h : RowITo g o n f k w) (hk : k < n) : RowITo g o n f (k + 1) (w.setCell ⟨g, o + k, none⟩ (f k)) := by
 obtain ⟨arr, hb, hn, hc⟩ := h
 refine ⟨_, blk_set hb _, by simpa using hn, fun i hi => ?_⟩
 by_cases e : i = k
 ·
  subst e
  rw [Array.getElem?_setIfInBounds_self_of_lt (by omega)]
 ·
  rw [Array.getElem?_setIfInBounds_ne (by omega)]
  exact hc i (by omega)
theorem RowI.at {g o n : Nat} {f : Nat → Value} {w : World} (h : RowI g o n f w) (i : Nat) (hi : i < n) : w.cell? ⟨g, o + i, none⟩ = some (f i) := by
 obtain ⟨arr, hb, hn, hc⟩ := h
 rw [blk_cell hb]; exact hc i hi
theorem markI_any (g o n cap m : Nat) (f : Nat → Value) (w : World) (h : RowI g o n f w) (hn : n ≤ 1048576) (hm : m ≤ 100000000) :
  Calls Tryz.prog 90 #[.slice (some ⟨g, o, none⟩) n cap, .int .i64 m] w fun e w' => e = .returned (.int .i64 (m + n : Nat)) ∧ RowI g o n (fun i => .int .i64 (m + i : Nat)) w' ∧ Touch [g] w w' := by
 have h0 : RowITo g o n (fun i => .int .i64 (m + i : Nat)) 0 w := by
  obtain ⟨arr, h1, h2, h3⟩ := h
  exact ⟨arr, h1, h2, fun i hi => by omega⟩
 clear h
 go_enter Tryz.func90, Tryz.ntmps90
 go_wp2_with fail
 go_loopw [1, 5] (fun x i wr => ∃ k : Nat, k ≤ n ∧ i = .int .i64 k ∧ x = .int .i64 (m + k : Nat) ∧ RowITo g o n (fun i => .int .i64 (m + i : Nat)) k wr ∧ Touch [g] w wr) (fun _ i _ => n - (intOf i).toNat)
 case atStart => exact ⟨0, Nat.zero_le _, rfl, rfl, h0, Touch.refl _ _⟩
 case round =>
  clear h0
  obtain ⟨k, hk, rfl, rfl, hR, hT⟩ := hrel
  by_cases hlt : k < n
  ·
   obtain ⟨v, hv⟩ := hR.there k hlt
   have hf := hR.free (o + k)
   have hlt' : (k : Int) < n := by omega
   go_wp2_with fail
   go_roundw
   case rel => exact ⟨k + 1, by omega, by go_num, by go_num, hR.step hlt, hT.set (by simp) (o + k) _⟩
   case measure => simp [intOf]; omega
  ·
   obtain rfl : k = n := by omega
   go_wp2_with fail
   go_ret
   exact ⟨rfl, hR, hT⟩
theorem heldI_any (g o n cap m : Nat) (w : World) (h : RowI g o n (fun i => .int .i64 (m + i : Nat)) w) (hn : n ≤ 1048576) (hm : m ≤ 100000000) :
  Calls Tryz.prog 94 #[.slice (some ⟨g, o, none⟩) n cap, .int .i64 m] w fun e w' => e = .returned (.int .i64 (m + n : Nat)) ∧ w = w' := by
 go_enter Tryz.func94, Tryz.ntmps94
 go_wp2_with fail
 go_loop [1, 5] (fun x i => ∃ k : Nat, k ≤ n ∧ i = .int .i64 k ∧ x = .int .i64 (m + k : Nat)) (fun _ i => n - (intOf i).toNat)
 case atStart => exact ⟨0, Nat.zero_le _, rfl, rfl⟩
 case round =>
  obtain ⟨k, hk, rfl, rfl⟩ := hrel
  by_cases hlt : k < n
  ·
   have hc := h.at k hlt
   have hlt' : (k : Int) < n := by omega
   go_wp2_with fail
   go_round
   case rel => exact ⟨k + 1, by omega, by go_num, by go_num⟩
   case measure => simp [intOf]; omega
  ·
   obtain rfl : k = n := by omega
   go_wp2_with fail
   go_ret
   exact ⟨rfl, rfl⟩
theorem markVGI_any (a : Option Addr) (n cap m base : Nat) (f : Nat → Int) (w : World) (h : VGI w base a n f) (hn : n ≤ 1048576) (hm : m ≤ 100000000) :
  Calls Tryz.prog 90 #[.slice a n cap, .int .i64 m] w fun e w' => e = .returned (.int .i64 ((m + n : Nat) : Int)) ∧ VGI w' base a n (fun i => ((m + i : Nat) : Int)) ∧ Touch (blkV a n) w w' := by
 by_cases h0 : n = 0
 ·
  subst h0
  refine (markEmpty_any a cap m w).mono ?_
  rintro e w' ⟨rfl, rfl⟩
  exact ⟨by simp, .inl rfl, Touch.refl _ _⟩
 rcases h with h | ⟨g, o, rfl, hg, hr⟩
 ·
  exact absurd h h0
 ·
  refine (markI_any g o n cap m _ w hr hn hm).mono ?_
  rintro e w' ⟨rfl, h1, h2⟩
  refine ⟨rfl, .inr ⟨g, o, rfl, hg, h1⟩, ?_⟩
  unfold blkV
  rw [if_neg h0]
  exact h2
theorem heldVGI_any (a : Option Addr) (n cap m base : Nat) (w : World) (h : VGI w base a n (fun i => ((m + i : Nat) : Int))) (hn : n ≤ 1048576) (hm : m ≤ 100000000) :
  Calls Tryz.prog 94 #[.slice a n cap, .int .i64 m] w fun e w' => e = .returned (.int .i64 ((m + n : Nat) : Int)) ∧ w = w' := by
 by_cases h0 : n = 0
 ·
  subst h0
  refine (heldEmpty_any a cap m w).mono ?_
  rintro e w' ⟨rfl, rfl⟩
  exact ⟨by simp, rfl⟩
 rcases h with h | ⟨g, o, rfl, hg, hr⟩
 ·
  exact absurd h h0
 ·
  exact heldI_any g o n cap m w hr hn hm
theorem markIss_any (a : Option Addr) (n cap m base : Nat) (A : Nat → Option Addr) (L C : Nat → Nat) (z : Nat → Nat → Int) (T : List Nat) (w : World) (hn : n ≤ 1048576) (hs : sumL L n ≤ 10000000) (hm : m ≤ 50000000) (hl : ∀ i, i < n → L i ≤ 1048576)
  (ha : ∀ w', Touch T w w' → RdRow w' a n fun i => .slice (A i) (L i) (C i)) (hz : ∀ i, i < n → VGI w base (A i) (L i) (z i)) (hp : ∀ i j, i < n → j < n → i ≠ j → apartV (A i) (L i) (A j) (L j)) (hT : ∀ i, i < n → ∀ x ∈ blkV (A i) (L i), x ∈ T) :
  Calls Tryz.prog 93 #[.slice a n cap, .int .i64 m] w fun e w' => e = .returned (.int .i64 ((m + sumL L n : Nat) : Int)) ∧ (∀ i, i < n → VGI w' base (A i) (L i) (fun j => ((m + sumL L i + j : Nat) : Int))) ∧ Touch T w w' := by
 have HA : Hid (∀ w', Touch T w w' → RdRow w' a n fun i => .slice (A i) (L i) (C i)) := ha
 have HZ : Hid (∀ i, i < n → VGI w base (A i) (L i) (z i)) := hz
 have HP : Hid (∀ i j, i < n → j < n → i ≠ j → apartV (A i) (L i) (A j) (L j)) := hp
 have HT : Hid (∀ i, i < n → ∀ x ∈ blkV (A i) (L i), x ∈ T) := hT
 have HL : Hid (∀ i, i < n → L i ≤ 1048576) := hl
 clear ha hz hp hT hl
 go_enter Tryz.func93, Tryz.ntmps93
 go_wp2_with fail
 go_loopw [1, 5] (fun x i wr => ∃ (k q : Nat), k ≤ n ∧ i = .int .i64 k ∧ x = .int .i64 q ∧ q = m + sumL L k ∧ (∀ i, i < k → VGI wr base (A i) (L i) (fun j => ((m + sumL L i + j : Nat) : Int))) ∧ (∀ i, k ≤ i → i < n → VGI wr base (A i) (L i) (z i)) ∧ Touch T w wr) (fun _ i _ => n - (intOf i).toNat)
 case atStart => exact ⟨0, m, Nat.zero_le _, rfl, rfl, rfl, fun i hi => by omega, fun i _ hi => HZ.out i hi, Touch.refl _ _⟩
 case round =>
  obtain ⟨k, q, hk, rfl, rfl, hq, h1, h2, hTo⟩ := hrel
  have HQ : Hid (q = m + sumL L k) := hq
  have H1 : Hid (∀ i, i < k → VGI wr base (A i) (L i) (fun j => ((m + sumL L i + j : Nat) : Int))) := h1
  have H2 : Hid (∀ i, k ≤ i → i < n → VGI wr base (A i) (L i) (z i)) := h2
  have hle := sumL_le L hk
  clear h1 h2
  by_cases hlt : k < n
  ·
   have hlt' : (k : Int) < n := by omega
   obtain ⟨g, o, rfl, hc⟩ := HA.out wr hTo k hlt
   dsimp only at hc
   clear hq
   go_wp2_with fail
   refine (markVGI_any (A k) (L k) (C k) q base (z k) _ (H2.out k (Nat.le_refl _) hlt) (HL.out k hlt) (by have := HQ.out; omega)).mono ?_
   rintro e w1 ⟨rfl, hv, ht⟩
   have HV : Hid (VGI w1 base (A k) (L k) (fun j => ((m + sumL L k + j : Nat) : Int))) := by rw [Hid, ← HQ.out]; exact hv
   have HTo : Hid (Touch T w w1) := hTo.trans (ht.mono (HT.out k hlt))
   have HTk : Hid (Touch (blkV (A k) (L k)) wr w1) := ht
   clear hv ht hTo hc
   go_wp2_with fail
   go_roundw
   case rel => exact ⟨k + 1, q + L k, by omega, by go_num, rfl, by show _ = m + (sumL L k + L k); have := HQ.out; omega, fun i hi => by
    by_cases e : i = k
    ·
     subst e; exact HV.out
    ·
     exact (H1.out i (by omega)).touchS HTk.out (HP.out i k (by omega) hlt e), fun i hi hi2 => (H2.out i (by omega) hi2).touchS HTk.out (HP.out i k hi2 hlt (by omega)), HTo.out⟩
   case measure => simp [intOf]; omega
  ·
   obtain rfl : k = n := by omega
   go_wp2_with fail
   go_ret
   exact ⟨ret_int (by rw [HQ.out]), H1.out, hTo⟩
theorem heldIss_any (a : Option Addr) (n cap m base : Nat) (A : Nat → Option Addr) (L C : Nat → Nat) (w : World) (hn : n ≤ 1048576) (hs : sumL L n ≤ 10000000) (hm : m ≤ 50000000) (hl : ∀ i, i < n → L i ≤ 1048576)
  (ha : RdRow w a n fun i => .slice (A i) (L i) (C i)) (hz : ∀ i, i < n → VGI w base (A i) (L i) (fun j => ((m + sumL L i + j : Nat) : Int))) :
  Calls Tryz.prog 96 #[.slice a n cap, .int .i64 m] w fun e w' => e = .returned (.int .i64 ((m + sumL L n : Nat) : Int)) ∧ w = w' := by
 have HA : Hid (RdRow w a n fun i => .slice (A i) (L i) (C i)) := ha
 have HZ : Hid (∀ i, i < n → VGI w base (A i) (L i) (fun j => ((m + sumL L i + j : Nat) : Int))) := hz
 have HL : Hid (∀ i, i < n → L i ≤ 1048576) := hl
 clear ha hz hl
 go_enter Tryz.func96, Tryz.ntmps96
 go_wp2_with fail
 go_loop [1, 5] (fun x i => ∃ (k q : Nat), k ≤ n ∧ i = .int .i64 k ∧ x = .int .i64 q ∧ q = m + sumL L k) (fun _ i => n - (intOf i).toNat)
 case atStart => exact ⟨0, m, Nat.zero_le _, rfl, rfl, rfl⟩
 case round =>
  obtain ⟨k, q, hk, rfl, rfl, hq⟩ := hrel
  have HQ : Hid (q = m + sumL L k) := hq
  have hle := sumL_le L hk
  by_cases hlt : k < n
  ·
   have hlt' : (k : Int) < n := by omega
   obtain ⟨g, o, rfl, hc⟩ := HA.out k hlt
   dsimp only at hc
   clear hq
   go_wp2_with fail
   refine (heldVGI_any (A k) (L k) (C k) q base _ (by rw [HQ.out]; exact HZ.out k hlt) (HL.out k hlt) (by have := HQ.out; omega)).mono ?_
   rintro e w1 ⟨rfl, rfl⟩
   have hq0 : ¬ ((q + L k : Nat) : Int) < 0 := by omega
   go_wp2_with fail
   go_round
   case rel => exact ⟨k + 1, q + L k, by omega, by go_num, rfl, by show _ = m + (sumL L k + L k); have := HQ.out; omega⟩
   case measure => simp [intOf]; omega
  ·
   obtain rfl : k = n := by omega
   go_wp2_with fail
   go_ret
   exact ⟨ret_int (by first | rfl | rw [HQ.out] | simp), rfl⟩
theorem convOne (w : World) (a : Int) : (convert 158 9 (.slice (some ⟨w.heap.size, 0, none⟩) 1 1)).run Tryz.prog (w.alloc (.cells #[.int .u8 a] 5)) = .ok (.string (strOfNums [a])) (w.alloc (.cells #[.int .u8 a] 5)) := by
 refine run_convert_bytes_arg _ 158 5 Tryz.underlying158 Tryz.underlying5 w.heap.size 0 1 1 [a] rfl ?_ 9 Tryz.underlying9
 intro i hi
 have := World.cell?_alloc_mark w #[.int .u8 a] 5 (0, 0) (0 + i)
 rw [this]
 obtain rfl : i = 0 := by omega
 rfl
def mtGo : Nat → Nat → ByteArray → ByteArray
 | 0, _, out => out
 | f + 1, k, out => if k = 0 then out else mtGo f (k / 10) (strOfNums [48 + (k : Int) % 10] ++ out)
def mt (k : Nat) : ByteArray := if k = 0 then ⟨#[109, 48]⟩ else ⟨#[109]⟩ ++ mtGo k k ⟨#[]⟩
theorem mtGo_zero (f : Nat) (out : ByteArray) : mtGo f 0 out = out := by cases f <;> simp [mtGo]
theorem mtGo_step (f k : Nat) (out : ByteArray) (h : 0 < k) : mtGo (f + 1) k out = mtGo f (k / 10) (strOfNums [48 + (k : Int) % 10] ++ out) := by
 rw [mtGo, if_neg (by omega)]
theorem markText_any (k : Nat) (w : World) (hk : k < 1000000000000) :
  Calls Tryz.prog 92 #[.int .i64 k] w fun e w' => e = .returned (.string (mt k)) ∧ Below w.heap.size w w' := by
 by_cases h0 : k = 0
 ·
  subst h0
  go_enter Tryz.func92, Tryz.ntmps92
  go_wp2_with fail
  go_ret
  exact ⟨rfl, Below.refl _ _⟩
 ·
  have hpos : (0 : Int) < k := by omega
  have HM : Hid (mt k = ⟨#[109]⟩ ++ mtGo k k ⟨#[]⟩) := by show _ = _; unfold mt; rw [if_neg h0]
  go_enter Tryz.func92, Tryz.ntmps92
  go_wp2_with fail
  go_loopw [0, 3] (fun x o wr => ∃ (kk f r : Nat) (out : ByteArray), kk ≤ f ∧ kk < 10 ^ r ∧ out.size + r ≤ 12 ∧ x = .int .i64 kk ∧ o = .string out ∧ mtGo f kk out = mtGo k k ⟨#[]⟩ ∧ Below w.heap.size w wr) (fun x _ _ => (intOf x).toNat)
  case atStart => exact ⟨k, k, 12, ⟨#[]⟩, Nat.le_refl _, by omega, Nat.le_refl _, rfl, rfl, rfl, Below.refl _ _⟩
  case round =>
   obtain ⟨kk, f, r, out, hf, hr, hs, rfl, rfl, hm, hB⟩ := hrel
   have HG : Hid (mtGo f kk out = mtGo k k ⟨#[]⟩) := hm
   clear hm
   by_cases hz : 0 < kk
   ·
    have hz' : (0 : Int) < kk := by omega
    have hk12 : (kk : Int) ≤ 1000000000000 := by
     have : kk < 10 ^ 12 := Nat.lt_of_lt_of_le hr (Nat.pow_le_pow_right (by omega) (by omega))
     omega
    have hcv := convOne wr
    have hd1 : ∀ a, ¬ (9223372036854775807 < (strOfNums [a]).size + out.size) := by intro a; rw [strOfNums_size]; simp; omega
    go_wp2_with fail
    obtain ⟨f', rfl⟩ : ∃ f', f = f' + 1 := ⟨f - 1, by omega⟩
    obtain ⟨r', rfl⟩ : ∃ r', r = r' + 1 := by
     cases r with
     | zero => simp at hr; omega
     | succ r => exact ⟨r, rfl⟩
    go_roundw
    case rel =>
     refine ⟨kk / 10, f', r', strOfNums [48 + (kk : Int) % 10] ++ out, by omega, ?_, ?_, by go_num, rfl, ?_, hB.alloc hB.size _⟩
     ·
      rw [Nat.pow_succ] at hr; omega
     ·
      rw [ByteArray.size_append, strOfNums_size]; simp; omega
     ·
      rw [← HG.out, mtGo_step f' kk out hz]
    case measure => simp [intOf]; omega
   ·
    obtain rfl : kk = 0 := by omega
    have hd1 : ¬ (9223372036854775807 < (⟨#[109]⟩ : ByteArray).size + out.size) := by show ¬ (_ < 1 + out.size); omega
    have hout : Hid (mtGo k k ⟨#[]⟩ = out) := by have := HG.out; rw [mtGo_zero] at this; exact this.symm
    go_wp2_with fail
    go_ret
    exact ⟨ret_string (by rw [HM.out, hout.out]), hB⟩
theorem rowTo_put1 {w W : World} {g n k : Nat} {t : TypeId} {F : Nat → Value} {arr : Array Value} {v : Value} (hn : n ≤ arr.size) (hc : ∀ i, i < k → arr[i]? = some (F i)) (hlt : k < n) (hv : F k = v) (hP : Put w W g (lay arr k #[v]) t) : RowTo g t n F (k + 1) W := by
 have hf : k + (#[v] : Array Value).size ≤ arr.size := by show k + 1 ≤ _; omega
 refine ⟨_, hP.blk, by rw [lay_size hf]; exact hn, fun i hi => ?_⟩
 by_cases e : i < k
 ·
  rw [lay_lo hf i e]
  exact hc i e
 ·
  have := lay_at hf 0 (by show 0 < 1; omega)
  rw [show i = k + 0 by omega, this, Nat.add_zero, hv]
  rfl
def markK (m j : Nat) : Value := if j % 8 = 7 then .string (mt (m + j)) else .int .i64 ((m + j : Nat) : Int)
theorem markK_i {m k j : Nat} (h : j < 7) : markK m (k * 8 + j) = .int .i64 ((m + k * 8 + j : Nat) : Int) := by
 unfold markK
 rw [if_neg (by omega), Nat.add_assoc]
theorem markK_s {m k : Nat} : markK m (k * 8 + 7) = .string (mt (m + k * 8 + 7)) := by
 unfold markK
 rw [if_pos (by omega), Nat.add_assoc]
theorem int_eq {a b : Int} (h : a = b) : (Value.int .i64 a) = .int .i64 b := by rw [h]
set_option maxRecDepth 10000 in
set_option maxHeartbeats 4000000 in
theorem markPks_any (g n cap m : Nat) (f : Nat → Value) (w : World) (h : RowTo g 60 (n * 8) f (n * 8) w) (hn : n ≤ 1048576) (hm : m ≤ 50000000) :
  Calls Tryz.prog 47 #[.slice (some ⟨g, 0, none⟩) n cap, .int .i64 m] w fun e w' => e = .returned (.int .i64 ((m + n * 8 : Nat) : Int)) ∧ RowTo g 60 (n * 8) (markK m) (n * 8) w' ∧ Touch [g] w w' := by
 have HM : Hid (RowTo g 60 (n * 8) (markK m) (0 * 8) w) := h.anew
 clear h
 go_enter Tryz.func47, Tryz.ntmps47
 go_wp2_with fail
 go_loopw [1, 5] (fun x i wr => ∃ (k : Nat) (q : Int), k ≤ n ∧ i = .int .i64 k ∧ x = .int .i64 q ∧ Hid (q = ((m + k * 8 : Nat) : Int)) ∧ Hid (RowTo g 60 (n * 8) (markK m) (k * 8) wr) ∧ Hid (Touch [g] w wr)) (fun _ i _ => n - (intOf i).toNat)
 case atStart => exact ⟨0, m, Nat.zero_le _, rfl, rfl, by show (m : Int) = _; simp, HM.out, Touch.refl _ _⟩
 case round =>
  obtain ⟨k, q, hk, rfl, rfl, HQ, HR, HT⟩ := hrel
  by_cases hlt : k < n
  ·
   have hlt' : (k : Int) < n := by omega
   have q0 : 0 ≤ q := by have := HQ.out; omega
   have q1 : q ≤ 1000000000 := by have := HQ.out; omega
   obtain ⟨arr, hb, hn2, hc⟩ := HR.out
   have HG : Hid (wr.heap[g]? = some (.cells arr 60 (0, 0))) := hb
   have HN : Hid (n * 8 ≤ arr.size ∧ ∀ i, i < k * 8 + 0 → arr[i]? = some (markK m i)) := ⟨hn2, hc⟩
   clear hb hn2 hc HR
   go_wp2_with (refine wpList_stA rfl 2 (.tmp 16) (.tmp 14) rfl g (k * 8) (by simp [Act.eval]) (.int .i64 q) rfl 1 rfl 60 arr HG.out infoI1 (by have := HN.out.1; omega) (by simp [Value.cells, Value.oneCell']) ?_)
   intro Y0 hP
   have HR : Hid (RowTo g 60 (n * 8) (markK m) (k * 8 + 1) Y0) := rowTo_put1 (k := k * 8 + 0) HN.out.1 HN.out.2 (by omega) (by rw [markK_i (by omega)]; exact int_eq (by have := HQ.out; omega)) hP
   replace HT : Hid (Touch [g] w Y0) := HT.out.trans hP.to
   clear hP HG HN
   obtain ⟨arr, hb, hn2, hc⟩ := HR.out
   have HG : Hid (Y0.heap[g]? = some (.cells arr 60 (0, 0))) := hb
   have HN : Hid (n * 8 ≤ arr.size ∧ ∀ i, i < k * 8 + 1 → arr[i]? = some (markK m i)) := ⟨hn2, hc⟩
   clear hb hn2 hc HR
   go_wp2_with (refine wpList_stA rfl 2 (.tmp 23) (.tmp 21) rfl g (k * 8 + 1) (by simp [Act.eval]) (.int .i64 (q + 1)) rfl 1 rfl 60 arr HG.out infoI1 (by have := HN.out.1; omega) (by simp [Value.cells, Value.oneCell']) ?_)
   intro Y1 hP
   have HR : Hid (RowTo g 60 (n * 8) (markK m) (k * 8 + 2) Y1) := rowTo_put1 (k := k * 8 + 1) HN.out.1 HN.out.2 (by omega) (by rw [markK_i (by omega)]; exact int_eq (by have := HQ.out; omega)) hP
   replace HT : Hid (Touch [g] w Y1) := HT.out.trans hP.to
   clear hP HG HN
   obtain ⟨arr, hb, hn2, hc⟩ := HR.out
   have HG : Hid (Y1.heap[g]? = some (.cells arr 60 (0, 0))) := hb
   have HN : Hid (n * 8 ≤ arr.size ∧ ∀ i, i < k * 8 + 2 → arr[i]? = some (markK m i)) := ⟨hn2, hc⟩
   clear hb hn2 hc HR
   go_wp2_with (refine wpList_stA rfl 2 (.tmp 30) (.tmp 28) rfl g (k * 8 + 2) (by simp [Act.eval]) (.int .i64 (q + 1 + 1)) rfl 1 rfl 60 arr HG.out infoI1 (by have := HN.out.1; omega) (by simp [Value.cells, Value.oneCell']) ?_)
   intro Y2 hP
   have HR : Hid (RowTo g 60 (n * 8) (markK m) (k * 8 + 3) Y2) := rowTo_put1 (k := k * 8 + 2) HN.out.1 HN.out.2 (by omega) (by rw [markK_i (by omega)]; exact int_eq (by have := HQ.out; omega)) hP
   replace HT : Hid (Touch [g] w Y2) := HT.out.trans hP.to
   clear hP HG HN
   obtain ⟨arr, hb, hn2, hc⟩ := HR.out
   have HG : Hid (Y2.heap[g]? = some (.cells arr 60 (0, 0))) := hb
   have HN : Hid (n * 8 ≤ arr.size ∧ ∀ i, i < k * 8 + 3 → arr[i]? = some (markK m i)) := ⟨hn2, hc⟩
   clear hb hn2 hc HR
   go_wp2_with (refine wpList_stA rfl 2 (.tmp 38) (.tmp 35) rfl g (k * 8 + 3) (by simp [Act.eval]) (.int .i64 (q + 1 + 1 + 1)) rfl 1 rfl 60 arr HG.out infoI1 (by have := HN.out.1; omega) (by simp [Value.cells, Value.oneCell']) ?_)
   intro Y3 hP
   have HR : Hid (RowTo g 60 (n * 8) (markK m) (k * 8 + 4) Y3) := rowTo_put1 (k := k * 8 + 3) HN.out.1 HN.out.2 (by omega) (by rw [markK_i (by omega)]; exact int_eq (by have := HQ.out; omega)) hP
   replace HT : Hid (Touch [g] w Y3) := HT.out.trans hP.to
   clear hP HG HN
   obtain ⟨arr, hb, hn2, hc⟩ := HR.out
   have HG : Hid (Y3.heap[g]? = some (.cells arr 60 (0, 0))) := hb
   have HN : Hid (n * 8 ≤ arr.size ∧ ∀ i, i < k * 8 + 4 → arr[i]? = some (markK m i)) := ⟨hn2, hc⟩
   clear hb hn2 hc HR
   go_wp2_with (refine wpList_stA rfl 2 (.tmp 46) (.tmp 43) rfl g (k * 8 + 4) (by simp [Act.eval]) (.int .i64 (q + 1 + 1 + 1 + 1)) rfl 1 rfl 60 arr HG.out infoI1 (by have := HN.out.1; omega) (by simp [Value.cells, Value.oneCell']) ?_)
   intro Y4 hP
   have HR : Hid (RowTo g 60 (n * 8) (markK m) (k * 8 + 5) Y4) := rowTo_put1 (k := k * 8 + 4) HN.out.1 HN.out.2 (by omega) (by rw [markK_i (by omega)]; exact int_eq (by have := HQ.out; omega)) hP
   replace HT : Hid (Touch [g] w Y4) := HT.out.trans hP.to
   clear hP HG HN
   obtain ⟨arr, hb, hn2, hc⟩ := HR.out
   have HG : Hid (Y4.heap[g]? = some (.cells arr 60 (0, 0))) := hb
   have HN : Hid (n * 8 ≤ arr.size ∧ ∀ i, i < k * 8 + 5 → arr[i]? = some (markK m i)) := ⟨hn2, hc⟩
   clear hb hn2 hc HR
   go_wp2_with (refine wpList_stA rfl 2 (.tmp 54) (.tmp 51) rfl g (k * 8 + 5) (by simp [Act.eval]) (.int .i64 (q + 1 + 1 + 1 + 1 + 1)) rfl 1 rfl 60 arr HG.out infoI1 (by have := HN.out.1; omega) (by simp [Value.cells, Value.oneCell']) ?_)
   intro Y5 hP
   have HR : Hid (RowTo g 60 (n * 8) (markK m) (k * 8 + 6) Y5) := rowTo_put1 (k := k * 8 + 5) HN.out.1 HN.out.2 (by omega) (by rw [markK_i (by omega)]; exact int_eq (by have := HQ.out; omega)) hP
   replace HT : Hid (Touch [g] w Y5) := HT.out.trans hP.to
   clear hP HG HN
   obtain ⟨arr, hb, hn2, hc⟩ := HR.out
   have HG : Hid (Y5.heap[g]? = some (.cells arr 60 (0, 0))) := hb
   have HN : Hid (n * 8 ≤ arr.size ∧ ∀ i, i < k * 8 + 6 → arr[i]? = some (markK m i)) := ⟨hn2, hc⟩
   clear hb hn2 hc HR
   go_wp2_with (refine wpList_stA rfl 2 (.tmp 62) (.tmp 59) rfl g (k * 8 + 6) (by simp [Act.eval]) (.int .i64 (q + 1 + 1 + 1 + 1 + 1 + 1)) rfl 1 rfl 60 arr HG.out infoI1 (by have := HN.out.1; omega) (by simp [Value.cells, Value.oneCell']) ?_)
   intro Y6 hP
   have HR : Hid (RowTo g 60 (n * 8) (markK m) (k * 8 + 7) Y6) := rowTo_put1 (k := k * 8 + 6) HN.out.1 HN.out.2 (by omega) (by rw [markK_i (by omega)]; exact int_eq (by have := HQ.out; omega)) hP
   replace HT : Hid (Touch [g] w Y6) := HT.out.trans hP.to
   clear hP HG HN
   obtain ⟨arr, hb, hn2, hc⟩ := HR.out
   have HG : Hid (Y6.heap[g]? = some (.cells arr 60 (0, 0))) := hb
   have HN : Hid (n * 8 ≤ arr.size ∧ ∀ i, i < k * 8 + 7 → arr[i]? = some (markK m i)) := ⟨hn2, hc⟩
   clear hb hn2 hc HR
   go_wp2_with fail
   have hk7 : q + 1 + 1 + 1 + 1 + 1 + 1 + 1 = ((m + k * 8 + 7 : Nat) : Int) := by have := HQ.out; omega
   rw [hk7]
   refine (markText_any (m + k * 8 + 7) _ (by omega)).mono ?_
   rintro e wm ⟨rfl, hbm⟩
   replace HT : Hid (Touch [g] w wm) := HT.out.trans (Touch.ofBelow hbm)
   replace HG : Hid (wm.heap[g]? = some (.cells arr 60 (0, 0))) := (hbm.block _ (blk_lt HG.out)).trans HG.out
   clear hbm
   go_wp2_with (refine wpList_stA rfl 9 (.tmp 71) (.tmp 68) rfl g (k * 8 + 7) (by simp [Act.eval]) (.string (mt (m + k * 8 + 7))) rfl 1 rfl 60 arr HG.out (by kernel_rfl) (by have := HN.out.1; omega) (by simp [Value.cells, Value.oneCell']) ?_)
   intro Y7 hP
   have HR : Hid (RowTo g 60 (n * 8) (markK m) (k * 8 + 8) Y7) := rowTo_put1 (k := k * 8 + 7) HN.out.1 HN.out.2 (by omega) markK_s hP
   replace HT : Hid (Touch [g] w Y7) := HT.out.trans hP.to
   clear hP HG HN
   go_wp2_with fail
   go_roundw
   case rel => exact ⟨k + 1, _, by omega, by go_num, rfl, by unfold Hid; omega, by show RowTo _ _ _ _ ((k + 1) * 8) _; rw [show (k + 1) * 8 = k * 8 + 8 by omega]; exact HR.out, HT⟩
   case measure => simp [intOf]; omega
  ·
   obtain rfl : k = n := by omega
   go_wp2_with fail
   go_ret
   exact ⟨ret_int HQ.out, HR.out, HT.out⟩
set_option maxRecDepth 10000 in
set_option maxHeartbeats 4000000 in
theorem heldPks_any (g n cap m : Nat) (w : World) (h : RowTo g 60 (n * 8) (markK m) (n * 8) w) (hn : n ≤ 1048576) (hm : m ≤ 50000000) :
  Calls Tryz.prog 51 #[.slice (some ⟨g, 0, none⟩) n cap, .int .i64 m] w fun e w' => e = .returned (.int .i64 ((m + n * 8 : Nat) : Int)) ∧ Below w.heap.size w w' := by
 have HR : Hid (RowTo g 60 (n * 8) (markK m) (n * 8) w) := h
 clear h
 go_enter Tryz.func51, Tryz.ntmps51
 go_wp2_with fail
 go_loopw [1, 5] (fun x i wr => ∃ (k : Nat) (q : Int), k ≤ n ∧ i = .int .i64 k ∧ x = .int .i64 q ∧ Hid (q = ((m + k * 8 : Nat) : Int)) ∧ Hid (Below w.heap.size w wr)) (fun _ i _ => n - (intOf i).toNat)
 case atStart => exact ⟨0, m, Nat.zero_le _, rfl, rfl, by unfold Hid; simp, Below.refl _ _⟩
 case round =>
  obtain ⟨k, q, hk, rfl, rfl, HQ, HB⟩ := hrel
  by_cases hlt : k < n
  ·
   have hlt' : (k : Int) < n := by omega
   have q0 : 0 ≤ q := by have := HQ.out; omega
   have q1 : q ≤ 1000000000 := by have := HQ.out; omega
   have HRr : Hid (RowTo g 60 (n * 8) (markK m) (n * 8) wr) := HR.out.keep (HB.out.block _ HR.out.lt)
   have c0 : wr.cell? ⟨g, k * 8, none⟩ = some (.int .i64 (q)) := by rw [HRr.out.at _ (by omega), show k * 8 = k * 8 + 0 by omega, markK_i (m := m) (k := k) (j := 0) (by omega)]; exact congrArg some (int_eq (by have := HQ.out; omega))
   have c1 : wr.cell? ⟨g, k * 8 + 1, none⟩ = some (.int .i64 (q + 1)) := by rw [HRr.out.at _ (by omega), markK_i (m := m) (k := k) (j := 1) (by omega)]; exact congrArg some (int_eq (by have := HQ.out; omega))
   have c2 : wr.cell? ⟨g, k * 8 + 2, none⟩ = some (.int .i64 (q + 1 + 1)) := by rw [HRr.out.at _ (by omega), markK_i (m := m) (k := k) (j := 2) (by omega)]; exact congrArg some (int_eq (by have := HQ.out; omega))
   have c3 : wr.cell? ⟨g, k * 8 + 3, none⟩ = some (.int .i64 (q + 1 + 1 + 1)) := by rw [HRr.out.at _ (by omega), markK_i (m := m) (k := k) (j := 3) (by omega)]; exact congrArg some (int_eq (by have := HQ.out; omega))
   have c4 : wr.cell? ⟨g, k * 8 + 4, none⟩ = some (.int .i64 (q + 1 + 1 + 1 + 1)) := by rw [HRr.out.at _ (by omega), markK_i (m := m) (k := k) (j := 4) (by omega)]; exact congrArg some (int_eq (by have := HQ.out; omega))
   have c5 : wr.cell? ⟨g, k * 8 + 5, none⟩ = some (.int .i64 (q + 1 + 1 + 1 + 1 + 1)) := by rw [HRr.out.at _ (by omega), markK_i (m := m) (k := k) (j := 5) (by omega)]; exact congrArg some (int_eq (by have := HQ.out; omega))
   have c6 : wr.cell? ⟨g, k * 8 + 6, none⟩ = some (.int .i64 (q + 1 + 1 + 1 + 1 + 1 + 1)) := by rw [HRr.out.at _ (by omega), markK_i (m := m) (k := k) (j := 6) (by omega)]; exact congrArg some (int_eq (by have := HQ.out; omega))
   have c7 : wr.cell? ⟨g, k * 8 + 7, none⟩ = some (.string (mt (m + k * 8 + 7))) := by rw [HRr.out.at _ (by omega), markK_s]
   have hk7 : q + 1 + 1 + 1 + 1 + 1 + 1 + 1 = ((m + k * 8 + 7 : Nat) : Int) := by have := HQ.out; omega
   have HK7 : Hid (q + 1 + 1 + 1 + 1 + 1 + 1 + 1 = ((m + k * 8 + 7 : Nat) : Int)) := hk7
   clear hk7 HRr
   go_wp2_with fail
   clear c0 c1 c2 c3 c4 c5 c6
   refine wp_region_held_drew (S := fun w' => w'.cell? ⟨g, k * 8 + 7, none⟩ = some (.string (mt (m + k * 8 + 7)))) (by kernel_rfl) c7 (fun hHeld => ?_)
   refine tC 0 79 (v := ?_) ?_ ?_
   rotate_left
   ·
    intro wx hSw
    try dsimp only at hSw
    go_simp
    try (with_reducible rfl)
   try simp only [Act.put, PZ]
   refine tC 1 80 (v := ?_) ?_ ?_
   rotate_left
   ·
    intro wx hSw
    try dsimp only at hSw
    go_simp
    try (with_reducible rfl)
   try simp only [Act.put, PZ]
   refine tC 2 81 (v := ?_) ?_ ?_
   rotate_left
   ·
    intro wx hSw
    try dsimp only at hSw
    go_simp
    try (with_reducible rfl)
   try simp only [Act.put, PZ]
   refine tC 3 82 (v := ?_) ?_ ?_
   rotate_left
   ·
    intro wx hSw
    try dsimp only at hSw
    go_simp
    try (with_reducible rfl)
   try simp only [Act.put, PZ]
   refine tC 4 83 (v := ?_) ?_ ?_
   rotate_left
   ·
    intro wx hSw
    try dsimp only at hSw
    go_simp
    try (with_reducible rfl)
   try simp only [Act.put, PZ]
   refine tC 5 84 (v := ?_) ?_ ?_
   rotate_left
   ·
    intro wx hSw
    try dsimp only at hSw
    go_simp
    try (with_reducible rfl)
   try simp only [Act.put, PZ]
   refine tC 6 85 (v := ?_) ?_ ?_
   rotate_left
   ·
    intro wx hSw
    try dsimp only at hSw
    go_simp
    try (with_reducible rfl)
   try simp only [Act.put, PZ]
   refine wpAnyH_ready (rs := [7]) (by kernel_rfl) (by simp) ?_
   refine AllReadyH.cons rfl (fun K hK => ?_) AllReadyH.nil
   go_simp
   rw [HK7.out]
   refine (markText_any (m + k * 8 + 7) _ (by omega)).mono ?_
   rintro e wm ⟨rfl, hbm⟩
   have HB2 : Hid (Below w.heap.size w wm) := HB.out.drew.trans (hbm.mono HB.out.drew.size)
   have c72 : wm.cell? ⟨g, k * 8 + 7, none⟩ = some (.string (mt (m + k * 8 + 7))) := (hbm.cell (p := ⟨g, k * 8 + 7, none⟩) (cellLt (w := wr.drew) c7)).trans c7
   clear hbm c7 HB
   go_wp2_with fail
   refine hK.out _ _ c72 (fun hHeld => ?_)
   clear hK K
   try simp only [Act.put, PZ]
   refine tC 8 87 (v := ?_) ?_ ?_
   rotate_left
   ·
    intro wx hSw
    try dsimp only at hSw
    go_simp
    try (with_reducible rfl)
   try simp only [Act.put, PZ]
   refine wpAnyH_done (by kernel_rfl) ?_ _
   clear hHeld c72
   go_wp2_with fail
   go_roundw
   case rel => exact ⟨k + 1, _, by omega, by go_num, rfl, by unfold Hid; have := HK7.out; omega, HB2⟩
   case measure => simp [intOf]; omega
  ·
   obtain rfl : k = n := by omega
   go_wp2_with fail
   go_ret
   exact ⟨ret_int HQ.out, HB.out⟩
theorem flat_dis {g : Nat → List Nat} : ∀ n, ((List.range n).flatMap g).Nodup → ∀ i j, i < n → j < n → i ≠ j → ∀ x ∈ g i, x ∉ g j := by
 have lt : ∀ n, ((List.range n).flatMap g).Nodup → ∀ i j, i < j → j < n → ∀ x, x ∈ g i → x ∉ g j := by
  intro n
  induction n with
  | zero => intro _ i j _ hj; omega
  | succ n ih =>
   intro hn i j hij hj x h1 h2
   rw [List.range_succ, List.flatMap_append] at hn
   simp only [List.flatMap_cons, List.flatMap_nil, List.append_nil] at hn
   obtain ⟨n1, n2, n3⟩ := List.nodup_append.1 hn
   by_cases e : j = n
   ·
    subst e
    exact n3 x (by simp only [List.mem_flatMap, List.mem_range]; exact ⟨i, hij, h1⟩) x h2 rfl
   ·
    exact ih n1 i j hij (by omega) x h1 h2
 intro n hn i j hi hj hne x hx hy
 rcases Nat.lt_or_gt_of_ne hne with h | h
 ·
  exact lt n hn i j h hj x hx hy
 ·
  exact lt n hn j i h hi x hy hx
structure Dis (l : Lng) : Prop where
 tu : ∀ x ∈ blkV l.aT l.nT, x ∉ blkS l.nU l.uA l.uL
 tq : ∀ x ∈ blkV l.aT l.nT, x ∉ blkV l.R.aQ l.R.nQ
 td : ∀ x ∈ blkV l.aT l.nT, x ∉ blkV l.R.aD l.R.nD
 ty : ∀ x ∈ blkV l.aT l.nT, x ∉ blkS l.R.nS l.R.A l.R.L
 uq : ∀ x ∈ blkS l.nU l.uA l.uL, x ∉ blkV l.R.aQ l.R.nQ
 ud : ∀ x ∈ blkS l.nU l.uA l.uL, x ∉ blkV l.R.aD l.R.nD
 uy : ∀ x ∈ blkS l.nU l.uA l.uL, x ∉ blkS l.R.nS l.R.A l.R.L
 qd : ∀ x ∈ blkV l.R.aQ l.R.nQ, x ∉ blkV l.R.aD l.R.nD
 qy : ∀ x ∈ blkV l.R.aQ l.R.nQ, x ∉ blkS l.R.nS l.R.A l.R.L
 dy : ∀ x ∈ blkV l.R.aD l.R.nD, x ∉ blkS l.R.nS l.R.A l.R.L
 uu : ∀ i j, i < l.nU → j < l.nU → i ≠ j → apartV (l.uA i) (l.uL i) (l.uA j) (l.uL j)
 yy : ∀ i j, i < l.R.nS → j < l.R.nS → i ≠ j → apartV (l.R.A i) (l.R.L i) (l.R.A j) (l.R.L j)
theorem Lng.dis {l : Lng} (h : l.blks.Nodup) : Dis l := by
 unfold Lng.blks at h
 obtain ⟨_, h1, d1⟩ := List.nodup_append.1 h
 obtain ⟨u, h2, d2⟩ := List.nodup_append.1 h1
 obtain ⟨_, h3, d3⟩ := List.nodup_append.1 h2
 obtain ⟨_, y, d4⟩ := List.nodup_append.1 h3
 have m1 : ∀ {x : Nat} {a b : List Nat}, x ∈ a → x ∈ a ++ b := fun h => List.mem_append_left _ h
 have m2 : ∀ {x : Nat} {a b : List Nat}, x ∈ b → x ∈ a ++ b := fun h => List.mem_append_right _ h
 exact ⟨fun x hx hy => d1 x hx x (m1 hy) rfl, fun x hx hy => d1 x hx x (m2 (m1 hy)) rfl, fun x hx hy => d1 x hx x (m2 (m2 (m1 hy))) rfl, fun x hx hy => d1 x hx x (m2 (m2 (m2 hy))) rfl,
  fun x hx hy => d2 x hx x (m1 hy) rfl, fun x hx hy => d2 x hx x (m2 (m1 hy)) rfl, fun x hx hy => d2 x hx x (m2 (m2 hy)) rfl, fun x hx hy => d3 x hx x (m1 hy) rfl, fun x hx hy => d3 x hx x (m2 hy) rfl, fun x hx hy => d4 x hx x hy rfl,
  flat_dis _ u, flat_dis _ y⟩
section
variable {w w' : World} {base : Nat} {l : Lng} {S : List Nat}
theorem OwnLg.type2 (h : OwnLg w base l) : ∀ x ∈ l.blks, ∃ cs, w.heap[x]? = some (.cells cs 2 (0, 0)) := by
 intro x hx
 unfold Lng.blks at hx
 simp only [List.mem_append, blkS_mem] at hx
 rcases hx with hx | ⟨i, hi, hx⟩ | hx | hx | ⟨i, hi, hx⟩
 ·
  exact h.t.type x hx
 ·
  exact (h.z i hi).type x hx
 ·
  exact h.q.type x hx
 ·
  exact h.d.type x hx
 ·
  exact (h.y i hi).type x hx
theorem OwnLg.topsU (h : OwnLg w base l) (h2 : ∀ x ∈ S, ∃ cs, w.heap[x]? = some (.cells cs 2 (0, 0))) : ∀ x ∈ blkV l.aU l.nU, x ∉ S := fun x hx hy => by
 obtain ⟨cs, e1⟩ := h.u.type x hx
 obtain ⟨cs', e2⟩ := h2 x hy
 rw [e1] at e2
 simp at e2
theorem OwnLg.topsS (h : OwnLg w base l) (h2 : ∀ x ∈ S, ∃ cs, w.heap[x]? = some (.cells cs 2 (0, 0))) : ∀ x ∈ blkV l.R.aS l.R.nS, x ∉ S := fun x hx hy => by
 obtain ⟨cs, e1⟩ := h.s.type x hx
 obtain ⟨cs', e2⟩ := h2 x hy
 rw [e1] at e2
 simp at e2
theorem OwnLg.far (h : OwnLg w base l) (ht : Touch S w w') (h2 : ∀ x ∈ S, ∃ cs, w.heap[x]? = some (.cells cs 2 (0, 0))) (hd : ∀ x ∈ l.blks, x ∉ S) : OwnLg w' base l := by
 have k1 : ∀ x ∈ blkV l.aT l.nT, x ∉ S := fun x hx => hd x (List.mem_append_left _ hx)
 have k2 : ∀ i, i < l.nU → ∀ x ∈ blkV (l.uA i) (l.uL i), x ∉ S := fun i hi x hx => hd x (List.mem_append_right _ (List.mem_append_left _ (blkS_mem.2 ⟨i, hi, hx⟩)))
 have k3 : ∀ x ∈ blkV l.R.aQ l.R.nQ, x ∉ S := fun x hx => hd x (List.mem_append_right _ (List.mem_append_right _ (List.mem_append_left _ hx)))
 have k4 : ∀ x ∈ blkV l.R.aD l.R.nD, x ∉ S := fun x hx => hd x (List.mem_append_right _ (List.mem_append_right _ (List.mem_append_right _ (List.mem_append_left _ hx))))
 have k5 : ∀ i, i < l.R.nS → ∀ x ∈ blkV (l.R.A i) (l.R.L i), x ∉ S := fun i hi x hx => hd x (List.mem_append_right _ (List.mem_append_right _ (List.mem_append_right _ (List.mem_append_right _ (blkS_mem.2 ⟨i, hi, hx⟩)))))
 exact ⟨h.t.touchS ht k1, h.u.touchS ht (h.topsU h2), fun i hi => (h.z i hi).touchS ht (k2 i hi), h.q.touchS ht k3, h.d.touchS ht k4, h.s.touchS ht (h.topsS h2), fun i hi => (h.y i hi).touchS ht (k5 i hi), h.nd⟩
theorem OwnLg.mT {f : Nat → Int} (h : OwnLg w base l) (hv : VGI w' base l.aT l.nT f) (ht : Touch (blkV l.aT l.nT) w w') : OwnLg w' base { l with t := f } := by
 have d := Lng.dis h.nd
 have h2 : ∀ x ∈ blkV l.aT l.nT, ∃ cs, w.heap[x]? = some (.cells cs 2 (0, 0)) := h.t.type
 exact ⟨hv, h.u.touchS ht (h.topsU h2), fun i hi => (h.z i hi).touchS ht (fun x hx hy => d.tu x hy (blkS_mem.2 ⟨i, hi, hx⟩)), h.q.touchS ht (fun x hx hy => d.tq x hy hx), h.d.touchS ht (fun x hx hy => d.td x hy hx), h.s.touchS ht (h.topsS h2), fun i hi => (h.y i hi).touchS ht (fun x hx hy => d.ty x hy (blkS_mem.2 ⟨i, hi, hx⟩)), h.nd⟩
theorem OwnLg.mU {z : Nat → Nat → Int} (h : OwnLg w base l) (hv : ∀ i, i < l.nU → VGI w' base (l.uA i) (l.uL i) (z i)) (ht : Touch (blkS l.nU l.uA l.uL) w w') : OwnLg w' base { l with uz := z } := by
 have d := Lng.dis h.nd
 have h2 : ∀ x ∈ blkS l.nU l.uA l.uL, ∃ cs, w.heap[x]? = some (.cells cs 2 (0, 0)) := fun x hx => by
  obtain ⟨i, hi, hx⟩ := blkS_mem.1 hx
  exact (h.z i hi).type x hx
 exact ⟨h.t.touchS ht (fun x hx hy => d.tu x hx hy), h.u.touchS ht (h.topsU h2), hv, h.q.touchS ht (fun x hx hy => d.uq x hy hx), h.d.touchS ht (fun x hx hy => d.ud x hy hx), h.s.touchS ht (h.topsS h2), fun i hi => (h.y i hi).touchS ht (fun x hx hy => d.uy x hy (blkS_mem.2 ⟨i, hi, hx⟩)), h.nd⟩
theorem OwnLg.mQ {f : Nat → Int} (h : OwnLg w base l) (hv : VGI w' base l.R.aQ l.R.nQ f) (ht : Touch (blkV l.R.aQ l.R.nQ) w w') : OwnLg w' base { l with R := { l.R with q := f } } := by
 have d := Lng.dis h.nd
 have h2 : ∀ x ∈ blkV l.R.aQ l.R.nQ, ∃ cs, w.heap[x]? = some (.cells cs 2 (0, 0)) := h.q.type
 exact ⟨h.t.touchS ht (fun x hx hy => d.tq x hx hy), h.u.touchS ht (h.topsU h2), fun i hi => (h.z i hi).touchS ht (fun x hx hy => d.uq x (blkS_mem.2 ⟨i, hi, hx⟩) hy), hv, h.d.touchS ht (fun x hx hy => d.qd x hy hx), h.s.touchS ht (h.topsS h2), fun i hi => (h.y i hi).touchS ht (fun x hx hy => d.qy x hy (blkS_mem.2 ⟨i, hi, hx⟩)), h.nd⟩
theorem OwnLg.mD {f : Nat → Int} (h : OwnLg w base l) (hv : VGI w' base l.R.aD l.R.nD f) (ht : Touch (blkV l.R.aD l.R.nD) w w') : OwnLg w' base { l with R := { l.R with d := f } } := by
 have d := Lng.dis h.nd
 have h2 : ∀ x ∈ blkV l.R.aD l.R.nD, ∃ cs, w.heap[x]? = some (.cells cs 2 (0, 0)) := h.d.type
 exact ⟨h.t.touchS ht (fun x hx hy => d.td x hx hy), h.u.touchS ht (h.topsU h2), fun i hi => (h.z i hi).touchS ht (fun x hx hy => d.ud x (blkS_mem.2 ⟨i, hi, hx⟩) hy), h.q.touchS ht (fun x hx hy => d.qd x hx hy), hv, h.s.touchS ht (h.topsS h2), fun i hi => (h.y i hi).touchS ht (fun x hx hy => d.dy x hy (blkS_mem.2 ⟨i, hi, hx⟩)), h.nd⟩
theorem OwnLg.mY {z : Nat → Nat → Int} (h : OwnLg w base l) (hv : ∀ i, i < l.R.nS → VGI w' base (l.R.A i) (l.R.L i) (z i)) (ht : Touch (blkS l.R.nS l.R.A l.R.L) w w') : OwnLg w' base { l with R := { l.R with z := z } } := by
 have d := Lng.dis h.nd
 have h2 : ∀ x ∈ blkS l.R.nS l.R.A l.R.L, ∃ cs, w.heap[x]? = some (.cells cs 2 (0, 0)) := fun x hx => by
  obtain ⟨i, hi, hx⟩ := blkS_mem.1 hx
  exact (h.y i hi).type x hx
 exact ⟨h.t.touchS ht (fun x hx hy => d.ty x hx hy), h.u.touchS ht (h.topsU h2), fun i hi => (h.z i hi).touchS ht (fun x hx hy => d.uy x (blkS_mem.2 ⟨i, hi, hx⟩) hy), h.q.touchS ht (fun x hx hy => d.qy x hx hy), h.d.touchS ht (fun x hx hy => d.dy x hx hy), h.s.touchS ht (h.topsS h2), hv, h.nd⟩
end
structure Lns (w : World) (base g n : Nat) (L : Nat → Lng) : Prop where
 r : RowTo g 67 (n * 8) (flatG L) (n * 8) w
 ls : ∀ i, i < n → OwnLg w base (L i)
 ap : ∀ i j, i < n → j < n → i ≠ j → ∀ x ∈ (L i).blks, x ∉ (L j).blks
def updL (L : Nat → Lng) (k : Nat) (l : Lng) (i : Nat) : Lng := if i = k then l else L i
theorem updL_self (L : Nat → Lng) (k : Nat) (l : Lng) : updL L k l k = l := if_pos rfl
theorem updL_ne (L : Nat → Lng) {k i : Nat} (l : Lng) (h : i ≠ k) : updL L k l i = L i := if_neg h
theorem updL_two (L : Nat → Lng) (k : Nat) (l l2 : Lng) : updL (updL L k l) k l2 = updL L k l2 := by
 funext i
 unfold updL
 split <;> rfl
theorem updL_id (L : Nat → Lng) (k : Nat) : updL L k (L k) = L := by
 funext i
 unfold updL
 split
 ·
  rename_i h; rw [h]
 ·
  rfl
section
variable {w w' : World} {base g n k : Nat} {L : Nat → Lng} {l : Lng} {S : List Nat}
theorem Lns.cell (h : Lns w base g n L) (hk : k < n) (j : Nat) (hj : j < 8) : w.cell? ⟨g, k * 8 + j, none⟩ = (L k).cells[j]? := by
 rw [h.r.at _ (by omega)]
 exact flatG_at L k j hj
theorem Lns.apU (h : Lns w base g n L) (hb : l.blks = (L k).blks) : ∀ i j, i < n → j < n → i ≠ j → ∀ x ∈ (updL L k l i).blks, x ∉ (updL L k l j).blks := by
 intro i j hi hj hne x hx hy
 have e : ∀ i, (updL L k l i).blks = (L i).blks := fun i => by
  unfold updL
  split
  ·
   rename_i e; rw [hb, e]
  ·
   rfl
 rw [e] at hx hy
 exact h.ap i j hi hj hne x hx hy
theorem Lns.mark (h : Lns w base g n L) (hk : k < n) (hc : l.cells = (L k).cells) (hb : l.blks = (L k).blks) (ho : OwnLg w' base l) (ht : Touch S w w') (hS : ∀ x ∈ S, x ∈ (L k).blks) : Lns w' base g n (updL L k l) := by
 have h2 : ∀ x ∈ S, ∃ cs, w.heap[x]? = some (.cells cs 2 (0, 0)) := fun x hx => (h.ls k hk).type2 x (hS x hx)
 have hg : g ∉ S := fun hx => by
  obtain ⟨cs, e1⟩ := h2 g hx
  obtain ⟨arr, e2, _⟩ := h.r
  rw [e1] at e2
  simp at e2
 have ef : flatG (updL L k l) = flatG L := by
  funext j
  unfold flatG updL
  split
  ·
   rename_i e; rw [hc, e]
  ·
   rfl
 refine ⟨by rw [ef]; exact h.r.keep (ht.block g h.r.lt hg), fun i hi => ?_, h.apU hb⟩
 by_cases e : i = k
 ·
  rw [e, updL_self]; exact ho
 ·
  rw [updL_ne _ _ e]
  exact (h.ls i hi).far ht h2 (fun x hx hy => h.ap i k hi hk e x hx (hS x hy))
theorem Lns.put (h : Lns w base g n L) (hk : k < n) {j : Nat} (hj : j < 8) {v : Value} {arr : Array Value} (ha : w.heap[g]? = some (.cells arr 67 (0, 0))) (hP : Put w w' g (lay arr (k * 8 + j) #[v]) 67) (hc : l.cells = (L k).cells.setIfInBounds j v) (hb : l.blks = (L k).blks) (ho : ∀ W, OwnLg W base (L k) → OwnLg W base l) : Lns w' base g n (updL L k l) := by
 have far : ∀ {l : Lng}, OwnLg w base l → OwnLg w' base l := fun {l} hl => by
  have no2 : ∀ {a : Option Addr} {n : Nat} {f : Nat → Value} {t : TypeId}, VG t w base a n f → t ≠ 67 → VG t w' base a n f := fun hv hne => hv.touchS hP.to (fun x hx hy => by
   obtain ⟨cs, e1⟩ := hv.type x hx
   rw [List.mem_singleton.1 hy, ha] at e1
   simp at e1
   exact hne e1.2.symm)
  exact ⟨no2 hl.t (by decide), no2 hl.u (by decide), fun i hi => no2 (hl.z i hi) (by decide), no2 hl.q (by decide), no2 hl.d (by decide), no2 hl.s (by decide), fun i hi => no2 (hl.y i hi) (by decide), hl.nd⟩
 obtain ⟨arr', e1, e2, e3⟩ := h.r
 rw [ha] at e1
 simp at e1
 subst e1
 have hf : k * 8 + j + (#[v] : Array Value).size ≤ arr.size := by show k * 8 + j + 1 ≤ _; omega
 refine ⟨⟨_, hP.blk, by rw [lay_size hf]; exact e2, fun i hi => ?_⟩, fun i hi => ?_, h.apU hb⟩
 ·
  by_cases e : i = k * 8 + j
  ·
   have q := lay_at hf 0 (by show 0 < 1; omega)
   rw [Nat.add_zero] at q
   rw [e, q, flatG_at _ k j hj, updL_self, hc]
   rw [Array.getElem?_setIfInBounds_self_of_lt (by rw [Lng.cells_size]; exact hj)]
   rfl
  ·
   have q : (lay arr (k * 8 + j) #[v])[i]? = arr[i]? := by
    by_cases lo : i < k * 8 + j
    ·
     exact lay_lo hf i lo
    ·
     unfold lay
     simp only [List.getElem?_toArray]
     rw [List.getElem?_append_right (by simp; omega), List.getElem?_drop, Array.getElem?_toList]
     congr 1
     simp
     omega
   rw [q, e3 i hi]
   have hh : some (flatG (updL L k l) i) = some (flatG L i) := by
    have a1 := flatG_at (updL L k l) (i / 8) (i % 8) (by omega)
    have a2 := flatG_at L (i / 8) (i % 8) (by omega)
    rw [show i / 8 * 8 + i % 8 = i by omega] at a1 a2
    rw [a1, a2]
    by_cases ek : i / 8 = k
    ·
     rw [ek, updL_self, hc, Array.getElem?_setIfInBounds_ne (by omega)]
    ·
     rw [updL_ne _ _ ek]
   exact hh.symm
 ·
  by_cases e : i = k
  ·
   rw [e, updL_self]; exact ho _ (far (h.ls k hk))
  ·
   rw [updL_ne _ _ e]; exact far (h.ls i hi)
end
theorem mb_c (q : Nat) : (((q : Int)) % 3 == 0) = mb q := by
 rw [Bool.eq_iff_iff]
 simp only [mb, beq_iff_eq, decide_eq_true_eq]
 omega
theorem mb_c1 (q : Nat) : (((q : Int) + 1) % 3 == 0) = mb (q + 1) := by
 rw [Bool.eq_iff_iff]
 simp only [mb, beq_iff_eq, decide_eq_true_eq]
 omega
def mkLg (l : Lng) (st : Bool) (t : Nat → Int) (uz : Nat → Nat → Int) (q d : Nat → Int) (turn : Int) (fresh : Bool) (z : Nat → Nat → Int) : Lng :=
 ⟨st, l.aT, l.nT, l.cT, t, l.aU, l.nU, l.cU, l.uA, l.uL, l.uC, uz, ⟨l.R.aQ, l.R.nQ, l.R.cQ, q, l.R.aD, l.R.nD, l.R.cD, d, turn, fresh, l.R.aS, l.R.nS, l.R.cS, l.R.A, l.R.L, l.R.C, z⟩⟩
def Lng.c1 (l : Lng) (c : Nat) : Nat := c + 1 + l.nT
def Lng.c2 (l : Lng) (c : Nat) : Nat := l.c1 c + sumL l.uL l.nU
def Lng.c3 (l : Lng) (c : Nat) : Nat := l.c2 c + l.R.nQ
def Lng.c4 (l : Lng) (c : Nat) : Nat := l.c3 c + l.R.nD
def markLg (c : Nat) (l : Lng) : Lng := mkLg l (mb c) (fun i => ((c + 1 + i : Nat) : Int)) (fun i j => ((l.c1 c + sumL l.uL i + j : Nat) : Int)) (fun i => ((l.c2 c + i : Nat) : Int)) (fun i => ((l.c3 c + i : Nat) : Int)) ((l.c4 c : Nat) : Int) (mb (l.c4 c + 1)) (fun i j => ((l.c4 c + 2 + sumL l.R.L i + j : Nat) : Int))
theorem mark_end (c : Nat) (l : Lng) : l.c4 c + 2 + sumL l.R.L l.R.nS = c + (3 + l.tot) := by
 unfold Lng.c4 Lng.c3 Lng.c2 Lng.c1 Lng.tot Rnd.tot
 omega
section
variable {w w' : World} {base g n k : Nat} {M : Nat → Lng} {l l' : Lng} {S : List Nat}
theorem Lns.own2 (h : Lns w base g n (updL M k l)) (hk : k < n) : OwnLg w base l := by
 have := h.ls k hk
 rwa [updL_self] at this
theorem Lns.cell2 (h : Lns w base g n (updL M k l)) (hk : k < n) (j : Nat) (hj : j < 8) : w.cell? ⟨g, k * 8 + j, none⟩ = l.cells[j]? := by
 rw [h.cell hk j hj, updL_self]
theorem Lns.mark2 (h : Lns w base g n (updL M k l)) (hk : k < n) (hc : l'.cells = l.cells) (hb : l'.blks = l.blks) (ho : OwnLg w' base l') (ht : Touch S w w') (hS : ∀ x ∈ S, x ∈ l.blks) : Lns w' base g n (updL M k l') := by
 have := h.mark hk (l := l') (by rw [updL_self]; exact hc) (by rw [updL_self]; exact hb) ho ht (by rw [updL_self]; exact hS)
 rwa [updL_two] at this
theorem Lns.put2 (h : Lns w base g n (updL M k l)) (hk : k < n) {j : Nat} (hj : j < 8) {v : Value} {arr : Array Value} (ha : w.heap[g]? = some (.cells arr 67 (0, 0))) (hP : Put w w' g (lay arr (k * 8 + j) #[v]) 67) (hc : l'.cells = l.cells.setIfInBounds j v) (hb : l'.blks = l.blks) (ho : ∀ W, OwnLg W base l → OwnLg W base l') : Lns w' base g n (updL M k l') := by
 have := h.put hk hj (l := l') ha hP (by rw [updL_self]; exact hc) (by rw [updL_self]; exact hb) (by rw [updL_self]; exact ho)
 rwa [updL_two] at this
end
def allL (g n : Nat) (L : Nat → Lng) : List Nat := g :: (List.range n).flatMap fun i => (L i).blks
theorem allL_mem {g n k : Nat} {L : Nat → Lng} (hk : k < n) : ∀ x ∈ (L k).blks, x ∈ allL g n L := fun x hx => List.mem_cons_of_mem _ (by simp only [List.mem_flatMap, List.mem_range]; exact ⟨k, hk, hx⟩)
def cntL (L : Nat → Lng) (k : Nat) : Nat := sumL (fun i => 3 + (L i).tot) k
def marksG (m : Nat) (L : Nat → Lng) (k i : Nat) : Lng := if i < k then markLg (m + cntL L i) (L i) else L i
theorem marksG_zero (m : Nat) (L : Nat → Lng) : marksG m L 0 = L := by
 funext i
 unfold marksG
 rw [if_neg (by omega)]
theorem marksG_self (m : Nat) (L : Nat → Lng) (k : Nat) : marksG m L k k = L k := by
 unfold marksG
 rw [if_neg (by omega)]
theorem marksG_succ (m : Nat) (L : Nat → Lng) (k : Nat) : updL (marksG m L k) k (markLg (m + cntL L k) (L k)) = marksG m L (k + 1) := by
 funext i
 unfold updL marksG
 by_cases e : i = k
 ·
  subst e
  rw [if_pos rfl, if_pos (by omega)]
 ·
  rw [if_neg e]
  by_cases h : i < k
  ·
   rw [if_pos h, if_pos (by omega)]
  ·
   rw [if_neg h, if_neg (by omega)]
theorem cntL_le (L : Nat → Lng) {i n : Nat} (h : i < n) : cntL L i + (3 + (L i).tot) ≤ cntL L n := by
 have h1 := sumL_le (fun i => 3 + (L i).tot) (show i + 1 ≤ n by omega)
 have h2 : sumL (fun i => 3 + (L i).tot) (i + 1) = sumL (fun i => 3 + (L i).tot) i + (3 + (L i).tot) := rfl
 unfold cntL
 omega
set_option maxRecDepth 10000 in
set_option maxHeartbeats 4000000 in
theorem markLns_any (g n cap m base : Nat) (L : Nat → Lng) (w : World) (h : Lns w base g n L) (hn : n ≤ 1048576) (hm : m ≤ 30000000) (hs : cntL L n ≤ 10000000) (hsm : ∀ i, i < n → (L i).Small) :
  Calls Tryz.prog 48 #[.slice (some ⟨g, 0, none⟩) n cap, .int .i64 m] w fun e w' => e = .returned (.int .i64 ((m + cntL L n : Nat) : Int)) ∧ Lns w' base g n (marksG m L n) ∧ Touch (allL g n L) w w' := by
 have H0 : Hid (Lns w base g n (marksG m L 0)) := by rw [Hid, marksG_zero]; exact h
 have HS : Hid (∀ i, i < n → (L i).Small) := hsm
 clear h hsm
 go_enter Tryz.func48, Tryz.ntmps48
 go_wp2_with fail
 go_loopw [1, 5] (fun x i wr => ∃ (k c : Nat), k ≤ n ∧ i = .int .i64 k ∧ x = .int .i64 c ∧ Hid (c = m + cntL L k) ∧ Hid (Lns wr base g n (marksG m L k)) ∧ Hid (Touch (allL g n L) w wr)) (fun _ i _ => n - (intOf i).toNat)
 case atStart => exact ⟨0, m, Nat.zero_le _, rfl, rfl, rfl, H0, Touch.refl _ _⟩
 case round =>
  clear H0
  obtain ⟨k, c, hk, rfl, rfl, HQ, HL, HT⟩ := hrel
  by_cases hlt : k < n
  ·
   have hlt' : (k : Int) < n := by omega
   have hcn := cntL_le L hlt
   have HsT : Hid ((L k).tot ≤ 10000000) := by rw [Hid]; omega
   have hcb : c + (3 + (L k).tot) ≤ 40000000 := by have := HQ.out; omega
   have HSk : Hid (L k).Small := HS.out k hlt
   have HA : Hid (∀ x ∈ (L k).blks, x ∈ allL g n L) := allL_mem hlt
   obtain ⟨M, eM⟩ : ∃ M, marksG m L k = M := ⟨_, rfl⟩
   obtain ⟨l, el⟩ : ∃ l, L k = l := ⟨_, rfl⟩
   have HM : Hid (∀ W, Lns W base g n (updL M k (markLg c l)) → Lns W base g n (marksG m L (k + 1))) := fun W hW => by rw [← marksG_succ, eM, el, ← HQ.out]; exact hW
   have HL0 : Hid (Lns wr base g n (updL M k (mkLg l l.st l.t l.uz l.R.q l.R.d l.R.turn l.R.fresh l.R.z))) := by
    have e : updL M k l = M := by rw [← el, ← marksG_self m L k, eM, updL_id]
    show Lns wr base g n (updL M k l)
    rw [e, ← eM]
    exact HL.out
   rw [el] at HSk HA hcb HsT
   clear HL eM hcn
   have hto : l.tot = l.nT + sumL l.uL l.nU + (l.R.nQ + l.R.nD + sumL l.R.L l.R.nS) := rfl
   have HTo : Hid (c + (3 + l.tot) ≤ 40000000) := hcb
   have h1 : c + 1 ≤ 100000000 := by omega
   have h2 : l.c1 c ≤ 50000000 := by unfold Lng.c1; omega
   have h3 : l.c2 c ≤ 100000000 := by unfold Lng.c2 Lng.c1; omega
   have h4 : l.c3 c ≤ 100000000 := by unfold Lng.c3 Lng.c2 Lng.c1; omega
   have h5 : l.c4 c + 2 ≤ 50000000 := by unfold Lng.c4 Lng.c3 Lng.c2 Lng.c1; omega
   have hsU : sumL l.uL l.nU ≤ 10000000 := by have := HsT.out; omega
   have hsZ : sumL l.R.L l.R.nS ≤ 10000000 := by have := HsT.out; omega
   clear hto
   obtain ⟨arr, hb, _, _⟩ := HL0.out.r
   have HG : Hid (wr.heap[g]? = some (.cells arr 67 (0, 0))) := hb
   have HN : Hid (n * 8 ≤ arr.size) := by obtain ⟨a2, e1, e2, _⟩ := HL0.out.r; rw [hb] at e1; cases e1; exact e2
   clear hb
   go_wp2_with (refine wpList_stA rfl 4 (.tmp 18) (.tmp 16) rfl g (k * 8) (by simp [Act.eval]) (.bool (mb c)) (by simp [Act.eval, mb_c]) 1 rfl 67 arr HG.out infoB1 (by have := HN.out; omega) (by simp [Value.cells, Value.oneCell']) ?_)
   intro Y0 hP
   replace HL0 : Hid (Lns Y0 base g n (updL M k (mkLg l (mb c) l.t l.uz l.R.q l.R.d l.R.turn l.R.fresh l.R.z))) := HL0.out.put2 hlt (j := 0) (by omega) HG.out hP rfl rfl (fun W hW => ⟨hW.t, hW.u, hW.z, hW.q, hW.d, hW.s, hW.y, hW.nd⟩)
   replace HT : Hid (Touch (allL g n L) w Y0) := HT.out.trans (hP.to.mono (fun x hx => by rw [List.mem_singleton.1 hx]; exact List.mem_cons_self ..))
   clear hP HG HN
   have c1 : Y0.cell? ⟨g, k * 8 + 1, none⟩ = some (.slice l.aT l.nT l.cT) := HL0.out.cell2 hlt 1 (by omega)
   go_wp2_with fail
   refine (markVGI_any l.aT l.nT l.cT (c + 1) base l.t _ (HL0.out.own2 hlt).t HSk.out.t h1).mono ?_
   rintro e Y1 ⟨rfl, hv, ht⟩
   replace HL0 : Hid (Lns Y1 base g n (updL M k (mkLg l (mb c) (fun i => ((c + 1 + i : Nat) : Int)) l.uz l.R.q l.R.d l.R.turn l.R.fresh l.R.z))) := HL0.out.mark2 hlt rfl rfl ((HL0.out.own2 hlt).mT hv ht) ht (fun x hx => List.mem_append_left _ hx)
   replace HT : Hid (Touch (allL g n L) w Y1) := HT.out.trans (ht.mono (fun x hx => HA.out x ((fun x hx => List.mem_append_left _ hx) x hx)))
   clear hv ht c1
   rw [show c + 1 + l.nT = l.c1 c from rfl]
   have c2 : Y1.cell? ⟨g, k * 8 + 2, none⟩ = some (.slice l.aU l.nU l.cU) := HL0.out.cell2 hlt 2 (by omega)
   go_wp2_with fail
   refine (markIss_any l.aU l.nU l.cU (l.c1 c) base l.uA l.uL l.uC l.uz (blkS l.nU l.uA l.uL) _ HSk.out.u hsU h2 HSk.out.z (fun w' ht => ((HL0.out.own2 hlt).u.touchS ht ((HL0.out.own2 hlt).topsU (fun x hx => (HL0.out.own2 hlt).type2 x (List.mem_append_right _ (List.mem_append_left _ hx))))).read) (HL0.out.own2 hlt).z (Lng.dis (HL0.out.own2 hlt).nd).uu (fun i hi x hx => blkS_mem.2 ⟨i, hi, hx⟩)).mono ?_
   rintro e Y2 ⟨rfl, hv, ht⟩
   replace HL0 : Hid (Lns Y2 base g n (updL M k (mkLg l (mb c) (fun i => ((c + 1 + i : Nat) : Int)) (fun i j => ((l.c1 c + sumL l.uL i + j : Nat) : Int)) l.R.q l.R.d l.R.turn l.R.fresh l.R.z))) := HL0.out.mark2 hlt rfl rfl ((HL0.out.own2 hlt).mU hv ht) ht (fun x hx => List.mem_append_right _ (List.mem_append_left _ hx))
   replace HT : Hid (Touch (allL g n L) w Y2) := HT.out.trans (ht.mono (fun x hx => HA.out x ((fun x hx => List.mem_append_right _ (List.mem_append_left _ hx)) x hx)))
   clear hv ht c2
   rw [show l.c1 c + sumL l.uL l.nU = l.c2 c from rfl]
   have c3 : Y2.cell? ⟨g, k * 8 + 3, none⟩ = some (.slice l.R.aQ l.R.nQ l.R.cQ) := HL0.out.cell2 hlt 3 (by omega)
   go_wp2_with fail
   refine (markVGI_any l.R.aQ l.R.nQ l.R.cQ (l.c2 c) base l.R.q _ (HL0.out.own2 hlt).q HSk.out.r.q h3).mono ?_
   rintro e Y3 ⟨rfl, hv, ht⟩
   replace HL0 : Hid (Lns Y3 base g n (updL M k (mkLg l (mb c) (fun i => ((c + 1 + i : Nat) : Int)) (fun i j => ((l.c1 c + sumL l.uL i + j : Nat) : Int)) (fun i => ((l.c2 c + i : Nat) : Int)) l.R.d l.R.turn l.R.fresh l.R.z))) := HL0.out.mark2 hlt rfl rfl ((HL0.out.own2 hlt).mQ hv ht) ht (fun x hx => List.mem_append_right _ (List.mem_append_right _ (List.mem_append_left _ hx)))
   replace HT : Hid (Touch (allL g n L) w Y3) := HT.out.trans (ht.mono (fun x hx => HA.out x ((fun x hx => List.mem_append_right _ (List.mem_append_right _ (List.mem_append_left _ hx))) x hx)))
   clear hv ht c3
   rw [show l.c2 c + l.R.nQ = l.c3 c from rfl]
   have c4 : Y3.cell? ⟨g, k * 8 + 4, none⟩ = some (.slice l.R.aD l.R.nD l.R.cD) := HL0.out.cell2 hlt 4 (by omega)
   go_wp2_with fail
   refine (markVGI_any l.R.aD l.R.nD l.R.cD (l.c3 c) base l.R.d _ (HL0.out.own2 hlt).d HSk.out.r.d h4).mono ?_
   rintro e Y4 ⟨rfl, hv, ht⟩
   replace HL0 : Hid (Lns Y4 base g n (updL M k (mkLg l (mb c) (fun i => ((c + 1 + i : Nat) : Int)) (fun i j => ((l.c1 c + sumL l.uL i + j : Nat) : Int)) (fun i => ((l.c2 c + i : Nat) : Int)) (fun i => ((l.c3 c + i : Nat) : Int)) l.R.turn l.R.fresh l.R.z))) := HL0.out.mark2 hlt rfl rfl ((HL0.out.own2 hlt).mD hv ht) ht (fun x hx => List.mem_append_right _ (List.mem_append_right _ (List.mem_append_right _ (List.mem_append_left _ hx))))
   replace HT : Hid (Touch (allL g n L) w Y4) := HT.out.trans (ht.mono (fun x hx => HA.out x ((fun x hx => List.mem_append_right _ (List.mem_append_right _ (List.mem_append_right _ (List.mem_append_left _ hx)))) x hx)))
   clear hv ht c4
   rw [show l.c3 c + l.R.nD = l.c4 c from rfl]
   obtain ⟨arr, hb, _, _⟩ := HL0.out.r
   have HG : Hid (Y4.heap[g]? = some (.cells arr 67 (0, 0))) := hb
   have HN : Hid (n * 8 ≤ arr.size) := by obtain ⟨a2, e1, e2, _⟩ := HL0.out.r; rw [hb] at e1; cases e1; exact e2
   clear hb
   go_wp2_with (refine wpList_stA rfl 2 (.tmp 56) (.tmp 53) rfl g (k * 8 + 5) (by simp [Act.eval]) (.int .i64 ((l.c4 c : Nat) : Int)) rfl 1 rfl 67 arr HG.out infoI1 (by have := HN.out; omega) (by simp [Value.cells, Value.oneCell']) ?_)
   intro Y5 hP
   replace HL0 : Hid (Lns Y5 base g n (updL M k (mkLg l (mb c) (fun i => ((c + 1 + i : Nat) : Int)) (fun i j => ((l.c1 c + sumL l.uL i + j : Nat) : Int)) (fun i => ((l.c2 c + i : Nat) : Int)) (fun i => ((l.c3 c + i : Nat) : Int)) ((l.c4 c : Nat) : Int) l.R.fresh l.R.z))) := HL0.out.put2 hlt (j := 5) (by omega) HG.out hP rfl rfl (fun W hW => ⟨hW.t, hW.u, hW.z, hW.q, hW.d, hW.s, hW.y, hW.nd⟩)
   replace HT : Hid (Touch (allL g n L) w Y5) := HT.out.trans (hP.to.mono (fun x hx => by rw [List.mem_singleton.1 hx]; exact List.mem_cons_self ..))
   clear hP HG HN
   obtain ⟨arr, hb, _, _⟩ := HL0.out.r
   have HG : Hid (Y5.heap[g]? = some (.cells arr 67 (0, 0))) := hb
   have HN : Hid (n * 8 ≤ arr.size) := by obtain ⟨a2, e1, e2, _⟩ := HL0.out.r; rw [hb] at e1; cases e1; exact e2
   clear hb
   go_wp2_with (refine wpList_stA rfl 4 (.tmp 66) (.tmp 63) rfl g (k * 8 + 6) (by simp [Act.eval]) (.bool (mb (l.c4 c + 1))) (by simp [Act.eval, mb_c1]) 1 rfl 67 arr HG.out infoB1 (by have := HN.out; omega) (by simp [Value.cells, Value.oneCell']) ?_)
   intro Y6 hP
   replace HL0 : Hid (Lns Y6 base g n (updL M k (mkLg l (mb c) (fun i => ((c + 1 + i : Nat) : Int)) (fun i j => ((l.c1 c + sumL l.uL i + j : Nat) : Int)) (fun i => ((l.c2 c + i : Nat) : Int)) (fun i => ((l.c3 c + i : Nat) : Int)) ((l.c4 c : Nat) : Int) (mb (l.c4 c + 1)) l.R.z))) := HL0.out.put2 hlt (j := 6) (by omega) HG.out hP rfl rfl (fun W hW => ⟨hW.t, hW.u, hW.z, hW.q, hW.d, hW.s, hW.y, hW.nd⟩)
   replace HT : Hid (Touch (allL g n L) w Y6) := HT.out.trans (hP.to.mono (fun x hx => by rw [List.mem_singleton.1 hx]; exact List.mem_cons_self ..))
   clear hP HG HN
   have c7 : Y6.cell? ⟨g, k * 8 + 7, none⟩ = some (.slice l.R.aS l.R.nS l.R.cS) := HL0.out.cell2 hlt 7 (by omega)
   go_wp2_with fail
   refine (markIss_any l.R.aS l.R.nS l.R.cS (l.c4 c + 2) base l.R.A l.R.L l.R.C l.R.z (blkS l.R.nS l.R.A l.R.L) _ HSk.out.r.s hsZ h5 HSk.out.r.l (fun w' ht => ((HL0.out.own2 hlt).s.touchS ht ((HL0.out.own2 hlt).topsS (fun x hx => (HL0.out.own2 hlt).type2 x (List.mem_append_right _ (List.mem_append_right _ (List.mem_append_right _ (List.mem_append_right _ hx))))))).read) (HL0.out.own2 hlt).y (Lng.dis (HL0.out.own2 hlt).nd).yy (fun i hi x hx => blkS_mem.2 ⟨i, hi, hx⟩)).mono ?_
   rintro e Y7 ⟨rfl, hv, ht⟩
   replace HL0 : Hid (Lns Y7 base g n (updL M k (mkLg l (mb c) (fun i => ((c + 1 + i : Nat) : Int)) (fun i j => ((l.c1 c + sumL l.uL i + j : Nat) : Int)) (fun i => ((l.c2 c + i : Nat) : Int)) (fun i => ((l.c3 c + i : Nat) : Int)) ((l.c4 c : Nat) : Int) (mb (l.c4 c + 1)) (fun i j => ((l.c4 c + 2 + sumL l.R.L i + j : Nat) : Int))))) := HL0.out.mark2 hlt rfl rfl ((HL0.out.own2 hlt).mY hv ht) ht (fun x hx => List.mem_append_right _ (List.mem_append_right _ (List.mem_append_right _ (List.mem_append_right _ hx))))
   replace HT : Hid (Touch (allL g n L) w Y7) := HT.out.trans (ht.mono (fun x hx => HA.out x ((fun x hx => List.mem_append_right _ (List.mem_append_right _ (List.mem_append_right _ (List.mem_append_right _ hx)))) x hx)))
   clear hv ht c7
   have HL1 : Hid (Lns Y7 base g n (marksG m L (k + 1))) := HM.out _ HL0.out
   have HQ1 : Hid (l.c4 c + 2 + sumL l.R.L l.R.nS = m + cntL L (k + 1)) := by
    show _ = m + (sumL (fun i => 3 + (L i).tot) k + (3 + (L k).tot))
    have e0 : c = m + sumL (fun i => 3 + (L i).tot) k := HQ.out
    rw [mark_end, el, e0, Nat.add_assoc]
   clear HL0 HM h1 h2 h3 h4 h5 hsU hsZ hcb
   go_wp2_with fail
   go_roundw
   case rel => exact ⟨k + 1, _, by omega, by go_num, rfl, HQ1, HL1, HT⟩
   case measure => simp [intOf]; omega
  ·
   obtain rfl : k = n := by omega
   go_wp2_with fail
   go_ret
   exact ⟨ret_int (by rw [HQ.out]), HL.out, HT.out⟩
set_option maxRecDepth 10000 in
set_option maxHeartbeats 4000000 in
theorem heldLns_any (g n cap m base : Nat) (L : Nat → Lng) (w : World) (h : Lns w base g n (marksG m L n)) (hn : n ≤ 1048576) (hm : m ≤ 30000000) (hs : cntL L n ≤ 10000000) (hsm : ∀ i, i < n → (L i).Small) :
  Calls Tryz.prog 52 #[.slice (some ⟨g, 0, none⟩) n cap, .int .i64 m] w fun e w' => e = .returned (.int .i64 ((m + cntL L n : Nat) : Int)) ∧ w = w' := by
 have H0 : Hid (Lns w base g n (marksG m L n)) := h
 have HS : Hid (∀ i, i < n → (L i).Small) := hsm
 clear h hsm
 go_enter Tryz.func52, Tryz.ntmps52
 go_wp2_with fail
 go_loop [1, 5] (fun x i => ∃ (k c : Nat), k ≤ n ∧ i = .int .i64 k ∧ x = .int .i64 c ∧ Hid (c = m + cntL L k)) (fun _ i => n - (intOf i).toNat)
 case atStart => exact ⟨0, m, Nat.zero_le _, rfl, rfl, rfl⟩
 case round =>
  obtain ⟨k, c, hk, rfl, rfl, HQ⟩ := hrel
  by_cases hlt : k < n
  ·
   have hlt' : (k : Int) < n := by omega
   have hcn := cntL_le L hlt
   have HsT : Hid ((L k).tot ≤ 10000000) := by rw [Hid]; omega
   have hcb : c + (3 + (L k).tot) ≤ 40000000 := by have := HQ.out; omega
   have HSk : Hid (L k).Small := HS.out k hlt
   obtain ⟨l, el⟩ : ∃ l, L k = l := ⟨_, rfl⟩
   have eK : marksG m L n k = markLg c l := by unfold marksG; rw [if_pos hlt, ← HQ.out, el]
   have HO : Hid (OwnLg w base (markLg c l)) := by rw [Hid, ← eK]; exact H0.out.ls k hlt
   have HC : Hid (∀ j, j < 8 → w.cell? ⟨g, k * 8 + j, none⟩ = (markLg c l).cells[j]?) := fun j hj => by rw [H0.out.cell hlt j hj, eK]
   rw [el] at HSk hcb HsT
   clear hcn eK
   have hto : l.tot = l.nT + sumL l.uL l.nU + (l.R.nQ + l.R.nD + sumL l.R.L l.R.nS) := rfl
   have h1 : c + 1 ≤ 100000000 := by omega
   have h2 : l.c1 c ≤ 50000000 := by unfold Lng.c1; omega
   have h3 : l.c2 c ≤ 100000000 := by unfold Lng.c2 Lng.c1; omega
   have h4 : l.c3 c ≤ 100000000 := by unfold Lng.c3 Lng.c2 Lng.c1; omega
   have h5 : l.c4 c + 2 ≤ 50000000 := by unfold Lng.c4 Lng.c3 Lng.c2 Lng.c1; omega
   have hsU : sumL l.uL l.nU ≤ 10000000 := by have := HsT.out; omega
   have hsZ : sumL l.R.L l.R.nS ≤ 10000000 := by have := HsT.out; omega
   clear hto
   have c0 : w.cell? ⟨g, k * 8, none⟩ = some (.bool (mb c)) := HC.out 0 (by omega)
   have d1 : w.cell? ⟨g, k * 8 + 1, none⟩ = some (.slice l.aT l.nT l.cT) := HC.out 1 (by omega)
   have d2 : w.cell? ⟨g, k * 8 + 2, none⟩ = some (.slice l.aU l.nU l.cU) := HC.out 2 (by omega)
   have d3 : w.cell? ⟨g, k * 8 + 3, none⟩ = some (.slice l.R.aQ l.R.nQ l.R.cQ) := HC.out 3 (by omega)
   have d4 : w.cell? ⟨g, k * 8 + 4, none⟩ = some (.slice l.R.aD l.R.nD l.R.cD) := HC.out 4 (by omega)
   have d5 : w.cell? ⟨g, k * 8 + 5, none⟩ = some (.int .i64 ((l.c4 c : Nat) : Int)) := HC.out 5 (by omega)
   have d6 : w.cell? ⟨g, k * 8 + 6, none⟩ = some (.bool (mb (l.c4 c + 1))) := HC.out 6 (by omega)
   have d7 : w.cell? ⟨g, k * 8 + 7, none⟩ = some (.slice l.R.aS l.R.nS l.R.cS) := HC.out 7 (by omega)
   have e3 := mb_c c
   have hb1 : (mb c != mb c) = false := by simp
   have e6 := mb_c1 (l.c4 c)
   have hb2 : (mb (l.c4 c + 1) != mb (l.c4 c + 1)) = false := by simp
   go_wp2_with fail
   clear e3 hb1
   refine (heldVGI_any l.aT l.nT l.cT (c + 1) base _ HO.out.t HSk.out.t h1).mono ?_
   rintro e w1 ⟨rfl, rfl⟩
   rw [show c + 1 + l.nT = l.c1 c from rfl]
   go_wp2_with fail
   refine (heldIss_any l.aU l.nU l.cU (l.c1 c) base l.uA l.uL l.uC _ HSk.out.u hsU h2 HSk.out.z HO.out.u.read HO.out.z).mono ?_
   rintro e w2 ⟨rfl, rfl⟩
   rw [show l.c1 c + sumL l.uL l.nU = l.c2 c from rfl]
   go_wp2_with fail
   refine (heldVGI_any l.R.aQ l.R.nQ l.R.cQ (l.c2 c) base _ HO.out.q HSk.out.r.q h3).mono ?_
   rintro e w3 ⟨rfl, rfl⟩
   rw [show l.c2 c + l.R.nQ = l.c3 c from rfl]
   go_wp2_with fail
   refine (heldVGI_any l.R.aD l.R.nD l.R.cD (l.c3 c) base _ HO.out.d HSk.out.r.d h4).mono ?_
   rintro e w4 ⟨rfl, rfl⟩
   rw [show l.c3 c + l.R.nD = l.c4 c from rfl]
   have hb5 : (((l.c4 c : Nat) : Int) != ((l.c4 c : Nat) : Int)) = false := by simp
   go_wp2_with fail
   refine (heldIss_any l.R.aS l.R.nS l.R.cS (l.c4 c + 2) base l.R.A l.R.L l.R.C _ HSk.out.r.s hsZ h5 HSk.out.r.l HO.out.s.read HO.out.y).mono ?_
   rintro e w5 ⟨rfl, rfl⟩
   have HQ1 : Hid (l.c4 c + 2 + sumL l.R.L l.R.nS = m + cntL L (k + 1)) := by
    show _ = m + (sumL (fun i => 3 + (L i).tot) k + (3 + (L k).tot))
    have e0 : c = m + sumL (fun i => 3 + (L i).tot) k := HQ.out
    rw [mark_end, el, e0, Nat.add_assoc]
   clear h1 h2 h3 h4 h5 hsU hsZ hcb hb5 e6 hb2 c0 d1 d2 d3 d4 d5 d6 d7
   go_wp2_with fail
   go_round
   case rel => exact ⟨k + 1, _, by omega, by go_num, rfl, HQ1⟩
   case measure => simp [intOf]; omega
  ·
   obtain rfl : k = n := by omega
   go_wp2_with fail
   go_ret
   exact ⟨ret_int (by have := HQ.out; omega), rfl⟩
def markF (m : Nat) (j : Nat) : Value := .int .i64 ((m + j : Nat) : Int)
set_option maxHeartbeats 1000000 in
theorem markEnts_any (g n cap m : Nat) (f : Nat → Value) (w : World) (h : RowTo g 56 (n * 3) f (n * 3) w) (hn : n ≤ 1048576) (hm : m ≤ 100000000) :
  Calls Tryz.prog 45 #[.slice (some ⟨g, 0, none⟩) n cap, .int .i64 m] w fun e w' => e = .returned (.int .i64 ((m + n * 3 : Nat) : Int)) ∧ RowTo g 56 (n * 3) (markF m) (n * 3) w' ∧ Touch [g] w w' := by
 have HM : Hid (RowTo g 56 (n * 3) (markF m) (0 * 3) w) := h.anew
 clear h
 go_enter Tryz.func45, Tryz.ntmps45
 go_wp2_with fail
 go_loopw [1, 5] (fun x i wr => ∃ (k : Nat) (q : Int), k ≤ n ∧ i = .int .i64 k ∧ x = .int .i64 q ∧ q = ((m + k * 3 : Nat) : Int) ∧ RowTo g 56 (n * 3) (markF m) (k * 3) wr ∧ Touch [g] w wr) (fun _ i _ => n - (intOf i).toNat)
 case atStart => exact ⟨0, m, Nat.zero_le _, rfl, rfl, by simp, HM.out, Touch.refl _ _⟩
 case round =>
  obtain ⟨k, q, hk, rfl, rfl, hq, hR, hT⟩ := hrel
  have HQ : Hid (q = ((m + k * 3 : Nat) : Int)) := hq
  by_cases hlt : k < n
  ·
   have hlt' : (k : Int) < n := by omega
   have q0 : 0 ≤ q := by omega
   have q1 : q ≤ 1000000000 := by omega
   have HT : Hid (Touch [g] w wr) := hT
   have e0 : (markF m (k * 3)) = .int .i64 q := by unfold markF; rw [HQ.out]
   have e1 : (markF m (k * 3 + 1)) = .int .i64 (q + 1) := by unfold markF; rw [HQ.out]; congr 1
   have e2 : (markF m (k * 3 + 1 + 1)) = .int .i64 (q + 1 + 1) := by unfold markF; rw [HQ.out]; congr 1
   have R1 := hR.step (by omega)
   rw [e0] at R1
   have R2 := R1.step (by omega)
   rw [e1] at R2
   have R3 := R2.step (by omega)
   rw [e2] at R3
   obtain ⟨v0, c0⟩ := hR.there (k * 3) (by omega)
   obtain ⟨v1, c1⟩ := R1.there (k * 3 + 1) (by omega)
   obtain ⟨v2, c2⟩ := R2.there (k * 3 + 2) (by omega)
   have f0 := hR.free (k * 3)
   have f1 := R1.free (k * 3 + 1)
   have f2 := R2.free (k * 3 + 2)
   have HR3 : Hid (RowTo g 56 (n * 3) (markF m) (k * 3 + 1 + 1 + 1) _) := R3
   clear hq R1 R2 R3 e0 e1 e2 hR hT
   go_wp2_with fail
   go_roundw
   case rel => exact ⟨k + 1, q + 1 + 1 + 1, by omega, by go_num, by go_num, by rw [HQ.out]; omega, by rw [show (k + 1) * 3 = k * 3 + 1 + 1 + 1 by omega]; exact HR3.out, ((HT.out.set (by simp) _ _).set (by simp) _ _).set (by simp) _ _⟩
   case measure => simp [intOf]; omega
  ·
   obtain rfl : k = n := by omega
   go_wp2_with fail
   go_ret
   exact ⟨ret_int HQ.out, hR, hT⟩
set_option maxHeartbeats 1000000 in
theorem heldEnts_any (g n cap m : Nat) (w : World) (h : RowTo g 56 (n * 3) (markF m) (n * 3) w) (hn : n ≤ 1048576) (hm : m ≤ 100000000) :
  Calls Tryz.prog 49 #[.slice (some ⟨g, 0, none⟩) n cap, .int .i64 m] w fun e w' => e = .returned (.int .i64 ((m + n * 3 : Nat) : Int)) ∧ Below w.heap.size w w' := by
 have HM : Hid (RowTo g 56 (n * 3) (markF m) (n * 3) w) := h
 clear h
 go_enter Tryz.func49, Tryz.ntmps49
 go_wp2_with fail
 go_loopw [1, 5] (fun x i wr => ∃ (k : Nat) (q : Int), k ≤ n ∧ i = .int .i64 k ∧ x = .int .i64 q ∧ q = ((m + k * 3 : Nat) : Int) ∧ Same w wr) (fun _ i _ => n - (intOf i).toNat)
 case atStart => exact ⟨0, m, Nat.zero_le _, rfl, rfl, by simp, Same.refl _⟩
 case round =>
  obtain ⟨k, q, hk, rfl, rfl, hq, hS⟩ := hrel
  have HQ : Hid (q = ((m + k * 3 : Nat) : Int)) := hq
  by_cases hlt : k < n
  ·
   have hlt' : (k : Int) < n := by omega
   have q0 : 0 ≤ q := by omega
   have q1 : q ≤ 1000000000 := by omega
   have HS : Hid (Same w wr) := hS
   have c0 : wr.cell? ⟨g, k * 3, none⟩ = some (.int .i64 q) := by
    rw [hS.cell, HM.out.at _ (by omega)]; unfold markF; rw [HQ.out]
   have c1 : wr.cell? ⟨g, k * 3 + 1, none⟩ = some (.int .i64 (q + 1)) := by
    rw [hS.cell, HM.out.at _ (by omega)]; unfold markF; rw [HQ.out]; congr 2
   have c2 : wr.cell? ⟨g, k * 3 + 2, none⟩ = some (.int .i64 (q + 1 + 1)) := by
    rw [hS.cell, HM.out.at _ (by omega)]; unfold markF; rw [HQ.out]; congr 2
   clear hq hS
   go_wp2_with fail
   go_roundw
   case rel => exact ⟨k + 1, q + 1 + 1 + 1, by omega, by go_num, by go_num, by rw [HQ.out]; omega, HS.out⟩
   case measure => simp [intOf]; omega
  ·
   obtain rfl : k = n := by omega
   go_wp2_with fail
   go_ret
   exact ⟨ret_int HQ.out, hS.below _⟩
end Go.Proofs.YtlipielghpoaoaaGreat
