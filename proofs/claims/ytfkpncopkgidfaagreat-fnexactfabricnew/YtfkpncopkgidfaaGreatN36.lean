import Derived.Test.YtfkpncopkgidfaaGreatN29
import Derived.Test.YtfkpncopkgidfaaGreatN30
import Derived.Test.YtfkpncopkgidfaaGreatN35
namespace Go.Proofs.YtfkpncopkgidfaaGreat
open Go.RowKit
set_option linter.unusedVariables false
set_option linter.unusedSimpArgs false
def pk0 : Pkt := ⟨0, 0, 0, 0, 0, 0, 0, ⟨#[]⟩⟩
def Ln.toG (l : Ln) : Lng := ⟨l.st, none, 0, 0, fun _ => 0, l.aU, 2, l.cU, fun _ => none, fun _ => 0, fun _ => 0, fun _ _ => 0, l.R⟩
def Sw.toG (S : Sw) : Swg := ⟨S.C, 0, S.nx, none, 0, 0, fun _ => ⟨0, 0, 0⟩, S.N, none, 0, 0, fun _ => pk0, S.aL, S.nL, S.cL, fun i => (S.L i).toG, 0, 0⟩
theorem Sw.toG_cells (S : Sw) : S.cells = S.toG.cells := rfl
theorem RdSw.g {w : World} {S : Sw} (h : RdSw w S) : RdSg w S.toG :=
 ⟨fun i hi => absurd hi (Nat.not_lt_zero _), h.n, RdPk.nil _ _ _, h.l, fun i hi => ⟨RdRow.nil _ _ _, h.u i hi, fun j hj => RdRow.nil _ _ _, h.r i hi⟩⟩
def newG (C : Cfg) (n : Nat) : Swg := ⟨C, 0, 1, none, 0, 0, fun _ => ⟨0, 0, 0⟩, newC n true, none, 0, 0, fun _ => pk0, none, n, 0, fun _ => ⟨false, none, 0, 0, fun _ => 0, none, 2, 0, fun _ => none, fun _ => 0, fun _ => 0, fun _ _ => 0, newM 2 qfN true⟩, 0, 0⟩
theorem NewS.g {w : World} {base n : Nat} {C : Cfg} {S : Sw} (h : NewS w base C n true S) : AlikeG (newG C n) S.toG := by
 obtain ⟨h1, h2, h3, h4, h5, h6, h7, g, b, h8⟩ := h
 exact ⟨h1, rfl, h2, rfl, rfl, h6, rfl, rfl, h3, fun i hi => ⟨(h7 i hi).1, rfl, rfl, rfl, rfl, rfl, (h7 i hi).2⟩, rfl, rfl⟩
theorem newG_small {C : Cfg} {n : Nat} (h : n ≤ 4) : (newG C n).Small :=
 ⟨Nat.zero_le _, (show (newC n true).Small from newC_small h), Nat.zero_le _, fun i hi => absurd hi (Nat.not_lt_zero _), by show n ≤ _; omega, fun i hi => ⟨Nat.zero_le _, by show 2 ≤ _; omega, fun j hj => Nat.zero_le _, newM_small2⟩⟩
theorem NewS.le {w : World} {base n : Nat} {C : Cfg} {S : Sw} (h : NewS w base C n true S) : n ≤ 4 := by
 obtain ⟨h1, h2, h3, h4, h5, h6⟩ := h
 exact h5
def hostM (R : Rws) (i : Nat) : Hst := ⟨false, none, R.L i, 0, R.F i, none, 0, 0, fun _ => pk0⟩
def hostR (R : Rws) (i : Nat) : Hst := ⟨false, R.A i, R.L i, R.C i, R.F i, none, 0, 0, fun _ => pk0⟩
def newF (C : Cfg) (n : Nat) (R : Rws) : Fab := ⟨newG C n, none, R.n, 0, hostM R, none, 0, 0, fun _ => pk0, none, 0, 0, fun _ => pk0⟩
def nF (G : Swg) (H : Nat → Hst) (aH : Option Addr) (k cH : Nat) : Fab := ⟨G, aH, k, cH, H, none, 0, 0, fun _ => pk0, none, 0, 0, fun _ => pk0⟩
def zeroGn : Swg := ⟨⟨0, 0, 0, 0, 0, 0, 0⟩, 0, 0, none, 0, 0, fun _ => ⟨0, 0, 0⟩, zeroC, none, 0, 0, fun _ => pk0, none, 0, 0, fun _ => ⟨false, none, 0, 0, fun _ => 0, none, 2, 0, fun _ => none, fun _ => 0, fun _ => 0, fun _ _ => 0, zR⟩, 0, 0⟩
def zeroF : Fab := ⟨zeroGn, none, 0, 0, fun _ => ⟨false, none, 0, 0, fun _ => pk0, none, 0, 0, fun _ => pk0⟩, none, 0, 0, fun _ => pk0, none, 0, 0, fun _ => pk0⟩
theorem zeroF_own (w : World) (base : Nat) : OwnFz w base zeroF :=
 ⟨⟨.inl rfl, .inl rfl, .inl rfl, .inl rfl, .inl rfl, fun i hi => absurd hi (Nat.not_lt_zero _), by decide⟩, OG.nil _ _ _ _, OG.nil _ _ _ _, OwnHs.nil _ _ _⟩
theorem AlikeG.refl (S : Swg) : AlikeG S S := ⟨rfl, rfl, rfl, rfl, rfl, AlikeC.refl _, rfl, rfl, rfl, fun i _ => AlikeL.refl _, rfl, rfl⟩
theorem AlikeH.refl (h : Hst) : AlikeH h h := ⟨rfl, rfl, rfl, rfl, rfl⟩
theorem AlikeF.refl (F : Fab) : AlikeF F F := ⟨AlikeG.refl _, rfl, fun i _ => AlikeH.refl _, rfl, rfl, rfl, rfl⟩
theorem nF_alike {C : Cfg} {n k cH : Nat} {R : Rws} {G : Swg} {H : Nat → Hst} {aH : Option Addr} (hG : AlikeG (newG C n) G) (hH : ∀ i, i < R.n → AlikeH (hostM R i) (H i)) (hk : k = R.n) : AlikeF (newF C n R) (nF G H aH k cH) := by
 subst hk
 exact ⟨hG, rfl, hH, rfl, rfl, rfl, rfl⟩
theorem newF_small {C : Cfg} {n : Nat} {R : Rws} (hn : n ≤ 4) (hs : R.Small) : (newF C n R).Small :=
 ⟨newG_small hn, hs.n, fun i hi => ⟨hs.l i hi, hs.b i hi, Nat.zero_le _, fun j hj => absurd hj (Nat.not_lt_zero _)⟩, Nat.zero_le _, fun i hi => absurd hi (Nat.not_lt_zero _), Nat.zero_le _, fun i hi => absurd hi (Nat.not_lt_zero _)⟩
theorem res_cellF2 {fn : Func} {i j : Tmp} {ty : TypeId} (h : fn.results = #[.cell i ty, .tmp j]) (n : Nat) (d : TypeDesc) (hu : Tryz.prog.underlying ty = some d) (hd : d.isRow = true) (hn : (Tryz.prog.info? ty).map (·.size) = some n) (tmps : Array Value) (w : World) (g : Nat) (cs : Array Value) (hi : tmps[i]?.getD undef = .pointer (some ⟨g, 0, none⟩)) (t : TypeId) (hk : w.heap[g]? = some (.cells cs t (0, 0))) (hs : cs.size = n) (v : Value) (hv : tmps[j]?.getD undef = v) :
  (results fn tmps).run Tryz.prog w = .ok (.tuple #[.agg cs, v]) w := by
 have := run_loadVar_mid (P := Tryz.prog) w g 0 ty cs.toList d (fun j v hv => by
  rw [Nat.zero_add, blk_cell hk, ← Array.getElem?_toList]; exact hv) hu hd (by rw [hn, Array.length_toList, hs])
 rw [Array.toArray_toList] at this
 simp [results, h, hi, hv, asAddr, this]
theorem infoCf7 : (Tryz.prog.info? 39).map (·.size) = some 7 := by kernel_rfl
structure NwF (w1 : World) (G : Swg) (H : Nat → Hst) (gF : Nat) (aH : Option Addr) (k cH : Nat) (wr : World) : Prop where
 c : wr.heap[gF]? = some (.cells (nF G H aH k cH).cells 49 (0, 0))
 oh : OG 73 3 wr w1.heap.size aH k cH (tV k fun i => (H i).cells)
 b : Below w1.heap.size w1 wr
 lt : w1.heap.size < gF
theorem NwF.more {w1 : World} {G : Swg} {H : Nat → Hst} {gF : Nat} {aH : Option Addr} {k cH : Nat} {V X X3 X4 : World} {g1 c3 : Nat} (h : NwF w1 G H gF aH k cH V) (hb : Below V.heap.size V X)
  (hu : OG 73 3 X3 w1.heap.size (some ⟨g1, 0, none⟩) (k + 1) c3 (tV k (fun i => (H i).cells) ++ (H k).cells.toList)) (ht : Touch (blkO aH) X X3) (hP : Put X3 X4 gF (nF G H (some ⟨g1, 0, none⟩) (k + 1) c3).cells 49) :
  NwF w1 G H gF (some ⟨g1, 0, none⟩) (k + 1) c3 X4 := by
 have ho := h.oh.up hb
 have hbX : Below w1.heap.size w1 X := h.b.trans (hb.mono h.b.size)
 have cX := (hb.block _ (blk_lt h.c)).trans h.c
 have hb3 : Below w1.heap.size w1 X3 := hbX.trans (ht.below hbX.size (fun x hx => (ho.blk x hx).1))
 have c3' := (ht.block _ (blk_lt cX) (ho.notT (by decide) cX)).trans cX
 have hl := h.lt
 refine ⟨hP.blk, ?_, hb3.trans (hP.to.below hb3.size (fun x hx => by simp at hx; omega)), hl⟩
 rw [tV_succ]
 exact hu.farT hP.to (typ1 c3') (by decide)
set_option maxRecDepth 100000 in
set_option maxHeartbeats 4000000 in
theorem iFabricNew_any (C : Cfg) (n : Nat) (R : Rws) (w : World) (hp : 2 ≤ C.p ∧ C.p ≤ 4 → C.p = (n : Int)) (hs : R.Small) (h : RdRws w R) (ok : Bool) (hok : ok = true ↔ C.Ok ∧ (newF C n R).Ok) :
  Calls Tryz.prog 14 #[.agg C.cells, .slice R.a R.n R.c] w fun e w' => ∃ F2, e = .returned (.tuple #[.agg F2.cells, .bool ok]) ∧ AlikeF (if ok = true then newF C n R else zeroF) F2 ∧ OwnFz w' w.heap.size F2 ∧ Below w.heap.size w w' := by
 have HO : Hid (ok = true ↔ C.Ok ∧ (newF C n R).Ok) := hok
 have HR : Hid (RdRws w R) := h
 have HS : Hid R.Small := hs
 have hnR := hs.n
 obtain ⟨okC, hC⟩ := ok_decS C.Ok
 have HC : Hid (okC = true ↔ C.Ok) := hC
 have HPp : Hid (2 ≤ C.p ∧ C.p ≤ 4 → C.p = (n : Int)) := hp
 obtain ⟨W0, eW⟩ : ∃ W, (w.alloc (.cells C.cells 39)).alloc (.cells zFb 49) = W := ⟨_, rfl⟩
 have HB : Hid (Below (w.heap.size + 2) ((w.alloc (.cells C.cells 39)).alloc (.cells zFb 49)) W0) := by rw [eW]; exact Below.refl _ _
 have HL : Hid (∀ j, j < 7 → W0.cell? ⟨w.heap.size, 0 + j, none⟩ = C.cells[j]?) := blkT (box2 HB.out).1 7
 clear hok h hs hC hp
 unfold zFb at eW
 go_enter Tryz.func14, Tryz.ntmps14
 go_wp2_with (refine wpList_ldT rfl 39 7 _ Tryz.underlying39 rfl infoCf7 (.tmp 2) rfl w.heap.size 0 rfl C.cells rfl HL.out ?_)
 clear eW HL
 refine (iSwitchNew_any C n _ HPp.out okC HC.out).mono ?_
 rintro e w1 ⟨S, rfl, hN, hb⟩
 replace HB : Hid (Below (w.heap.size + 2) ((w.alloc (.cells C.cells 39)).alloc (.cells zFb 49)) w1) := next2g HB.out hb
 have HNS : Hid (NewS w1 W0.heap.size C n okC S) := hN
 have hl1 : w.heap.size + 2 ≤ w1.heap.size := upper2g HB.out
 rw [S.toG_cells]
 have HRd : Hid (RdSg w1 S.toG) := hN.rd.g
 have HAl : Hid (okC = true → AlikeG (newG C n) S.toG ∧ n ≤ 4) := fun e => by subst e; exact ⟨hN.g, hN.le⟩
 clear hb hN HNS
 generalize S.toG = G at *
 clear S
 obtain ⟨V, eV⟩ : ∃ V, w1.alloc (.cells G.cells 45) = V := ⟨_, rfl⟩
 have hbV : Below w1.heap.size w1 V := by rw [← eV]; exact (Below.refl _ _).alloc (Nat.le_refl _) _
 have HkV : Hid (∀ j, j < 17 → V.cell? ⟨w1.heap.size, 0 + j, none⟩ = (#[.int .i64 G.C.p, .int .i64 G.C.c, .int .i64 G.C.xo, .int .i64 G.C.xn, .int .i64 G.C.hd, .int .i64 G.C.lo, .int .i64 G.C.dl, .int .i64 G.now, .int .i64 G.nx, .slice G.aE G.nE G.cE, .slice G.N.aU G.N.nU G.N.cU, .int .i64 G.N.lo, .slice G.N.aP G.N.nP G.N.cP, .slice G.aK G.nK G.cK, .slice G.aL G.nL G.cL, .int .i64 G.dr, .int .i64 G.lst] : Array Value)[j]?) := blkT (cs := G.cells) (by rw [← eV]; exact blk_new _ _) 17
 have HbV : Hid (Below w1.heap.size w1 V ∧ V.heap.size = w1.heap.size + 1) := ⟨hbV, by rw [← eV]; simp⟩
 have HD : Hid (V.heap[w.heap.size + 1]? = some (.cells zFb 49 (0, 0))) := (box2 (next2g HB.out hbV)).2
 clear hbV
 cases okC
 ·
  obtain rfl : ok = false := by
   rw [Bool.eq_false_iff]
   intro e
   exact absurd (HC.out.2 (HO.out.1 e).1) (by simp)
  go_wp2_with (first | refine wpList_stNew 45 17 infoSgI rfl (.tmp 6) (.tmp 14) rfl G.cells _ rfl rfl rfl rfl rfl (Swg.oneC _) (eV ▸ ?_) | refine wpList_stA rfl 49 (.tmp 4) (.tmp 18) rfl (w.heap.size + 1) 0 rfl (.agg zeroF.cells) rfl 20 rfl 49 _ HD.out infoFb20 (Nat.le_of_ble_eq_true rfl) (Fab.oneC _) ?_)
  intro X hP
  replace hP : Put V X (w.heap.size + 1) zeroF.cells 49 := hP.cast rfl
  have HK : Hid (X.heap[w.heap.size + 1]? = some (.cells zeroF.cells 49 (0, 0))) := hP.blk
  have HF : Hid (Below w.heap.size w X) := (under2g (next2g HB.out HbV.out.1)).trans (hP.to.below (by have := HbV.out.2; omega) (fun x hx => by simp at hx; omega))
  clear hP
  go_wp2_with fail
  exact bodyPost_ret (res_cellF2 Tryz.results14 20 _ Tryz.underlying49 rfl infoFb20 _ _ (w.heap.size + 1) zeroF.cells rfl 49 HK.out rfl (.bool false) rfl) rfl ⟨zeroF, rfl, AlikeF.refl _, zeroF_own _ _, HF.out⟩
 replace HAl : Hid (AlikeG (newG C n) G ∧ n ≤ 4) := HAl.out rfl
 replace HC : Hid C.Ok := HC.out.1 rfl
 obtain ⟨V2, eV2⟩ : ∃ V2, V.alloc (.cells (nF G (hostR R) none 0 0).cells 49) = V2 := ⟨_, rfl⟩
 have HN0 : Hid (NwF w1 G (hostR R) V.heap.size none 0 0 V2) := by
  have hbb : Below V.heap.size V V2 := by rw [← eV2]; exact (Below.refl _ _).alloc (Nat.le_refl _) _
  exact ⟨by rw [← eV2]; exact blk_new _ _, OG.nil _ _ _ _, HbV.out.1.trans (hbb.mono HbV.out.1.size), by have := HbV.out.2; omega⟩
 go_wp2_with (first | refine wpList_stNew 45 17 infoSgI rfl (.tmp 6) (.tmp 14) rfl G.cells _ rfl rfl rfl rfl rfl (Swg.oneC _) (eV ▸ ?_) | refine wpList_ldT rfl 45 17 _ Tryz.underlying45 rfl infoSgI (.tmp 6) rfl w1.heap.size 0 rfl (#[.int .i64 G.C.p, .int .i64 G.C.c, .int .i64 G.C.xo, .int .i64 G.C.xn, .int .i64 G.C.hd, .int .i64 G.C.lo, .int .i64 G.C.dl, .int .i64 G.now, .int .i64 G.nx, .slice G.aE G.nE G.cE, .slice G.N.aU G.N.nU G.N.cU, .int .i64 G.N.lo, .slice G.N.aP G.N.nP G.N.cP, .slice G.aK G.nK G.cK, .slice G.aL G.nL G.cL, .int .i64 G.dr, .int .i64 G.lst]) rfl HkV.out ?_ | refine wpList_stNew 49 20 infoFb20 rfl (.tmp 8) (.tmp 20) rfl (nF G (hostR R) none 0 0).cells _ rfl rfl rfl rfl rfl (Fab.oneC _) (eV2 ▸ ?_))
 generalize hgF : V.heap.size = gF at *
 clear hgF HbV eV eV2 HkV HD
 go_loopw [23] (fun i wr => ∃ (k : Nat) (aH : Option Addr) (cH : Nat), k ≤ R.n ∧ i = .int .i64 k ∧ Hid (NwF w1 G (hostR R) gF aH k cH wr)) (fun i _ => R.n - (intOf i).toNat)
 case atStart => exact ⟨0, none, 0, Nat.zero_le _, rfl, HN0⟩
 case round =>
  clear HN0
  obtain ⟨k, aH, cH, hk, rfl, HN⟩ := hrel
  have HBr : Hid (Below w.heap.size w wr) := under2g (next2g HB.out HN.out.b)
  by_cases hlt : k < R.n
  ·
   have hlt' : (k : Int) < R.n := by omega
   obtain ⟨g, o, ha, hc⟩ := (HR.out.up HBr.out).t k hlt
   dsimp only at hc
   have c17 : wr.cell? ⟨gF, 17, none⟩ = some (.slice aH k cH) := blk_cell HN.out.c 17
   obtain ⟨g1, c3, X3, hrun, hu, ht, hg⟩ := appendOG 46 73 _ 3 56 infoHtZ Tryz.underlying46 rfl (by decide) (by decide) HN.out.oh (by omega) HN.out.b.size (#[.bool false, .slice (R.A k) (R.L k) (R.C k), .slice none 0 0]) rfl (by simp [Value.oneCell'])
   have HU : Hid (OG 73 3 X3 w1.heap.size (some ⟨g1, 0, none⟩) (k + 1) c3 (tV k (fun i => (hostR R i).cells) ++ (hostR R k).cells.toList) ∧ Touch (blkO aH) wr X3) := ⟨hu, ht⟩
   have HG3 : Hid (X3.heap[gF]? = some (.cells (nF G (hostR R) aH k cH).cells 49 (0, 0))) := (ht.block _ (blk_lt HN.out.c) (HN.out.oh.notT (by decide) HN.out.c)).trans HN.out.c
   rw [ha]
   clear ha hu ht hg
   go_wp2_with (first | (at_builtin; refine Lib.wpList_append_run _ rfl _ _ _ _ rfl _ _ rfl rfl _ _ hrun ?_) | refine wpList_stA rfl 46 (.tmp 33) (.tmp 32) rfl gF 17 rfl (.slice (some ⟨g1, 0, none⟩) (k + 1) c3) rfl 1 rfl 49 _ HG3.out infoHs (Nat.le_of_ble_eq_true rfl) (by simp [Value.cells, Value.oneCell']) ?_)
   intro X4 hP
   have HN2 : Hid (NwF w1 G (hostR R) gF (some ⟨g1, 0, none⟩) (k + 1) c3 X4) := HN.out.more (Below.refl _ _) HU.out.1 HU.out.2 (hP.cast rfl)
   clear hP hc c17 HU HG3 HN hrun
   go_wp2_with fail
   go_roundw
   case rel => exact ⟨k + 1, _, _, by omega, by go_num, HN2⟩
   case measure => simp [intOf]; omega
  ·
   obtain rfl : k = R.n := by omega
   have hge : ¬ ((R.n : Nat) : Int) < ((R.n : Nat) : Int) := by omega
   have HAF : Hid (AlikeF (newF C n R) (nF G (hostR R) aH R.n cH)) := nF_alike HAl.out.1 (fun i hi => ⟨rfl, rfl, rfl, rfl, rfl⟩) rfl
   have HSF : Hid (nF G (hostR R) aH R.n cH).Small := HAF.out.small (newF_small HAl.out.2 HS.out)
   have HRF : Hid (RdFb wr (nF G (hostR R) aH R.n cH)) := ⟨HRd.out.up HN.out.b, HN.out.oh.hosts, fun i hi => ⟨(HR.out.up HBr.out).r i hi, RdT.nil _ _ _ _⟩, RdT.nil _ _ _ _, RdT.nil _ _ _ _⟩
   have HOF : Hid (ok = true ↔ (nF G (hostR R) aH R.n cH).Ok) := HO.out.trans ⟨fun h => HAF.out.ok.2 h.2, fun h => ⟨HC.out, HAF.out.ok.1 h⟩⟩
   have HL : Hid (∀ j, j < 20 → wr.cell? ⟨gF, 0 + j, none⟩ = (nF G (hostR R) aH R.n cH).cells[j]?) := blkT HN.out.c 20
   go_wp2_with (refine wpList_ldT rfl 49 20 _ Tryz.underlying49 rfl infoFb20 (.tmp 8) rfl gF 0 rfl (nF G (hostR R) aH R.n cH).cells rfl HL.out ?_)
   clear HL
   refine (iFabricOk_any _ _ HSF.out HRF.out ok HOF.out).mono ?_
   rintro e w5 ⟨rfl, hb⟩
   have HK5 : Hid (w5.heap[gF]? = some (.cells (nF G (hostR R) aH R.n cH).cells 49 (0, 0))) := (hb.block _ (blk_lt HN.out.c)).trans HN.out.c
   have HB5 : Hid (Below (w.heap.size + 2) ((w.alloc (.cells C.cells 39)).alloc (.cells zFb 49)) w5) := next2g (next2g HB.out HN.out.b) hb
   have HR5 : Hid (RdFb w5 (nF G (hostR R) aH R.n cH)) := HRF.out.up hb
   clear hb HN HRF HBr
   have hz5 : w.heap.size + 2 ≤ w5.heap.size := upper2g HB5.out
   cases ok
   ·
    have HD : Hid (w5.heap[w.heap.size + 1]? = some (.cells zFb 49 (0, 0))) := (box2 HB5.out).2
    go_wp2_with (refine wpList_stA rfl 49 (.tmp 4) (.tmp 38) rfl (w.heap.size + 1) 0 rfl (.agg zeroF.cells) rfl 20 rfl 49 _ HD.out infoFb20 (Nat.le_of_ble_eq_true rfl) (Fab.oneC _) ?_)
    intro X hP
    replace hP : Put w5 X (w.heap.size + 1) zeroF.cells 49 := hP.cast rfl
    have HK : Hid (X.heap[w.heap.size + 1]? = some (.cells zeroF.cells 49 (0, 0))) := hP.blk
    have HF : Hid (Below w.heap.size w X) := (under2g HB5.out).trans (hP.to.below (by omega) (fun x hx => by simp at hx; omega))
    clear hP
    go_wp2_with fail
    exact bodyPost_ret (res_cellF2 Tryz.results14 20 _ Tryz.underlying49 rfl infoFb20 _ _ (w.heap.size + 1) zeroF.cells rfl 49 HK.out rfl (.bool false) rfl) rfl ⟨zeroF, rfl, AlikeF.refl _, zeroF_own _ _, HF.out⟩
   have HL : Hid (∀ j, j < 20 → w5.cell? ⟨gF, 0 + j, none⟩ = (nF G (hostR R) aH R.n cH).cells[j]?) := blkT HK5.out 20
   have HOk : Hid (0 < G.N.nU ∧ 0 < G.N.nP) := by
    have h1 := (HOF.out.1 rfl).s.n
    have h2 := h1.c.num.p
    have h3 := h1.nU
    have h4 := h1.nP
    have h5 : (nF G (hostR R) aH R.n cH).S = G := rfl
    rw [h5] at h2 h3 h4
    exact ⟨by omega, by omega⟩
   go_wp2_with (refine wpList_ldT rfl 49 20 _ Tryz.underlying49 rfl infoFb20 (.tmp 8) rfl gF 0 rfl (nF G (hostR R) aH R.n cH).cells rfl HL.out ?_)
   clear HL
   refine (copyFabric_any _ _ HSF.out HOk.out.1 HOk.out.2 HR5.out).mono ?_
   rintro e w6 ⟨F2, rfl, aF, oF, hb⟩
   have HB6 : Hid (Below (w.heap.size + 2) ((w.alloc (.cells C.cells 39)).alloc (.cells zFb 49)) w6) := next2g HB5.out hb
   have HA6 : Hid (AlikeF (newF C n R) F2 ∧ OwnFz w6 w.heap.size F2) := ⟨HAF.out.trans aF, oF.mono (by omega)⟩
   have HD : Hid (w6.heap[w.heap.size + 1]? = some (.cells zFb 49 (0, 0))) := (box2 HB6.out).2
   clear aF oF hb HK5 HR5
   go_wp2_with (refine wpList_stA rfl 49 (.tmp 4) (.tmp 40) rfl (w.heap.size + 1) 0 rfl (.agg F2.cells) rfl 20 rfl 49 _ HD.out infoFb20 (Nat.le_of_ble_eq_true rfl) (Fab.oneC _) ?_)
   intro X hP
   replace hP : Put w6 X (w.heap.size + 1) F2.cells 49 := hP.cast rfl
   have HK : Hid (X.heap[w.heap.size + 1]? = some (.cells F2.cells 49 (0, 0))) := hP.blk
   have hz6 : w.heap.size + 2 ≤ w6.heap.size := upper2g HB6.out
   have HF : Hid (Below w.heap.size w X ∧ OwnFz X w.heap.size F2) := ⟨(under2g HB6.out).trans (hP.to.below (by omega) (fun x hx => by simp at hx; omega)), HA6.out.2.off HD.out hP.to⟩
   clear hP
   go_wp2_with fail
   exact bodyPost_ret (res_cellF2 Tryz.results14 20 _ Tryz.underlying49 rfl infoFb20 _ _ (w.heap.size + 1) F2.cells rfl 49 HK.out rfl (.bool true) rfl) rfl ⟨F2, rfl, HA6.out.1, HF.out.2, HF.out.1⟩
end Go.Proofs.YtfkpncopkgidfaaGreat
