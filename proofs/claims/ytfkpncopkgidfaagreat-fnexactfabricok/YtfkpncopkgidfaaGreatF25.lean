import Derived.Test.YtfkpncopkgidfaaGreatF24
namespace Go.Proofs.YtfkpncopkgidfaaGreat
open Go.RowKit
set_option linter.unusedVariables false
set_option linter.unusedSimpArgs false
theorem res_cellT {fn : Func} {i : Tmp} {ty : TypeId} (h : fn.results = #[.cell i ty]) (n : Nat) (d : TypeDesc) (hu : Tryz.prog.underlying ty = some d) (hd : d.isRow = true) (hn : (Tryz.prog.info? ty).map (·.size) = some n) (tmps : Array Value) (w : World) (g : Nat) (cs : Array Value) (hi : tmps[i]?.getD undef = .pointer (some ⟨g, 0, none⟩)) (t : TypeId) (hk : w.heap[g]? = some (.cells cs t (0, 0))) (hs : cs.size = n) :
  (results fn tmps).run Tryz.prog w = .ok (.agg cs) w := by
 have := run_loadVar_mid (P := Tryz.prog) w g 0 ty cs.toList d (fun j v hv => by
  rw [Nat.zero_add, blk_cell hk, ← Array.getElem?_toList]; exact hv) hu hd (by rw [hn, Array.length_toList, hs])
 rw [Array.toArray_toList] at this
 simp [results, h, hi, asAddr, this]
structure Boxes (w : World) (A B C : Array Value) (tA tB : TypeId) (W : World) : Prop where
 a : W.heap[w.heap.size]? = some (.cells A tA (0, 0))
 b : W.heap[w.heap.size + 1]? = some (.cells B tB (0, 0))
 c : W.heap[w.heap.size + 1 + 1]? = some (.cells C tB (0, 0))
 bel : Below w.heap.size w W
 sz : w.heap.size + 1 + 1 + 1 ≤ W.heap.size
theorem Boxes.start (w : World) (A B C : Array Value) (tA tB : TypeId) : Boxes w A B C tA tB (((w.alloc (.cells A tA)).alloc (.cells B tB)).alloc (.cells C tB)) := by
 obtain ⟨h1, h2, h3, h4, h5⟩ := three_laidR (w := w) (A := .cells A tA) (B := .cells B tB) (C := .cells C tB) (Below.refl _ _)
 exact ⟨h1, h2, h3, h4, h5⟩
theorem Boxes.up {w W W' : World} {A B C : Array Value} {tA tB : TypeId} (h : Boxes w A B C tA tB W) (hb : Below W.heap.size W W') : Boxes w A B C tA tB W' :=
 ⟨(hb.block _ (blk_lt h.a)).trans h.a, (hb.block _ (blk_lt h.b)).trans h.b, (hb.block _ (blk_lt h.c)).trans h.c, h.bel.trans (hb.mono h.bel.size), Nat.le_trans h.sz hb.size⟩
theorem Boxes.put {w W W' : World} {A B C C' : Array Value} {tA tB : TypeId} (h : Boxes w A B C tA tB W) (hp : Put W W' (w.heap.size + 1 + 1) C' tB) : Boxes w A B C' tA tB W' :=
 ⟨(hp.to.block _ (blk_lt h.a) (by simp; omega)).trans h.a, (hp.to.block _ (blk_lt h.b) (by simp)).trans h.b, hp.blk, h.bel.trans (hp.to.below h.bel.size (fun x hx => by simp at hx; omega)), by rw [hp.size]; exact h.sz⟩
theorem Boxes.out {w W W' : World} {A B C B' : Array Value} {tA tB : TypeId} (h : Boxes w A B C tA tB W) (hp : Put W W' (w.heap.size + 1) B' tB) : Boxes w A B' C tA tB W' :=
 ⟨(hp.to.block _ (blk_lt h.a) (by simp)).trans h.a, hp.blk, (hp.to.block _ (blk_lt h.c) (by simp)).trans h.c, h.bel.trans (hp.to.below h.bel.size (fun x hx => by simp at hx; omega)), by rw [hp.size]; exact h.sz⟩
theorem infoPkI : (Tryz.prog.info? 112).map (·.size) = some 8 := by kernel_rfl
theorem infoLgI : (Tryz.prog.info? 118).map (·.size) = some 8 := by kernel_rfl
theorem infoFrI : (Tryz.prog.info? 110).map (·.size) = some 5 := by kernel_rfl
theorem infoI1 : (Tryz.prog.info? 2).map (·.size) = some 1 := by kernel_rfl
theorem Pkt.oneC (x : Pkt) : x.cells.all (·.oneCell') = true := by simp [Pkt.cells, Value.oneCell']
theorem Lng.oneC (l : Lng) : l.cells.all (·.oneCell') = true := by simp [Lng.cells, Value.oneCell']
set_option maxRecDepth 10000 in
set_option maxHeartbeats 1000000 in
theorem toPacket_any (x : Pkt) (w : World) :
  Calls Tryz.prog 118 #[.agg x.cells] w fun e w' => e = .returned (.agg x.cells) ∧ Below w.heap.size w w' := by
 obtain ⟨W0, eW⟩ : ∃ W, (((w.alloc (.cells x.cells 158)).alloc (.cells #[.int .i64 0, .int .i64 0, .int .i64 0, .int .i64 0, .int .i64 0, .int .i64 0, .int .i64 0, .string ⟨#[]⟩] 112)).alloc (.cells #[.int .i64 0, .int .i64 0, .int .i64 0, .int .i64 0, .int .i64 0, .int .i64 0, .int .i64 0, .string ⟨#[]⟩] 112)) = W := ⟨_, rfl⟩
 have HX : Hid (Boxes w x.cells #[.int .i64 0, .int .i64 0, .int .i64 0, .int .i64 0, .int .i64 0, .int .i64 0, .int .i64 0, .string ⟨#[]⟩] #[.int .i64 0, .int .i64 0, .int .i64 0, .int .i64 0, .int .i64 0, .int .i64 0, .int .i64 0, .string ⟨#[]⟩] 158 112 W0) := by rw [← eW]; exact Boxes.start _ _ _ _ _ _
 go_enter Tryz.func118, Tryz.ntmps118
 have c0 : W0.cell? ⟨w.heap.size, 0, none⟩ = some (.int .i64 x.id) := blk_cell HX.out.a 0
 have HC := HX.out.c
 replace HC : Hid (W0.heap[w.heap.size + 1 + 1]? = some (.cells #[.int .i64 0, .int .i64 0, .int .i64 0, .int .i64 0, .int .i64 0, .int .i64 0, .int .i64 0, .string ⟨#[]⟩] 112 (0, 0))) := HC
 go_wp2_with (refine wpList_stA rfl 2 (.tmp 6) (.tmp 5) rfl (w.heap.size + 1 + 1) 0 rfl (.int .i64 x.id) rfl 1 rfl 112 _ HC.out infoI1 (Nat.le_of_ble_eq_true rfl) (by simp [Value.cells, Value.oneCell', Rnd.cells, Cfg.cells, Cnt.cells]) ?_)
 intro W1 hP
 clear eW
 replace hP := hP.cast (cs' := #[.int .i64 x.id, .int .i64 0, .int .i64 0, .int .i64 0, .int .i64 0, .int .i64 0, .int .i64 0, .string ⟨#[]⟩]) rfl
 replace HX : Hid (Boxes w x.cells #[.int .i64 0, .int .i64 0, .int .i64 0, .int .i64 0, .int .i64 0, .int .i64 0, .int .i64 0, .string ⟨#[]⟩] #[.int .i64 x.id, .int .i64 0, .int .i64 0, .int .i64 0, .int .i64 0, .int .i64 0, .int .i64 0, .string ⟨#[]⟩] 158 112 W1) := HX.out.put hP
 have T1 : Touch [w.heap.size + 1, w.heap.size + 1 + 1] W0 W1 := hP.to.mono (fun x hx => by simp at hx; simp [hx])
 clear hP HC c0
 have c1 : W1.cell? ⟨w.heap.size, 1, none⟩ = some (.int .i64 x.inn) := blk_cell HX.out.a 1
 have HC := HX.out.c
 replace HC : Hid (W1.heap[w.heap.size + 1 + 1]? = some (.cells #[.int .i64 x.id, .int .i64 0, .int .i64 0, .int .i64 0, .int .i64 0, .int .i64 0, .int .i64 0, .string ⟨#[]⟩] 112 (0, 0))) := HC
 go_wp2_with (refine wpList_stA rfl 2 (.tmp 9) (.tmp 8) rfl (w.heap.size + 1 + 1) 1 rfl (.int .i64 x.inn) rfl 1 rfl 112 _ HC.out infoI1 (Nat.le_of_ble_eq_true rfl) (by simp [Value.cells, Value.oneCell', Rnd.cells, Cfg.cells, Cnt.cells]) ?_)
 intro W2 hP
 replace hP := hP.cast (cs' := #[.int .i64 x.id, .int .i64 x.inn, .int .i64 0, .int .i64 0, .int .i64 0, .int .i64 0, .int .i64 0, .string ⟨#[]⟩]) rfl
 replace HX : Hid (Boxes w x.cells #[.int .i64 0, .int .i64 0, .int .i64 0, .int .i64 0, .int .i64 0, .int .i64 0, .int .i64 0, .string ⟨#[]⟩] #[.int .i64 x.id, .int .i64 x.inn, .int .i64 0, .int .i64 0, .int .i64 0, .int .i64 0, .int .i64 0, .string ⟨#[]⟩] 158 112 W2) := HX.out.put hP
 have T2 : Touch [w.heap.size + 1, w.heap.size + 1 + 1] W1 W2 := hP.to.mono (fun x hx => by simp at hx; simp [hx])
 clear hP HC c1
 have c2 : W2.cell? ⟨w.heap.size, 2, none⟩ = some (.int .i64 x.refs) := blk_cell HX.out.a 2
 have HC := HX.out.c
 replace HC : Hid (W2.heap[w.heap.size + 1 + 1]? = some (.cells #[.int .i64 x.id, .int .i64 x.inn, .int .i64 0, .int .i64 0, .int .i64 0, .int .i64 0, .int .i64 0, .string ⟨#[]⟩] 112 (0, 0))) := HC
 go_wp2_with (refine wpList_stA rfl 2 (.tmp 12) (.tmp 11) rfl (w.heap.size + 1 + 1) 2 rfl (.int .i64 x.refs) rfl 1 rfl 112 _ HC.out infoI1 (Nat.le_of_ble_eq_true rfl) (by simp [Value.cells, Value.oneCell', Rnd.cells, Cfg.cells, Cnt.cells]) ?_)
 intro W3 hP
 replace hP := hP.cast (cs' := #[.int .i64 x.id, .int .i64 x.inn, .int .i64 x.refs, .int .i64 0, .int .i64 0, .int .i64 0, .int .i64 0, .string ⟨#[]⟩]) rfl
 replace HX : Hid (Boxes w x.cells #[.int .i64 0, .int .i64 0, .int .i64 0, .int .i64 0, .int .i64 0, .int .i64 0, .int .i64 0, .string ⟨#[]⟩] #[.int .i64 x.id, .int .i64 x.inn, .int .i64 x.refs, .int .i64 0, .int .i64 0, .int .i64 0, .int .i64 0, .string ⟨#[]⟩] 158 112 W3) := HX.out.put hP
 have T3 : Touch [w.heap.size + 1, w.heap.size + 1 + 1] W2 W3 := hP.to.mono (fun x hx => by simp at hx; simp [hx])
 clear hP HC c2
 have c3 : W3.cell? ⟨w.heap.size, 3, none⟩ = some (.int .i64 x.k) := blk_cell HX.out.a 3
 have c4 : W3.cell? ⟨w.heap.size, 4, none⟩ = some (.int .i64 x.d) := blk_cell HX.out.a 4
 have c5 : W3.cell? ⟨w.heap.size, 5, none⟩ = some (.int .i64 x.s) := blk_cell HX.out.a 5
 have c6 : W3.cell? ⟨w.heap.size, 6, none⟩ = some (.int .i64 x.p) := blk_cell HX.out.a 6
 have c7 : W3.cell? ⟨w.heap.size, 7, none⟩ = some (.string x.b) := blk_cell HX.out.a 7
 go_wp2_with fail
 refine (toFrame_any x.k x.d x.s x.p x.b _).mono ?_
 rintro e wf ⟨rfl, hb⟩
 clear c3 c4 c5 c6 c7
 replace HX : Hid (Boxes w x.cells #[.int .i64 0, .int .i64 0, .int .i64 0, .int .i64 0, .int .i64 0, .int .i64 0, .int .i64 0, .string ⟨#[]⟩] #[.int .i64 x.id, .int .i64 x.inn, .int .i64 x.refs, .int .i64 0, .int .i64 0, .int .i64 0, .int .i64 0, .string ⟨#[]⟩] 158 112 wf) := HX.out.up hb
 have T4 : Touch [w.heap.size + 1, w.heap.size + 1 + 1] W3 wf := Touch.ofBelow hb
 clear hb
 have HC := HX.out.c
 replace HC : Hid (wf.heap[w.heap.size + 1 + 1]? = some (.cells #[.int .i64 x.id, .int .i64 x.inn, .int .i64 x.refs, .int .i64 0, .int .i64 0, .int .i64 0, .int .i64 0, .string ⟨#[]⟩] 112 (0, 0))) := HC
 go_wp2_with (refine wpList_stA rfl 110 (.tmp 16) (.tmp 15) rfl (w.heap.size + 1 + 1) 3 rfl (.agg #[.int .i64 x.k, .int .i64 x.d, .int .i64 x.s, .int .i64 x.p, .string x.b]) rfl 5 rfl 112 _ HC.out infoFrI (Nat.le_of_ble_eq_true rfl) (by simp [Value.cells, Value.oneCell', Rnd.cells, Cfg.cells, Cnt.cells]) ?_)
 intro W5 hP
 replace hP := hP.cast (cs' := #[.int .i64 x.id, .int .i64 x.inn, .int .i64 x.refs, .int .i64 x.k, .int .i64 x.d, .int .i64 x.s, .int .i64 x.p, .string x.b]) rfl
 replace HX : Hid (Boxes w x.cells #[.int .i64 0, .int .i64 0, .int .i64 0, .int .i64 0, .int .i64 0, .int .i64 0, .int .i64 0, .string ⟨#[]⟩] #[.int .i64 x.id, .int .i64 x.inn, .int .i64 x.refs, .int .i64 x.k, .int .i64 x.d, .int .i64 x.s, .int .i64 x.p, .string x.b] 158 112 W5) := HX.out.put hP
 have T5 : Touch [w.heap.size + 1, w.heap.size + 1 + 1] wf W5 := hP.to.mono (fun x hx => by simp at hx; simp [hx])
 clear hP HC 
 have HC : Hid (W5.heap[w.heap.size + 1 + 1]? = some (.cells x.cells 112 (0, 0))) := HX.out.c
 have HD : Hid (W5.heap[w.heap.size + 1]? = some (.cells #[.int .i64 0, .int .i64 0, .int .i64 0, .int .i64 0, .int .i64 0, .int .i64 0, .int .i64 0, .string ⟨#[]⟩] 112 (0, 0))) := HX.out.b
 have HL : Hid (∀ j, j < 8 → W5.cell? ⟨w.heap.size + 1 + 1, 0 + j, none⟩ = (x.cells)[j]?) := fun j _ => by rw [Nat.zero_add]; exact blk_cell HC.out j
 go_wp2_with (first | refine wpList_ldT rfl 112 8 _ Tryz.underlying112 rfl infoPkI (.tmp 3) rfl (w.heap.size + 1 + 1) 0 rfl (x.cells) rfl HL.out ?_ | refine wpList_stA rfl 112 (.tmp 2) (.tmp 17) rfl (w.heap.size + 1) 0 rfl (.agg x.cells) rfl 8 rfl 112 _ HD.out infoPkI (Nat.le_of_ble_eq_true rfl) x.oneC ?_)
 intro W6 hP
 replace hP : Put W5 W6 (w.heap.size + 1) x.cells 112 := hP.cast rfl
 have T6 : Touch [w.heap.size + 1, w.heap.size + 1 + 1] W5 W6 := hP.to.mono (fun x hx => by simp at hx; simp [hx])
 have HK : Hid (W6.heap[w.heap.size + 1]? = some (.cells x.cells 112 (0, 0))) := hP.blk
 have HB : Hid (Below w.heap.size w W6) := (HX.out.out hP).bel
 clear hP HC HD HL
 go_wp2_with fail
 refine bodyPost_ret (res_cellT Tryz.results118 8 _ Tryz.underlying112 rfl infoPkI _ _ (w.heap.size + 1) x.cells rfl 112 HK.out rfl) rfl ⟨rfl, HB.out⟩
theorem infoB1 : (Tryz.prog.info? 4).map (·.size) = some 1 := by kernel_rfl
theorem infoIs : (Tryz.prog.info? 25).map (·.size) = some 1 := by kernel_rfl
theorem infoIss : (Tryz.prog.info? 114).map (·.size) = some 1 := by kernel_rfl
theorem infoRn : (Tryz.prog.info? 116).map (·.size) = some 5 := by kernel_rfl
theorem blkV_at {g o n x : Nat} (h : x ∈ blkV (some ⟨g, o, none⟩) n) : x = g := by
 unfold blkV at h
 split at h
 ·
  simp at h
 ·
  simpa using h
theorem blkS_nodup {n : Nat} {G L : Nat → Nat} (h : ∀ i j, i < j → j < n → G i < G j) : (blkS n (fun i => some ⟨G i, 0, none⟩) L).Nodup := by
 unfold blkS
 induction n with
 | zero => simp
 | succ n ih =>
  rw [List.range_succ, List.flatMap_append]
  simp only [List.flatMap_cons, List.flatMap_nil, List.append_nil]
  refine nodup_app (ih (fun i j hij hj => h i j hij (by omega))) (blkV_nodup _ _) (G n) (fun x hx => ?_) (fun x hx => ?_)
  ·
   simp only [List.mem_flatMap, List.mem_range] at hx
   obtain ⟨i, hi, hx⟩ := hx
   rw [blkV_at hx]
   exact h i n hi (by omega)
  ·
   rw [blkV_at hx]
   exact Nat.le_refl _
theorem laneNd {nT nU nQ nD nS gT gQ gD gS : Nat} {G G2 uL L : Nat → Nat} {m : Nat} {st : Bool} {cT cU cQ cD cS : Nat} {t : Nat → Int} {aU : Option Addr} {uC C : Nat → Nat} {uz z : Nat → Nat → Int} {q d : Nat → Int} {turn : Int} {fresh : Bool} {aS : Option Addr} (h1 : gT < m) (h2 : ∀ i, i < nU → gT < G i ∧ G i < m) (h3 : ∀ i j, i < j → j < nU → G i < G j) (h4 : m ≤ gQ) (h5 : gQ < gD) (h6 : gD ≤ gS) (h7 : ∀ i, i < nS → gS < G2 i) (h8 : ∀ i j, i < j → j < nS → G2 i < G2 j) :
  (Lng.blks ⟨st, some ⟨gT, 0, none⟩, nT, cT, t, aU, nU, cU, fun i => some ⟨G i, 0, none⟩, uL, uC, uz, ⟨some ⟨gQ, 0, none⟩, nQ, cQ, q, some ⟨gD, 0, none⟩, nD, cD, d, turn, fresh, aS, nS, cS, fun i => some ⟨G2 i, 0, none⟩, L, C, z⟩⟩).Nodup := by
 unfold Lng.blks
 dsimp only
 refine nodup_app (blkV_nodup _ _) (nodup_app (blkS_nodup h3) (nodup_app (blkV_nodup _ _) (nodup_app (blkV_nodup _ _) (blkS_nodup h8) (gD + 1) ?_ ?_) gD ?_ ?_) m ?_ ?_) (gT + 1) ?_ ?_
 ·
  intro x hx; rw [blkV_at hx]; omega
 ·
  intro x hx
  obtain ⟨i, hi, hx⟩ := blkS_mem.1 hx
  have := h7 i hi
  rw [blkV_at hx]; omega
 ·
  intro x hx; rw [blkV_at hx]; omega
 ·
  intro x hx
  rcases List.mem_append.1 hx with hx | hx
  ·
   rw [blkV_at hx]; omega
  ·
   obtain ⟨i, hi, hx⟩ := blkS_mem.1 hx
   have := h7 i hi
   rw [blkV_at hx]; omega
 ·
  intro x hx
  obtain ⟨i, hi, hx⟩ := blkS_mem.1 hx
  have := h2 i hi
  rw [blkV_at hx]; omega
 ·
  intro x hx
  rcases List.mem_append.1 hx with hx | hx
  ·
   rw [blkV_at hx]; omega
  rcases List.mem_append.1 hx with hx | hx
  ·
   rw [blkV_at hx]; omega
  ·
   obtain ⟨i, hi, hx⟩ := blkS_mem.1 hx
   have := h7 i hi
   rw [blkV_at hx]; omega
 ·
  intro x hx; rw [blkV_at hx]; omega
 ·
  intro x hx
  rcases List.mem_append.1 hx with hx | hx
  ·
   obtain ⟨i, hi, hx⟩ := blkS_mem.1 hx
   have := h2 i hi
   rw [blkV_at hx]; omega
  rcases List.mem_append.1 hx with hx | hx
  ·
   rw [blkV_at hx]; omega
  rcases List.mem_append.1 hx with hx | hx
  ·
   rw [blkV_at hx]; omega
  ·
   obtain ⟨i, hi, hx⟩ := blkS_mem.1 hx
   have := h7 i hi
   rw [blkV_at hx]; omega
set_option maxRecDepth 10000 in
set_option maxHeartbeats 2000000 in
theorem toLane_any (l : Lng) (w : World) (hs : l.Small) (h : RdLg w l) :
  Calls Tryz.prog 119 #[.agg l.cells] w fun e w' => ∃ l2, e = .returned (.agg l2.cells) ∧ AlikeL l l2 ∧ OwnLg w' w.heap.size l2 ∧ Below w.heap.size w w' := by
 have HR : Hid (RdLg w l) := h
 have HS : Hid l.Small := hs
 clear h hs
 obtain ⟨W0, eW⟩ : ∃ W, (((w.alloc (.cells l.cells 162)).alloc (.cells #[.bool false, .slice none 0 0, .slice none 0 0, .slice none 0 0, .slice none 0 0, .int .i64 0, .bool false, .slice none 0 0] 118)).alloc (.cells #[.bool false, .slice none 0 0, .slice none 0 0, .slice none 0 0, .slice none 0 0, .int .i64 0, .bool false, .slice none 0 0] 118)) = W := ⟨_, rfl⟩
 have HX : Hid (Boxes w l.cells #[.bool false, .slice none 0 0, .slice none 0 0, .slice none 0 0, .slice none 0 0, .int .i64 0, .bool false, .slice none 0 0] #[.bool false, .slice none 0 0, .slice none 0 0, .slice none 0 0, .slice none 0 0, .int .i64 0, .bool false, .slice none 0 0] 162 118 W0) := by rw [← eW]; exact Boxes.start _ _ _ _ _ _
 go_enter Tryz.func119, Tryz.ntmps119
 have c0 : W0.cell? ⟨w.heap.size, 0, none⟩ = some (.bool l.st) := blk_cell HX.out.a 0
 have HC := HX.out.c
 replace HC : Hid (W0.heap[w.heap.size + 1 + 1]? = some (.cells #[.bool false, .slice none 0 0, .slice none 0 0, .slice none 0 0, .slice none 0 0, .int .i64 0, .bool false, .slice none 0 0] 118 (0, 0))) := HC
 go_wp2_with (refine wpList_stA rfl 4 (.tmp 6) (.tmp 5) rfl (w.heap.size + 1 + 1) 0 rfl (.bool l.st) rfl 1 rfl 118 _ HC.out infoB1 (Nat.le_of_ble_eq_true rfl) (by simp [Value.cells, Value.oneCell', Rnd.cells, Cfg.cells, Cnt.cells]) ?_)
 intro W1 hP
 clear eW
 replace hP := hP.cast (cs' := #[.bool l.st, .slice none 0 0, .slice none 0 0, .slice none 0 0, .slice none 0 0, .int .i64 0, .bool false, .slice none 0 0]) rfl
 replace HX : Hid (Boxes w l.cells #[.bool false, .slice none 0 0, .slice none 0 0, .slice none 0 0, .slice none 0 0, .int .i64 0, .bool false, .slice none 0 0] #[.bool l.st, .slice none 0 0, .slice none 0 0, .slice none 0 0, .slice none 0 0, .int .i64 0, .bool false, .slice none 0 0] 162 118 W1) := HX.out.put hP
 have T1 : Touch [w.heap.size + 1, w.heap.size + 1 + 1] W0 W1 := hP.to.mono (fun x hx => by simp at hx; simp [hx])
 clear hP HC c0
 have c1 : W1.cell? ⟨w.heap.size, 1, none⟩ = some (.slice l.aT l.nT l.cT) := blk_cell HX.out.a 1
 go_wp2_with fail
 refine (toInts_any l.aT l.nT l.cT l.t _ HS.out.t (HR.out.t.up HX.out.bel)).mono ?_
 rintro e wt ⟨rfl, rT, hb⟩
 clear c1
 have sT := HX.out.sz
 replace HX : Hid (Boxes w l.cells #[.bool false, .slice none 0 0, .slice none 0 0, .slice none 0 0, .slice none 0 0, .int .i64 0, .bool false, .slice none 0 0] #[.bool l.st, .slice none 0 0, .slice none 0 0, .slice none 0 0, .slice none 0 0, .int .i64 0, .bool false, .slice none 0 0] 162 118 wt) := HX.out.up hb
 have T2 : Touch [w.heap.size + 1, w.heap.size + 1 + 1] W1 wt := Touch.ofBelow hb
 clear hb
 have HC := HX.out.c
 replace HC : Hid (wt.heap[w.heap.size + 1 + 1]? = some (.cells #[.bool l.st, .slice none 0 0, .slice none 0 0, .slice none 0 0, .slice none 0 0, .int .i64 0, .bool false, .slice none 0 0] 118 (0, 0))) := HC
 go_wp2_with (refine wpList_stA rfl 25 (.tmp 10) (.tmp 9) rfl (w.heap.size + 1 + 1) 1 rfl (.slice (some ⟨W1.heap.size, 0, none⟩) l.nT l.nT) rfl 1 rfl 118 _ HC.out infoIs (Nat.le_of_ble_eq_true rfl) (by simp [Value.cells, Value.oneCell', Rnd.cells, Cfg.cells, Cnt.cells]) ?_)
 intro W3 hP
 replace hP := hP.cast (cs' := #[.bool l.st, .slice (some ⟨W1.heap.size, 0, none⟩) l.nT l.nT, .slice none 0 0, .slice none 0 0, .slice none 0 0, .int .i64 0, .bool false, .slice none 0 0]) rfl
 replace HX : Hid (Boxes w l.cells #[.bool false, .slice none 0 0, .slice none 0 0, .slice none 0 0, .slice none 0 0, .int .i64 0, .bool false, .slice none 0 0] #[.bool l.st, .slice (some ⟨W1.heap.size, 0, none⟩) l.nT l.nT, .slice none 0 0, .slice none 0 0, .slice none 0 0, .int .i64 0, .bool false, .slice none 0 0] 162 118 W3) := HX.out.put hP
 have T3 : Touch [w.heap.size + 1, w.heap.size + 1 + 1] wt W3 := hP.to.mono (fun x hx => by simp at hx; simp [hx])
 clear hP HC 
 have c2 : W3.cell? ⟨w.heap.size, 2, none⟩ = some (.slice l.aU l.nU l.cU) := blk_cell HX.out.a 2
 go_wp2_with fail
 refine (toIntss_any l.aU l.nU l.cU l.uA l.uL l.uC l.uz _ HS.out.u (HR.out.u.up HX.out.bel) (fun i hi => (HR.out.z i hi).up HX.out.bel) HS.out.z).mono ?_
 rintro e wu ⟨G, rfl, rU, hb⟩
 clear c2
 have sU := HX.out.sz
 replace HX : Hid (Boxes w l.cells #[.bool false, .slice none 0 0, .slice none 0 0, .slice none 0 0, .slice none 0 0, .int .i64 0, .bool false, .slice none 0 0] #[.bool l.st, .slice (some ⟨W1.heap.size, 0, none⟩) l.nT l.nT, .slice none 0 0, .slice none 0 0, .slice none 0 0, .int .i64 0, .bool false, .slice none 0 0] 162 118 wu) := HX.out.up hb
 have T4 : Touch [w.heap.size + 1, w.heap.size + 1 + 1] W3 wu := Touch.ofBelow hb
 clear hb
 have HC := HX.out.c
 replace HC : Hid (wu.heap[w.heap.size + 1 + 1]? = some (.cells #[.bool l.st, .slice (some ⟨W1.heap.size, 0, none⟩) l.nT l.nT, .slice none 0 0, .slice none 0 0, .slice none 0 0, .int .i64 0, .bool false, .slice none 0 0] 118 (0, 0))) := HC
 go_wp2_with (refine wpList_stA rfl 114 (.tmp 14) (.tmp 13) rfl (w.heap.size + 1 + 1) 2 rfl (.slice (some ⟨W3.heap.size, 0, none⟩) l.nU l.nU) rfl 1 rfl 118 _ HC.out infoIss (Nat.le_of_ble_eq_true rfl) (by simp [Value.cells, Value.oneCell', Rnd.cells, Cfg.cells, Cnt.cells]) ?_)
 intro W5 hP
 replace hP := hP.cast (cs' := #[.bool l.st, .slice (some ⟨W1.heap.size, 0, none⟩) l.nT l.nT, .slice (some ⟨W3.heap.size, 0, none⟩) l.nU l.nU, .slice none 0 0, .slice none 0 0, .int .i64 0, .bool false, .slice none 0 0]) rfl
 replace HX : Hid (Boxes w l.cells #[.bool false, .slice none 0 0, .slice none 0 0, .slice none 0 0, .slice none 0 0, .int .i64 0, .bool false, .slice none 0 0] #[.bool l.st, .slice (some ⟨W1.heap.size, 0, none⟩) l.nT l.nT, .slice (some ⟨W3.heap.size, 0, none⟩) l.nU l.nU, .slice none 0 0, .slice none 0 0, .int .i64 0, .bool false, .slice none 0 0] 162 118 W5) := HX.out.put hP
 have T5 : Touch [w.heap.size + 1, w.heap.size + 1 + 1] wu W5 := hP.to.mono (fun x hx => by simp at hx; simp [hx])
 clear hP HC 
 have c3 : W5.cell? ⟨w.heap.size, 3, none⟩ = some (.slice l.R.aQ l.R.nQ l.R.cQ) := blk_cell HX.out.a 3
 have c4 : W5.cell? ⟨w.heap.size, 4, none⟩ = some (.slice l.R.aD l.R.nD l.R.cD) := blk_cell HX.out.a 4
 have c5 : W5.cell? ⟨w.heap.size, 5, none⟩ = some (.int .i64 l.R.turn) := blk_cell HX.out.a 5
 have c6 : W5.cell? ⟨w.heap.size, 6, none⟩ = some (.bool l.R.fresh) := blk_cell HX.out.a 6
 have c7 : W5.cell? ⟨w.heap.size, 7, none⟩ = some (.slice l.R.aS l.R.nS l.R.cS) := blk_cell HX.out.a 7
 go_wp2_with fail
 refine (toRound_any l.R _ HS.out.r (HR.out.r.up HX.out.bel)).mono ?_
 rintro e wr ⟨gQ, gD, gS, G2, rfl, hgQ, rR, hb⟩
 clear c3 c4 c5 c6 c7
 have sR := HX.out.sz
 replace HX : Hid (Boxes w l.cells #[.bool false, .slice none 0 0, .slice none 0 0, .slice none 0 0, .slice none 0 0, .int .i64 0, .bool false, .slice none 0 0] #[.bool l.st, .slice (some ⟨W1.heap.size, 0, none⟩) l.nT l.nT, .slice (some ⟨W3.heap.size, 0, none⟩) l.nU l.nU, .slice none 0 0, .slice none 0 0, .int .i64 0, .bool false, .slice none 0 0] 162 118 wr) := HX.out.up hb
 have T6 : Touch [w.heap.size + 1, w.heap.size + 1 + 1] W5 wr := Touch.ofBelow hb
 clear hb
 have HC := HX.out.c
 replace HC : Hid (wr.heap[w.heap.size + 1 + 1]? = some (.cells #[.bool l.st, .slice (some ⟨W1.heap.size, 0, none⟩) l.nT l.nT, .slice (some ⟨W3.heap.size, 0, none⟩) l.nU l.nU, .slice none 0 0, .slice none 0 0, .int .i64 0, .bool false, .slice none 0 0] 118 (0, 0))) := HC
 go_wp2_with (refine wpList_stA rfl 116 (.tmp 18) (.tmp 17) rfl (w.heap.size + 1 + 1) 3 rfl (.agg (l.R.copy gQ gD gS G2).cells) rfl 5 rfl 118 _ HC.out infoRn (Nat.le_of_ble_eq_true rfl) (by simp [Value.cells, Value.oneCell', Rnd.cells, Cfg.cells, Cnt.cells]) ?_)
 intro W7 hP
 replace hP := hP.cast (cs' := #[.bool l.st, .slice (some ⟨W1.heap.size, 0, none⟩) l.nT l.nT, .slice (some ⟨W3.heap.size, 0, none⟩) l.nU l.nU, .slice (some ⟨gQ, 0, none⟩) l.R.nQ l.R.nQ, .slice (some ⟨gD, 0, none⟩) l.R.nD l.R.nD, .int .i64 l.R.turn, .bool l.R.fresh, .slice (some ⟨gS, 0, none⟩) l.R.nS l.R.nS]) rfl
 replace HX : Hid (Boxes w l.cells #[.bool false, .slice none 0 0, .slice none 0 0, .slice none 0 0, .slice none 0 0, .int .i64 0, .bool false, .slice none 0 0] #[.bool l.st, .slice (some ⟨W1.heap.size, 0, none⟩) l.nT l.nT, .slice (some ⟨W3.heap.size, 0, none⟩) l.nU l.nU, .slice (some ⟨gQ, 0, none⟩) l.R.nQ l.R.nQ, .slice (some ⟨gD, 0, none⟩) l.R.nD l.R.nD, .int .i64 l.R.turn, .bool l.R.fresh, .slice (some ⟨gS, 0, none⟩) l.R.nS l.R.nS] 162 118 W7) := HX.out.put hP
 have T7 : Touch [w.heap.size + 1, w.heap.size + 1 + 1] wr W7 := hP.to.mono (fun x hx => by simp at hx; simp [hx])
 clear hP HC 
 obtain ⟨l2, e2⟩ : ∃ l2, (⟨l.st, some ⟨W1.heap.size, 0, none⟩, l.nT, l.nT, l.t, some ⟨W3.heap.size, 0, none⟩, l.nU, l.nU, fun i => some ⟨G i, 0, none⟩, l.uL, l.uL, l.uz, l.R.copy gQ gD gS G2⟩ : Lng) = l2 := ⟨_, rfl⟩
 have e3 : #[.bool l.st, .slice (some ⟨W1.heap.size, 0, none⟩) l.nT l.nT, .slice (some ⟨W3.heap.size, 0, none⟩) l.nU l.nU, .slice (some ⟨gQ, 0, none⟩) l.R.nQ l.R.nQ, .slice (some ⟨gD, 0, none⟩) l.R.nD l.R.nD, .int .i64 l.R.turn, .bool l.R.fresh, .slice (some ⟨gS, 0, none⟩) l.R.nS l.R.nS] = l2.cells := by rw [← e2]; rfl
 rw [e3] at HX
 have HC : Hid (W7.heap[w.heap.size + 1 + 1]? = some (.cells l2.cells 118 (0, 0))) := HX.out.c
 have HD : Hid (W7.heap[w.heap.size + 1]? = some (.cells #[.bool false, .slice none 0 0, .slice none 0 0, .slice none 0 0, .slice none 0 0, .int .i64 0, .bool false, .slice none 0 0] 118 (0, 0))) := HX.out.b
 have HL : Hid (∀ j, j < 8 → W7.cell? ⟨w.heap.size + 1 + 1, 0 + j, none⟩ = (l2.cells)[j]?) := fun j _ => by rw [Nat.zero_add]; exact blk_cell HC.out j
 go_wp2_with (first | refine wpList_ldT rfl 118 8 _ Tryz.underlying118 rfl infoLgI (.tmp 3) rfl (w.heap.size + 1 + 1) 0 rfl (l2.cells) rfl HL.out ?_ | refine wpList_stA rfl 118 (.tmp 2) (.tmp 19) rfl (w.heap.size + 1) 0 rfl (.agg l2.cells) rfl 8 rfl 118 _ HD.out infoLgI (Nat.le_of_ble_eq_true rfl) (Lng.oneC _) ?_)
 intro W8 hP
 replace hP : Put W7 W8 (w.heap.size + 1) l2.cells 118 := hP.cast rfl
 have T8 : Touch [w.heap.size + 1, w.heap.size + 1 + 1] W7 W8 := hP.to.mono (fun x hx => by simp at hx; simp [hx])
 have HK : Hid (W8.heap[w.heap.size + 1]? = some (.cells l2.cells 118 (0, 0))) := hP.blk
 have HB : Hid (Below w.heap.size w W8) := (HX.out.out hP).bel
 clear hP HC HD HL
 go_wp2_with fail
 have hlow : ∀ x ∈ [w.heap.size + 1, w.heap.size + 1 + 1], x < w.heap.size + 1 + 1 + 1 := by intro x hx; simp at hx; omega
 have qT : VG 2 W8 W1.heap.size (some ⟨W1.heap.size, 0, none⟩) l.nT (fun i => .int .i64 (l.t i)) := (rT.vg (Nat.le_refl _)).low (((((T3.trans T4).trans T5).trans T6).trans T7).trans T8) (fun x hx => by have := hlow x hx; omega)
 have tU := (((T5.trans T6).trans T7).trans T8)
 have tR := (T7.trans T8)
 have lU := rU.top.lt
 have lR := rR.q.lt
 have hT1 := T3.size
 have hT2 := T4.size
 have hT3 := T5.size
 have hT4 := T6.size
 have hTt := rT.lt
 refine bodyPost_ret (res_cellT Tryz.results119 8 _ Tryz.underlying118 rfl infoLgI _ _ (w.heap.size + 1) l2.cells rfl 118 HK.out rfl) rfl ⟨l2, rfl, ?_, ?_, HB.out⟩
 ·
  rw [← e2]
  exact ⟨rfl, rfl, rfl, rfl, rfl, rfl, ⟨rfl, rfl, rfl, rfl, rfl, rfl, rfl, rfl, rfl⟩⟩
 ·
  rw [← e2]
  have kU : ∀ {g : Nat}, w.heap.size + 1 + 1 + 1 ≤ g → g < wu.heap.size → W8.heap[g]? = wu.heap[g]? := fun h1 h2 => tU.block _ h2 (by simp; omega)
  have kR : ∀ {g : Nat}, w.heap.size + 1 + 1 + 1 ≤ g → g < wr.heap.size → W8.heap[g]? = wr.heap[g]? := fun h1 h2 => tR.block _ h2 (by simp; omega)
  have oU := rU.low
  have oR := rR.lt
  have oS : ∀ i, i < l.R.nS → gS < G2 i := rR.s.low
  refine ⟨qT.mono (by omega), (rU.top.keep (kU (by omega) lU)).vg (by omega), fun i hi => ((rU.row i hi).keep (kU (by have := oU i hi; omega) (rU.row i hi).lt)).vg (by have := oU i hi; omega), (rR.q.keep (kR (by omega) lR)).vg (by omega), (rR.d.keep (kR (by omega) rR.d.lt)).vg (by omega), (rR.s.top.keep (kR (by omega) rR.s.top.lt)).vg (by omega), fun i hi => ((rR.s.row i hi).keep (kR (by have := oS i hi; omega) (rR.s.row i hi).lt)).vg (by have := oS i hi; omega), ?_⟩
  exact laneNd (gS := gS) (by omega) (fun i hi => ⟨by have := oU i hi; omega, (rU.row i hi).lt⟩) rU.inc (by omega) (by omega) (by omega) (fun i hi => by have := oS i hi; omega) rR.s.inc
theorem infoPkZ : (Tryz.prog.info? 112).map (fun i => (i.zero, i.size, i.bytes)) = some (some (.agg #[.int .i64 0, .int .i64 0, .int .i64 0, .int .i64 0, .int .i64 0, .int .i64 0, .int .i64 0, .string ⟨#[]⟩]), 8, 72) := by kernel_rfl
def zPks (n : Nat) : Array Value := madeCells #[.int .i64 0, .int .i64 0, .int .i64 0, .int .i64 0, .int .i64 0, .int .i64 0, .int .i64 0, .string ⟨#[]⟩] (n * 8)
theorem make_pks (n : Nat) (hn : n ≤ 1048576) (w : World) : (Instr.makeSlice 42 (.int .i64 (n : Int)) (.int .i64 (n : Int))).run Tryz.prog w = .ok (.slice (some ⟨w.heap.size, 0, none⟩) n n) (w.alloc (.cells (zPks n) 112)) := by
 obtain ⟨i0, hi, hz0, hz1, hz2⟩ := info_parts infoPkZ
 have := run_make (P := Tryz.prog) w 42 112 i0 _ Tryz.underlying42 hi hz0 .i64 .i64 (n : Int) (n : Int) (by omega) (by omega) (by rw [hz2]; omega) (by omega)
 rw [this, hz1]
 simp [zPks, Value.cells]
theorem infoLgZ : (Tryz.prog.info? 118).map (fun i => (i.zero, i.size, i.bytes)) = some (some (.agg #[.bool false, .slice none 0 0, .slice none 0 0, .slice none 0 0, .slice none 0 0, .int .i64 0, .bool false, .slice none 0 0]), 8, 144) := by kernel_rfl
def zLns (n : Nat) : Array Value := madeCells #[.bool false, .slice none 0 0, .slice none 0 0, .slice none 0 0, .slice none 0 0, .int .i64 0, .bool false, .slice none 0 0] (n * 8)
theorem make_lns (n : Nat) (hn : n ≤ 1048576) (w : World) : (Instr.makeSlice 43 (.int .i64 (n : Int)) (.int .i64 (n : Int))).run Tryz.prog w = .ok (.slice (some ⟨w.heap.size, 0, none⟩) n n) (w.alloc (.cells (zLns n) 118)) := by
 obtain ⟨i0, hi, hz0, hz1, hz2⟩ := info_parts infoLgZ
 have := run_make (P := Tryz.prog) w 43 118 i0 _ Tryz.underlying43 hi hz0 .i64 .i64 (n : Int) (n : Int) (by omega) (by omega) (by rw [hz2]; omega) (by omega)
 rw [this, hz1]
 simp [zLns, Value.cells]
theorem rowTo_put {w W : World} {g n k : Nat} {t : TypeId} {F : Nat → Value} {arr cs : Array Value} (hn : n * 8 ≤ arr.size) (hc : ∀ i, i < k * 8 → arr[i]? = some (F i)) (hlt : k < n) (hs : cs.size = 8) (hcs : ∀ j, j < 8 → some (F (k * 8 + j)) = cs[j]?) (hP : Put w W g (lay arr (k * 8) cs) t) : RowTo g t (n * 8) F ((k + 1) * 8) W := by
 have hf : k * 8 + cs.size ≤ arr.size := by omega
 refine ⟨_, hP.blk, by rw [lay_size hf]; exact hn, fun i hi => ?_⟩
 by_cases e : i < k * 8
 ·
  rw [lay_lo hf i e]
  exact hc i e
 ·
  have := lay_at hf (i - k * 8) (by omega)
  rw [show k * 8 + (i - k * 8) = i by omega] at this
  rw [this, ← hcs _ (by omega), show k * 8 + (i - k * 8) = i by omega]
set_option maxRecDepth 10000 in
set_option maxHeartbeats 1000000 in
theorem toPackets_any (a : Option Addr) (n cap : Nat) (K : Nat → Pkt) (w : World) (hn : n ≤ 1048576) (h : RdPk w a n K) :
  Calls Tryz.prog 65 #[.slice a n cap] w fun e w' => e = .returned (.slice (some ⟨w.heap.size, 0, none⟩) n n) ∧ RowTo w.heap.size 112 (n * 8) (flatK K) (n * 8) w' ∧ Below w.heap.size w w' := by
 have mk := make_pks n hn
 have HR : Hid (RdPk w a n K) := h
 clear h
 go_enter Tryz.func65, Tryz.ntmps65
 go_wp2_with fail
 clear mk
 go_loopw [4] (fun i wr => ∃ k : Nat, k ≤ n ∧ i = .int .i64 k ∧ Hid (RowTo w.heap.size 112 (n * 8) (flatK K) (k * 8) wr) ∧ Hid (Below w.heap.size w wr)) (fun i _ => n - (intOf i).toNat)
 case atStart => exact ⟨0, Nat.zero_le _, rfl, ⟨_, blk_new w _, by simp [zPks, size_madeCells], fun i hi => by omega⟩, (Below.refl _ _).alloc (Nat.le_refl _) _⟩
 case round =>
  obtain ⟨k, hk, rfl, HT, HB⟩ := hrel
  by_cases hlt : k < n
  ·
   have hlt' : (k : Int) < n := by omega
   obtain ⟨g, o, ha, hc⟩ := (HR.out.up HB.out) k hlt
   subst ha
   have HC : Hid (∀ j, j < 8 → wr.cell? ⟨g, o + k * 8 + j, none⟩ = (K k).cells[j]?) := hc
   clear hc
   go_wp2_with (refine wpList_ldT rfl 158 8 _ Tryz.underlying158 rfl infoPkL (.tmp 18) rfl g (o + k * 8) rfl (K k).cells rfl HC.out ?_)
   refine (toPacket_any (K k) _).mono ?_
   rintro e w1 ⟨rfl, hb1⟩
   have HB1 : Hid (Below w.heap.size w w1) := HB.out.trans (hb1.mono HB.out.size)
   have R1 := HT.out.keep (hb1.block _ HT.out.lt)
   obtain ⟨arr, hb2, hn2, hc2⟩ := R1
   have HG : Hid (w1.heap[w.heap.size]? = some (.cells arr 112 (0, 0))) := hb2
   have HN : Hid (n * 8 ≤ arr.size ∧ ∀ i, i < k * 8 → arr[i]? = some (flatK K i)) := ⟨hn2, hc2⟩
   clear hb1 HB HT HC hb2 hn2 hc2
   go_wp2_with (refine wpList_stA rfl 112 (.tmp 21) (.tmp 20) rfl w.heap.size (k * 8) (by simp [Act.eval]) (.agg (K k).cells) rfl 8 rfl 112 arr HG.out infoPkI (by have := HN.out.1; omega) (Pkt.oneC _) ?_)
   intro W2 hP
   have HT2 : Hid (RowTo w.heap.size 112 (n * 8) (flatK K) ((k + 1) * 8) W2) := rowTo_put HN.out.1 HN.out.2 hlt rfl (fun j hj => flatK_at K k j hj) hP
   have HB2 : Hid (Below w.heap.size w W2) := HB1.out.trans (hP.to.below HB1.out.size (fun x hx => by simp at hx; omega))
   clear hP HB1 HG HN
   go_wp2_with fail
   go_roundw
   case rel => exact ⟨k + 1, by omega, by go_num, HT2, HB2⟩
   case measure => simp [intOf]; omega
  ·
   obtain rfl : k = n := by omega
   go_wp2_with fail
   go_ret
   exact ⟨rfl, HT.out, HB.out⟩
structure LaidL (w : World) (L L2 : Nat → Lng) (n k : Nat) (wr : World) : Prop where
 r : RowTo w.heap.size 118 (n * 8) (flatG L2) (k * 8) wr
 a : ∀ i, i < k → AlikeL (L i) (L2 i)
 o : ∀ i, i < k → OwnLg wr (w.heap.size + 1) (L2 i)
 d : ((List.range k).flatMap fun i => (L2 i).blks).Nodup
 b : Below w.heap.size w wr
 s : w.heap.size < wr.heap.size
theorem flatG_ext {L L' : Nat → Lng} {k i : Nat} (h : ∀ j, j < k → L' j = L j) (hi : i < k * 8) : flatG L' i = flatG L i := by
 unfold flatG
 rw [h (i / 8) (by omega)]
theorem LaidL.up {w : World} {L L2 : Nat → Lng} {n k : Nat} {wr w1 : World} (h : LaidL w L L2 n k wr) (hb : Below wr.heap.size wr w1) : LaidL w L L2 n k w1 :=
 ⟨h.r.keep (hb.block _ h.r.lt), h.a, fun i hi => (h.o i hi).up hb, h.d, h.b.trans (hb.mono h.b.size), Nat.lt_of_lt_of_le h.s hb.size⟩
theorem range_flatMap_congr {f g : Nat → List Nat} : ∀ {k : Nat}, (∀ i, i < k → f i = g i) → (List.range k).flatMap f = (List.range k).flatMap g := by
 intro k h
 induction k with
 | zero => rfl
 | succ k ih =>
  rw [List.range_succ, List.flatMap_append, List.flatMap_append, ih (fun i hi => h i (by omega))]
  simp only [List.flatMap_cons, List.flatMap_nil, List.append_nil]
  rw [h k (by omega)]
theorem LaidL.step {w : World} {L L2 : Nat → Lng} {n k : Nat} {wr w1 W : World} {l2 : Lng} {arr : Array Value} (h : LaidL w L L2 n k wr) (hlt : k < n) (hb : Below wr.heap.size wr w1) (ha : AlikeL (L k) l2) (ho : OwnLg w1 wr.heap.size l2)
  (hn : n * 8 ≤ arr.size) (hc : ∀ i, i < k * 8 → arr[i]? = some (flatG L2 i)) (hP : Put w1 W w.heap.size (lay arr (k * 8) l2.cells) 118) : LaidL w L (fun i => if i = k then l2 else L2 i) n (k + 1) W := by
 have hs := h.s
 have h1 := h.up hb
 refine ⟨?_, fun i hi => ?_, fun i hi => ?_, ?_, h1.b.trans (hP.to.below h1.b.size (fun x hx => by simp at hx; omega)), by rw [hP.size]; exact h1.s⟩
 ·
  refine rowTo_put hn (fun i hi => ?_) hlt rfl (fun j hj => ?_) hP
  ·
   rw [hc i hi, flatG_ext (L := L2) (k := k) (fun j hj => if_neg (by omega)) hi]
  ·
   rw [flatG_at _ k j hj]
   simp only [if_true]
 ·
  by_cases e : i = k
  ·
   subst e
   simp only [if_true]
   exact ha
  ·
   simp only [if_neg e]
   exact h.a i (by omega)
 ·
  by_cases e : i = k
  ·
   simp only [e, if_true]
   exact (ho.low hP.to (fun x hx => by simp at hx; omega)).mono (by omega)
  ·
   simp only [if_neg e]
   exact (h1.o i (by omega)).low hP.to (fun x hx => by simp at hx; omega)
 ·
  rw [List.range_succ, List.flatMap_append]
  simp only [List.flatMap_cons, List.flatMap_nil, List.append_nil, if_true]
  rw [range_flatMap_congr (f := fun i => (if i = k then l2 else L2 i).blks) (g := fun i => (L2 i).blks) (fun i hi => by rw [if_neg (by omega)])]
  refine nodup_app h.d ho.nd wr.heap.size (fun x hx => ?_) (fun x hx => (ho.blk x hx).1)
  simp only [List.mem_flatMap, List.mem_range] at hx
  obtain ⟨i, hi, hx⟩ := hx
  exact ((h.o i hi).blk x hx).2
set_option maxRecDepth 10000 in
set_option maxHeartbeats 1000000 in
theorem toLanes_any (a : Option Addr) (n cap : Nat) (L : Nat → Lng) (w : World) (hn : n ≤ 1048576) (hs : ∀ i, i < n → (L i).Small) (h : RdLs w a n L) (hr : ∀ i, i < n → RdLg w (L i)) :
  Calls Tryz.prog 66 #[.slice a n cap] w fun e w' => e = .returned (.slice (some ⟨w.heap.size, 0, none⟩) n n) ∧ ∃ L2, LaidL w L L2 n n w' := by
 have mk := make_lns n hn
 have HR : Hid (RdLs w a n L) := h
 have HL : Hid (∀ i, i < n → RdLg w (L i)) := hr
 have HS : Hid (∀ i, i < n → (L i).Small) := hs
 clear h hr hs
 go_enter Tryz.func66, Tryz.ntmps66
 go_wp2_with fail
 clear mk
 go_loopw [4] (fun i wr => ∃ (k : Nat) (L2 : Nat → Lng), k ≤ n ∧ i = .int .i64 k ∧ Hid (LaidL w L L2 n k wr)) (fun i _ => n - (intOf i).toNat)
 case atStart => exact ⟨0, L, Nat.zero_le _, rfl, ⟨⟨_, blk_new w _, by simp [zLns, size_madeCells], fun i hi => by omega⟩, fun i hi => by omega, fun i hi => by omega, by simp, (Below.refl _ _).alloc (Nat.le_refl _) _, by simp⟩⟩
 case round =>
  obtain ⟨k, L2, hk, rfl, HT⟩ := hrel
  by_cases hlt : k < n
  ·
   have hlt' : (k : Int) < n := by omega
   obtain ⟨g, o, ha, hc⟩ := (HR.out.up HT.out.b) k hlt
   subst ha
   have HC : Hid (∀ j, j < 8 → wr.cell? ⟨g, o + k * 8 + j, none⟩ = (L k).cells[j]?) := hc
   clear hc
   go_wp2_with (refine wpList_ldT rfl 162 8 _ Tryz.underlying162 rfl infoLgL (.tmp 18) rfl g (o + k * 8) rfl (L k).cells rfl HC.out ?_)
   refine (toLane_any (L k) _ (HS.out k hlt) ((HL.out k hlt).up HT.out.b)).mono ?_
   rintro e w1 ⟨l2, rfl, ha2, ho2, hb1⟩
   obtain ⟨arr, hb2, hn2, hc2⟩ := (HT.out.up hb1).r
   have HG : Hid (w1.heap[w.heap.size]? = some (.cells arr 118 (0, 0))) := hb2
   have HN : Hid (n * 8 ≤ arr.size ∧ ∀ i, i < k * 8 → arr[i]? = some (flatG L2 i)) := ⟨hn2, hc2⟩
   have HO : Hid (AlikeL (L k) l2 ∧ OwnLg w1 wr.heap.size l2 ∧ Below wr.heap.size wr w1) := ⟨ha2, ho2, hb1⟩
   clear hb1 HC hb2 hn2 hc2 ha2 ho2
   go_wp2_with (refine wpList_stA rfl 118 (.tmp 21) (.tmp 20) rfl w.heap.size (k * 8) (by simp [Act.eval]) (.agg l2.cells) rfl 8 rfl 118 arr HG.out infoLgI (by have := HN.out.1; omega) (Lng.oneC _) ?_)
   intro W2 hP
   have HT2 : Hid (LaidL w L (fun i => if i = k then l2 else L2 i) n (k + 1) W2) := HT.out.step hlt HO.out.2.2 HO.out.1 HO.out.2.1 HN.out.1 HN.out.2 hP
   clear hP HG HN HT HO
   go_wp2_with fail
   go_roundw
   case rel => exact ⟨k + 1, _, by omega, by go_num, HT2⟩
   case measure => simp [intOf]; omega
  ·
   obtain rfl : k = n := by omega
   go_wp2_with fail
   go_ret
   exact ⟨rfl, L2, HT.out⟩
theorem infoSgI : (Tryz.prog.info? 45).map (·.size) = some 17 := by kernel_rfl
theorem infoCfI : (Tryz.prog.info? 39).map (·.size) = some 7 := by kernel_rfl
theorem infoCn : (Tryz.prog.info? 41).map (·.size) = some 3 := by kernel_rfl
theorem infoEs : (Tryz.prog.info? 40).map (·.size) = some 1 := by kernel_rfl
theorem infoKs : (Tryz.prog.info? 42).map (·.size) = some 1 := by kernel_rfl
theorem infoLs : (Tryz.prog.info? 43).map (·.size) = some 1 := by kernel_rfl
theorem Swg.oneC (S : Swg) : S.cells.all (·.oneCell') = true := by simp [Swg.cells, Value.oneCell']
set_option maxRecDepth 10000 in
set_option maxHeartbeats 4000000 in
theorem toSwitch_any (S : Swg) (w : World) (hs : S.Small) (h : RdSg w S) :
  Calls Tryz.prog 26 #[.agg S.cells] w fun e w' => ∃ S2, e = .returned (.agg S2.cells) ∧ AlikeG S S2 ∧ OwnSg w' w.heap.size S2 ∧ Below w.heap.size w w' := by
 have HR : Hid (RdSg w S) := h
 have HS : Hid S.Small := hs
 clear h hs
 obtain ⟨W0, eW⟩ : ∃ W, (((w.alloc (.cells S.cells 32)).alloc (.cells #[.int .i64 0, .int .i64 0, .int .i64 0, .int .i64 0, .int .i64 0, .int .i64 0, .int .i64 0, .int .i64 0, .int .i64 0, .slice none 0 0, .slice none 0 0, .int .i64 0, .slice none 0 0, .slice none 0 0, .slice none 0 0, .int .i64 0, .int .i64 0] 45)).alloc (.cells #[.int .i64 0, .int .i64 0, .int .i64 0, .int .i64 0, .int .i64 0, .int .i64 0, .int .i64 0, .int .i64 0, .int .i64 0, .slice none 0 0, .slice none 0 0, .int .i64 0, .slice none 0 0, .slice none 0 0, .slice none 0 0, .int .i64 0, .int .i64 0] 45)) = W := ⟨_, rfl⟩
 have HX : Hid (Boxes w S.cells #[.int .i64 0, .int .i64 0, .int .i64 0, .int .i64 0, .int .i64 0, .int .i64 0, .int .i64 0, .int .i64 0, .int .i64 0, .slice none 0 0, .slice none 0 0, .int .i64 0, .slice none 0 0, .slice none 0 0, .slice none 0 0, .int .i64 0, .int .i64 0] #[.int .i64 0, .int .i64 0, .int .i64 0, .int .i64 0, .int .i64 0, .int .i64 0, .int .i64 0, .int .i64 0, .int .i64 0, .slice none 0 0, .slice none 0 0, .int .i64 0, .slice none 0 0, .slice none 0 0, .slice none 0 0, .int .i64 0, .int .i64 0] 32 45 W0) := by rw [← eW]; exact Boxes.start _ _ _ _ _ _
 go_enter Tryz.func26, Tryz.ntmps26
 have c0 : W0.cell? ⟨w.heap.size, 0, none⟩ = some (.int .i64 S.C.p) := blk_cell HX.out.a 0
 have c1 : W0.cell? ⟨w.heap.size, 1, none⟩ = some (.int .i64 S.C.c) := blk_cell HX.out.a 1
 have c2 : W0.cell? ⟨w.heap.size, 2, none⟩ = some (.int .i64 S.C.xo) := blk_cell HX.out.a 2
 have c3 : W0.cell? ⟨w.heap.size, 3, none⟩ = some (.int .i64 S.C.xn) := blk_cell HX.out.a 3
 have c4 : W0.cell? ⟨w.heap.size, 4, none⟩ = some (.int .i64 S.C.hd) := blk_cell HX.out.a 4
 have c5 : W0.cell? ⟨w.heap.size, 5, none⟩ = some (.int .i64 S.C.lo) := blk_cell HX.out.a 5
 have c6 : W0.cell? ⟨w.heap.size, 6, none⟩ = some (.int .i64 S.C.dl) := blk_cell HX.out.a 6
 go_wp2_with fail
 clear eW
 refine (toConfig_any S.C _).mono ?_
 rintro e wc ⟨rfl, hb⟩
 clear c0 c1 c2 c3 c4 c5 c6
 replace HX : Hid (Boxes w S.cells #[.int .i64 0, .int .i64 0, .int .i64 0, .int .i64 0, .int .i64 0, .int .i64 0, .int .i64 0, .int .i64 0, .int .i64 0, .slice none 0 0, .slice none 0 0, .int .i64 0, .slice none 0 0, .slice none 0 0, .slice none 0 0, .int .i64 0, .int .i64 0] #[.int .i64 0, .int .i64 0, .int .i64 0, .int .i64 0, .int .i64 0, .int .i64 0, .int .i64 0, .int .i64 0, .int .i64 0, .slice none 0 0, .slice none 0 0, .int .i64 0, .slice none 0 0, .slice none 0 0, .slice none 0 0, .int .i64 0, .int .i64 0] 32 45 wc) := HX.out.up hb
 have T1 : Touch [w.heap.size + 1, w.heap.size + 1 + 1] W0 wc := Touch.ofBelow hb
 clear hb
 have HC := HX.out.c
 replace HC : Hid (wc.heap[w.heap.size + 1 + 1]? = some (.cells #[.int .i64 0, .int .i64 0, .int .i64 0, .int .i64 0, .int .i64 0, .int .i64 0, .int .i64 0, .int .i64 0, .int .i64 0, .slice none 0 0, .slice none 0 0, .int .i64 0, .slice none 0 0, .slice none 0 0, .slice none 0 0, .int .i64 0, .int .i64 0] 45 (0, 0))) := HC
 go_wp2_with (refine wpList_stA rfl 39 (.tmp 7) (.tmp 6) rfl (w.heap.size + 1 + 1) 0 rfl (.agg S.C.cells) rfl 7 rfl 45 _ HC.out infoCfI (Nat.le_of_ble_eq_true rfl) (by simp [Value.cells, Value.oneCell', Rnd.cells, Cfg.cells, Cnt.cells]) ?_)
 intro W2 hP
 replace hP := hP.cast (cs' := #[.int .i64 S.C.p, .int .i64 S.C.c, .int .i64 S.C.xo, .int .i64 S.C.xn, .int .i64 S.C.hd, .int .i64 S.C.lo, .int .i64 S.C.dl, .int .i64 0, .int .i64 0, .slice none 0 0, .slice none 0 0, .int .i64 0, .slice none 0 0, .slice none 0 0, .slice none 0 0, .int .i64 0, .int .i64 0]) rfl
 replace HX : Hid (Boxes w S.cells #[.int .i64 0, .int .i64 0, .int .i64 0, .int .i64 0, .int .i64 0, .int .i64 0, .int .i64 0, .int .i64 0, .int .i64 0, .slice none 0 0, .slice none 0 0, .int .i64 0, .slice none 0 0, .slice none 0 0, .slice none 0 0, .int .i64 0, .int .i64 0] #[.int .i64 S.C.p, .int .i64 S.C.c, .int .i64 S.C.xo, .int .i64 S.C.xn, .int .i64 S.C.hd, .int .i64 S.C.lo, .int .i64 S.C.dl, .int .i64 0, .int .i64 0, .slice none 0 0, .slice none 0 0, .int .i64 0, .slice none 0 0, .slice none 0 0, .slice none 0 0, .int .i64 0, .int .i64 0] 32 45 W2) := HX.out.put hP
 have T2 : Touch [w.heap.size + 1, w.heap.size + 1 + 1] wc W2 := hP.to.mono (fun x hx => by simp at hx; simp [hx])
 clear hP HC 
 have c7 : W2.cell? ⟨w.heap.size, 7, none⟩ = some (.int .i64 S.now) := blk_cell HX.out.a 7
 have HC := HX.out.c
 replace HC : Hid (W2.heap[w.heap.size + 1 + 1]? = some (.cells #[.int .i64 S.C.p, .int .i64 S.C.c, .int .i64 S.C.xo, .int .i64 S.C.xn, .int .i64 S.C.hd, .int .i64 S.C.lo, .int .i64 S.C.dl, .int .i64 0, .int .i64 0, .slice none 0 0, .slice none 0 0, .int .i64 0, .slice none 0 0, .slice none 0 0, .slice none 0 0, .int .i64 0, .int .i64 0] 45 (0, 0))) := HC
 go_wp2_with (refine wpList_stA rfl 2 (.tmp 10) (.tmp 9) rfl (w.heap.size + 1 + 1) 7 rfl (.int .i64 S.now) rfl 1 rfl 45 _ HC.out infoI1 (Nat.le_of_ble_eq_true rfl) (by simp [Value.cells, Value.oneCell', Rnd.cells, Cfg.cells, Cnt.cells]) ?_)
 intro W3 hP
 replace hP := hP.cast (cs' := #[.int .i64 S.C.p, .int .i64 S.C.c, .int .i64 S.C.xo, .int .i64 S.C.xn, .int .i64 S.C.hd, .int .i64 S.C.lo, .int .i64 S.C.dl, .int .i64 S.now, .int .i64 0, .slice none 0 0, .slice none 0 0, .int .i64 0, .slice none 0 0, .slice none 0 0, .slice none 0 0, .int .i64 0, .int .i64 0]) rfl
 replace HX : Hid (Boxes w S.cells #[.int .i64 0, .int .i64 0, .int .i64 0, .int .i64 0, .int .i64 0, .int .i64 0, .int .i64 0, .int .i64 0, .int .i64 0, .slice none 0 0, .slice none 0 0, .int .i64 0, .slice none 0 0, .slice none 0 0, .slice none 0 0, .int .i64 0, .int .i64 0] #[.int .i64 S.C.p, .int .i64 S.C.c, .int .i64 S.C.xo, .int .i64 S.C.xn, .int .i64 S.C.hd, .int .i64 S.C.lo, .int .i64 S.C.dl, .int .i64 S.now, .int .i64 0, .slice none 0 0, .slice none 0 0, .int .i64 0, .slice none 0 0, .slice none 0 0, .slice none 0 0, .int .i64 0, .int .i64 0] 32 45 W3) := HX.out.put hP
 have T3 : Touch [w.heap.size + 1, w.heap.size + 1 + 1] W2 W3 := hP.to.mono (fun x hx => by simp at hx; simp [hx])
 clear hP HC c7
 have c8 : W3.cell? ⟨w.heap.size, 8, none⟩ = some (.int .i64 S.nx) := blk_cell HX.out.a 8
 have HC := HX.out.c
 replace HC : Hid (W3.heap[w.heap.size + 1 + 1]? = some (.cells #[.int .i64 S.C.p, .int .i64 S.C.c, .int .i64 S.C.xo, .int .i64 S.C.xn, .int .i64 S.C.hd, .int .i64 S.C.lo, .int .i64 S.C.dl, .int .i64 S.now, .int .i64 0, .slice none 0 0, .slice none 0 0, .int .i64 0, .slice none 0 0, .slice none 0 0, .slice none 0 0, .int .i64 0, .int .i64 0] 45 (0, 0))) := HC
 go_wp2_with (refine wpList_stA rfl 2 (.tmp 13) (.tmp 12) rfl (w.heap.size + 1 + 1) 8 rfl (.int .i64 S.nx) rfl 1 rfl 45 _ HC.out infoI1 (Nat.le_of_ble_eq_true rfl) (by simp [Value.cells, Value.oneCell', Rnd.cells, Cfg.cells, Cnt.cells]) ?_)
 intro W4 hP
 replace hP := hP.cast (cs' := #[.int .i64 S.C.p, .int .i64 S.C.c, .int .i64 S.C.xo, .int .i64 S.C.xn, .int .i64 S.C.hd, .int .i64 S.C.lo, .int .i64 S.C.dl, .int .i64 S.now, .int .i64 S.nx, .slice none 0 0, .slice none 0 0, .int .i64 0, .slice none 0 0, .slice none 0 0, .slice none 0 0, .int .i64 0, .int .i64 0]) rfl
 replace HX : Hid (Boxes w S.cells #[.int .i64 0, .int .i64 0, .int .i64 0, .int .i64 0, .int .i64 0, .int .i64 0, .int .i64 0, .int .i64 0, .int .i64 0, .slice none 0 0, .slice none 0 0, .int .i64 0, .slice none 0 0, .slice none 0 0, .slice none 0 0, .int .i64 0, .int .i64 0] #[.int .i64 S.C.p, .int .i64 S.C.c, .int .i64 S.C.xo, .int .i64 S.C.xn, .int .i64 S.C.hd, .int .i64 S.C.lo, .int .i64 S.C.dl, .int .i64 S.now, .int .i64 S.nx, .slice none 0 0, .slice none 0 0, .int .i64 0, .slice none 0 0, .slice none 0 0, .slice none 0 0, .int .i64 0, .int .i64 0] 32 45 W4) := HX.out.put hP
 have T4 : Touch [w.heap.size + 1, w.heap.size + 1 + 1] W3 W4 := hP.to.mono (fun x hx => by simp at hx; simp [hx])
 clear hP HC c8
 have c9 : W4.cell? ⟨w.heap.size, 9, none⟩ = some (.slice S.aE S.nE S.cE) := blk_cell HX.out.a 9
 go_wp2_with fail
 refine (toEnts_any S.aE S.nE S.cE S.e _ HS.out.e (HR.out.e.up HX.out.bel)).mono ?_
 rintro e we ⟨rfl, rE, hb⟩
 clear c9
 have sE := HX.out.sz
 replace HX : Hid (Boxes w S.cells #[.int .i64 0, .int .i64 0, .int .i64 0, .int .i64 0, .int .i64 0, .int .i64 0, .int .i64 0, .int .i64 0, .int .i64 0, .slice none 0 0, .slice none 0 0, .int .i64 0, .slice none 0 0, .slice none 0 0, .slice none 0 0, .int .i64 0, .int .i64 0] #[.int .i64 S.C.p, .int .i64 S.C.c, .int .i64 S.C.xo, .int .i64 S.C.xn, .int .i64 S.C.hd, .int .i64 S.C.lo, .int .i64 S.C.dl, .int .i64 S.now, .int .i64 S.nx, .slice none 0 0, .slice none 0 0, .int .i64 0, .slice none 0 0, .slice none 0 0, .slice none 0 0, .int .i64 0, .int .i64 0] 32 45 we) := HX.out.up hb
 have T5 : Touch [w.heap.size + 1, w.heap.size + 1 + 1] W4 we := Touch.ofBelow hb
 clear hb
 have HC := HX.out.c
 replace HC : Hid (we.heap[w.heap.size + 1 + 1]? = some (.cells #[.int .i64 S.C.p, .int .i64 S.C.c, .int .i64 S.C.xo, .int .i64 S.C.xn, .int .i64 S.C.hd, .int .i64 S.C.lo, .int .i64 S.C.dl, .int .i64 S.now, .int .i64 S.nx, .slice none 0 0, .slice none 0 0, .int .i64 0, .slice none 0 0, .slice none 0 0, .slice none 0 0, .int .i64 0, .int .i64 0] 45 (0, 0))) := HC
 go_wp2_with (refine wpList_stA rfl 40 (.tmp 17) (.tmp 16) rfl (w.heap.size + 1 + 1) 9 rfl (.slice (some ⟨W4.heap.size, 0, none⟩) S.nE S.nE) rfl 1 rfl 45 _ HC.out infoEs (Nat.le_of_ble_eq_true rfl) (by simp [Value.cells, Value.oneCell', Rnd.cells, Cfg.cells, Cnt.cells]) ?_)
 intro W6 hP
 replace hP := hP.cast (cs' := #[.int .i64 S.C.p, .int .i64 S.C.c, .int .i64 S.C.xo, .int .i64 S.C.xn, .int .i64 S.C.hd, .int .i64 S.C.lo, .int .i64 S.C.dl, .int .i64 S.now, .int .i64 S.nx, .slice (some ⟨W4.heap.size, 0, none⟩) S.nE S.nE, .slice none 0 0, .int .i64 0, .slice none 0 0, .slice none 0 0, .slice none 0 0, .int .i64 0, .int .i64 0]) rfl
 replace HX : Hid (Boxes w S.cells #[.int .i64 0, .int .i64 0, .int .i64 0, .int .i64 0, .int .i64 0, .int .i64 0, .int .i64 0, .int .i64 0, .int .i64 0, .slice none 0 0, .slice none 0 0, .int .i64 0, .slice none 0 0, .slice none 0 0, .slice none 0 0, .int .i64 0, .int .i64 0] #[.int .i64 S.C.p, .int .i64 S.C.c, .int .i64 S.C.xo, .int .i64 S.C.xn, .int .i64 S.C.hd, .int .i64 S.C.lo, .int .i64 S.C.dl, .int .i64 S.now, .int .i64 S.nx, .slice (some ⟨W4.heap.size, 0, none⟩) S.nE S.nE, .slice none 0 0, .int .i64 0, .slice none 0 0, .slice none 0 0, .slice none 0 0, .int .i64 0, .int .i64 0] 32 45 W6) := HX.out.put hP
 have T6 : Touch [w.heap.size + 1, w.heap.size + 1 + 1] we W6 := hP.to.mono (fun x hx => by simp at hx; simp [hx])
 clear hP HC 
 have c10 : W6.cell? ⟨w.heap.size, 10, none⟩ = some (.slice S.N.aU S.N.nU S.N.cU) := blk_cell HX.out.a 10
 have c11 : W6.cell? ⟨w.heap.size, 11, none⟩ = some (.int .i64 S.N.lo) := blk_cell HX.out.a 11
 have c12 : W6.cell? ⟨w.heap.size, 12, none⟩ = some (.slice S.N.aP S.N.nP S.N.cP) := blk_cell HX.out.a 12
 go_wp2_with fail
 refine (toCounts_any S.N _ HS.out.n (HR.out.n.up HX.out.bel)).mono ?_
 rintro e wn ⟨gU, gP, rfl, rN, hb⟩
 clear c10 c11 c12
 have sN := HX.out.sz
 replace HX : Hid (Boxes w S.cells #[.int .i64 0, .int .i64 0, .int .i64 0, .int .i64 0, .int .i64 0, .int .i64 0, .int .i64 0, .int .i64 0, .int .i64 0, .slice none 0 0, .slice none 0 0, .int .i64 0, .slice none 0 0, .slice none 0 0, .slice none 0 0, .int .i64 0, .int .i64 0] #[.int .i64 S.C.p, .int .i64 S.C.c, .int .i64 S.C.xo, .int .i64 S.C.xn, .int .i64 S.C.hd, .int .i64 S.C.lo, .int .i64 S.C.dl, .int .i64 S.now, .int .i64 S.nx, .slice (some ⟨W4.heap.size, 0, none⟩) S.nE S.nE, .slice none 0 0, .int .i64 0, .slice none 0 0, .slice none 0 0, .slice none 0 0, .int .i64 0, .int .i64 0] 32 45 wn) := HX.out.up hb
 have T7 : Touch [w.heap.size + 1, w.heap.size + 1 + 1] W6 wn := Touch.ofBelow hb
 clear hb
 have HC := HX.out.c
 replace HC : Hid (wn.heap[w.heap.size + 1 + 1]? = some (.cells #[.int .i64 S.C.p, .int .i64 S.C.c, .int .i64 S.C.xo, .int .i64 S.C.xn, .int .i64 S.C.hd, .int .i64 S.C.lo, .int .i64 S.C.dl, .int .i64 S.now, .int .i64 S.nx, .slice (some ⟨W4.heap.size, 0, none⟩) S.nE S.nE, .slice none 0 0, .int .i64 0, .slice none 0 0, .slice none 0 0, .slice none 0 0, .int .i64 0, .int .i64 0] 45 (0, 0))) := HC
 go_wp2_with (refine wpList_stA rfl 41 (.tmp 21) (.tmp 20) rfl (w.heap.size + 1 + 1) 10 rfl (.agg (S.N.copy gU gP).cells) rfl 3 rfl 45 _ HC.out infoCn (Nat.le_of_ble_eq_true rfl) (by simp [Value.cells, Value.oneCell', Rnd.cells, Cfg.cells, Cnt.cells]) ?_)
 intro W8 hP
 replace hP := hP.cast (cs' := #[.int .i64 S.C.p, .int .i64 S.C.c, .int .i64 S.C.xo, .int .i64 S.C.xn, .int .i64 S.C.hd, .int .i64 S.C.lo, .int .i64 S.C.dl, .int .i64 S.now, .int .i64 S.nx, .slice (some ⟨W4.heap.size, 0, none⟩) S.nE S.nE, .slice (some ⟨gU, 0, none⟩) S.N.nU S.N.nU, .int .i64 S.N.lo, .slice (some ⟨gP, 0, none⟩) S.N.nP S.N.nP, .slice none 0 0, .slice none 0 0, .int .i64 0, .int .i64 0]) rfl
 replace HX : Hid (Boxes w S.cells #[.int .i64 0, .int .i64 0, .int .i64 0, .int .i64 0, .int .i64 0, .int .i64 0, .int .i64 0, .int .i64 0, .int .i64 0, .slice none 0 0, .slice none 0 0, .int .i64 0, .slice none 0 0, .slice none 0 0, .slice none 0 0, .int .i64 0, .int .i64 0] #[.int .i64 S.C.p, .int .i64 S.C.c, .int .i64 S.C.xo, .int .i64 S.C.xn, .int .i64 S.C.hd, .int .i64 S.C.lo, .int .i64 S.C.dl, .int .i64 S.now, .int .i64 S.nx, .slice (some ⟨W4.heap.size, 0, none⟩) S.nE S.nE, .slice (some ⟨gU, 0, none⟩) S.N.nU S.N.nU, .int .i64 S.N.lo, .slice (some ⟨gP, 0, none⟩) S.N.nP S.N.nP, .slice none 0 0, .slice none 0 0, .int .i64 0, .int .i64 0] 32 45 W8) := HX.out.put hP
 have T8 : Touch [w.heap.size + 1, w.heap.size + 1 + 1] wn W8 := hP.to.mono (fun x hx => by simp at hx; simp [hx])
 clear hP HC 
 have c13 : W8.cell? ⟨w.heap.size, 13, none⟩ = some (.slice S.aK S.nK S.cK) := blk_cell HX.out.a 13
 go_wp2_with fail
 refine (toPackets_any S.aK S.nK S.cK S.K _ HS.out.k (HR.out.k.up HX.out.bel)).mono ?_
 rintro e wk ⟨rfl, rK, hb⟩
 clear c13
 have sK := HX.out.sz
 replace HX : Hid (Boxes w S.cells #[.int .i64 0, .int .i64 0, .int .i64 0, .int .i64 0, .int .i64 0, .int .i64 0, .int .i64 0, .int .i64 0, .int .i64 0, .slice none 0 0, .slice none 0 0, .int .i64 0, .slice none 0 0, .slice none 0 0, .slice none 0 0, .int .i64 0, .int .i64 0] #[.int .i64 S.C.p, .int .i64 S.C.c, .int .i64 S.C.xo, .int .i64 S.C.xn, .int .i64 S.C.hd, .int .i64 S.C.lo, .int .i64 S.C.dl, .int .i64 S.now, .int .i64 S.nx, .slice (some ⟨W4.heap.size, 0, none⟩) S.nE S.nE, .slice (some ⟨gU, 0, none⟩) S.N.nU S.N.nU, .int .i64 S.N.lo, .slice (some ⟨gP, 0, none⟩) S.N.nP S.N.nP, .slice none 0 0, .slice none 0 0, .int .i64 0, .int .i64 0] 32 45 wk) := HX.out.up hb
 have T9 : Touch [w.heap.size + 1, w.heap.size + 1 + 1] W8 wk := Touch.ofBelow hb
 clear hb
 have HC := HX.out.c
 replace HC : Hid (wk.heap[w.heap.size + 1 + 1]? = some (.cells #[.int .i64 S.C.p, .int .i64 S.C.c, .int .i64 S.C.xo, .int .i64 S.C.xn, .int .i64 S.C.hd, .int .i64 S.C.lo, .int .i64 S.C.dl, .int .i64 S.now, .int .i64 S.nx, .slice (some ⟨W4.heap.size, 0, none⟩) S.nE S.nE, .slice (some ⟨gU, 0, none⟩) S.N.nU S.N.nU, .int .i64 S.N.lo, .slice (some ⟨gP, 0, none⟩) S.N.nP S.N.nP, .slice none 0 0, .slice none 0 0, .int .i64 0, .int .i64 0] 45 (0, 0))) := HC
 go_wp2_with (refine wpList_stA rfl 42 (.tmp 25) (.tmp 24) rfl (w.heap.size + 1 + 1) 13 rfl (.slice (some ⟨W8.heap.size, 0, none⟩) S.nK S.nK) rfl 1 rfl 45 _ HC.out infoKs (Nat.le_of_ble_eq_true rfl) (by simp [Value.cells, Value.oneCell', Rnd.cells, Cfg.cells, Cnt.cells]) ?_)
 intro W10 hP
 replace hP := hP.cast (cs' := #[.int .i64 S.C.p, .int .i64 S.C.c, .int .i64 S.C.xo, .int .i64 S.C.xn, .int .i64 S.C.hd, .int .i64 S.C.lo, .int .i64 S.C.dl, .int .i64 S.now, .int .i64 S.nx, .slice (some ⟨W4.heap.size, 0, none⟩) S.nE S.nE, .slice (some ⟨gU, 0, none⟩) S.N.nU S.N.nU, .int .i64 S.N.lo, .slice (some ⟨gP, 0, none⟩) S.N.nP S.N.nP, .slice (some ⟨W8.heap.size, 0, none⟩) S.nK S.nK, .slice none 0 0, .int .i64 0, .int .i64 0]) rfl
 replace HX : Hid (Boxes w S.cells #[.int .i64 0, .int .i64 0, .int .i64 0, .int .i64 0, .int .i64 0, .int .i64 0, .int .i64 0, .int .i64 0, .int .i64 0, .slice none 0 0, .slice none 0 0, .int .i64 0, .slice none 0 0, .slice none 0 0, .slice none 0 0, .int .i64 0, .int .i64 0] #[.int .i64 S.C.p, .int .i64 S.C.c, .int .i64 S.C.xo, .int .i64 S.C.xn, .int .i64 S.C.hd, .int .i64 S.C.lo, .int .i64 S.C.dl, .int .i64 S.now, .int .i64 S.nx, .slice (some ⟨W4.heap.size, 0, none⟩) S.nE S.nE, .slice (some ⟨gU, 0, none⟩) S.N.nU S.N.nU, .int .i64 S.N.lo, .slice (some ⟨gP, 0, none⟩) S.N.nP S.N.nP, .slice (some ⟨W8.heap.size, 0, none⟩) S.nK S.nK, .slice none 0 0, .int .i64 0, .int .i64 0] 32 45 W10) := HX.out.put hP
 have T10 : Touch [w.heap.size + 1, w.heap.size + 1 + 1] wk W10 := hP.to.mono (fun x hx => by simp at hx; simp [hx])
 clear hP HC 
 have c14 : W10.cell? ⟨w.heap.size, 14, none⟩ = some (.slice S.aL S.nL S.cL) := blk_cell HX.out.a 14
 go_wp2_with fail
 refine (toLanes_any S.aL S.nL S.cL S.L _ HS.out.l HS.out.ls (HR.out.l.up HX.out.bel) (fun i hi => (HR.out.ls i hi).up HX.out.bel)).mono ?_
 rintro e wl ⟨rfl, L2, rL⟩
 clear c14
 have sL := HX.out.sz
 have hb : Below W10.heap.size W10 wl := rL.b
 replace HX : Hid (Boxes w S.cells #[.int .i64 0, .int .i64 0, .int .i64 0, .int .i64 0, .int .i64 0, .int .i64 0, .int .i64 0, .int .i64 0, .int .i64 0, .slice none 0 0, .slice none 0 0, .int .i64 0, .slice none 0 0, .slice none 0 0, .slice none 0 0, .int .i64 0, .int .i64 0] #[.int .i64 S.C.p, .int .i64 S.C.c, .int .i64 S.C.xo, .int .i64 S.C.xn, .int .i64 S.C.hd, .int .i64 S.C.lo, .int .i64 S.C.dl, .int .i64 S.now, .int .i64 S.nx, .slice (some ⟨W4.heap.size, 0, none⟩) S.nE S.nE, .slice (some ⟨gU, 0, none⟩) S.N.nU S.N.nU, .int .i64 S.N.lo, .slice (some ⟨gP, 0, none⟩) S.N.nP S.N.nP, .slice (some ⟨W8.heap.size, 0, none⟩) S.nK S.nK, .slice none 0 0, .int .i64 0, .int .i64 0] 32 45 wl) := HX.out.up hb
 have T11 : Touch [w.heap.size + 1, w.heap.size + 1 + 1] W10 wl := Touch.ofBelow hb
 clear hb
 have HC := HX.out.c
 replace HC : Hid (wl.heap[w.heap.size + 1 + 1]? = some (.cells #[.int .i64 S.C.p, .int .i64 S.C.c, .int .i64 S.C.xo, .int .i64 S.C.xn, .int .i64 S.C.hd, .int .i64 S.C.lo, .int .i64 S.C.dl, .int .i64 S.now, .int .i64 S.nx, .slice (some ⟨W4.heap.size, 0, none⟩) S.nE S.nE, .slice (some ⟨gU, 0, none⟩) S.N.nU S.N.nU, .int .i64 S.N.lo, .slice (some ⟨gP, 0, none⟩) S.N.nP S.N.nP, .slice (some ⟨W8.heap.size, 0, none⟩) S.nK S.nK, .slice none 0 0, .int .i64 0, .int .i64 0] 45 (0, 0))) := HC
 go_wp2_with (refine wpList_stA rfl 43 (.tmp 29) (.tmp 28) rfl (w.heap.size + 1 + 1) 14 rfl (.slice (some ⟨W10.heap.size, 0, none⟩) S.nL S.nL) rfl 1 rfl 45 _ HC.out infoLs (Nat.le_of_ble_eq_true rfl) (by simp [Value.cells, Value.oneCell', Rnd.cells, Cfg.cells, Cnt.cells]) ?_)
 intro W12 hP
 replace hP := hP.cast (cs' := #[.int .i64 S.C.p, .int .i64 S.C.c, .int .i64 S.C.xo, .int .i64 S.C.xn, .int .i64 S.C.hd, .int .i64 S.C.lo, .int .i64 S.C.dl, .int .i64 S.now, .int .i64 S.nx, .slice (some ⟨W4.heap.size, 0, none⟩) S.nE S.nE, .slice (some ⟨gU, 0, none⟩) S.N.nU S.N.nU, .int .i64 S.N.lo, .slice (some ⟨gP, 0, none⟩) S.N.nP S.N.nP, .slice (some ⟨W8.heap.size, 0, none⟩) S.nK S.nK, .slice (some ⟨W10.heap.size, 0, none⟩) S.nL S.nL, .int .i64 0, .int .i64 0]) rfl
 replace HX : Hid (Boxes w S.cells #[.int .i64 0, .int .i64 0, .int .i64 0, .int .i64 0, .int .i64 0, .int .i64 0, .int .i64 0, .int .i64 0, .int .i64 0, .slice none 0 0, .slice none 0 0, .int .i64 0, .slice none 0 0, .slice none 0 0, .slice none 0 0, .int .i64 0, .int .i64 0] #[.int .i64 S.C.p, .int .i64 S.C.c, .int .i64 S.C.xo, .int .i64 S.C.xn, .int .i64 S.C.hd, .int .i64 S.C.lo, .int .i64 S.C.dl, .int .i64 S.now, .int .i64 S.nx, .slice (some ⟨W4.heap.size, 0, none⟩) S.nE S.nE, .slice (some ⟨gU, 0, none⟩) S.N.nU S.N.nU, .int .i64 S.N.lo, .slice (some ⟨gP, 0, none⟩) S.N.nP S.N.nP, .slice (some ⟨W8.heap.size, 0, none⟩) S.nK S.nK, .slice (some ⟨W10.heap.size, 0, none⟩) S.nL S.nL, .int .i64 0, .int .i64 0] 32 45 W12) := HX.out.put hP
 have T12 : Touch [w.heap.size + 1, w.heap.size + 1 + 1] wl W12 := hP.to.mono (fun x hx => by simp at hx; simp [hx])
 clear hP HC 
 have c15 : W12.cell? ⟨w.heap.size, 15, none⟩ = some (.int .i64 S.dr) := blk_cell HX.out.a 15
 have HC := HX.out.c
 replace HC : Hid (W12.heap[w.heap.size + 1 + 1]? = some (.cells #[.int .i64 S.C.p, .int .i64 S.C.c, .int .i64 S.C.xo, .int .i64 S.C.xn, .int .i64 S.C.hd, .int .i64 S.C.lo, .int .i64 S.C.dl, .int .i64 S.now, .int .i64 S.nx, .slice (some ⟨W4.heap.size, 0, none⟩) S.nE S.nE, .slice (some ⟨gU, 0, none⟩) S.N.nU S.N.nU, .int .i64 S.N.lo, .slice (some ⟨gP, 0, none⟩) S.N.nP S.N.nP, .slice (some ⟨W8.heap.size, 0, none⟩) S.nK S.nK, .slice (some ⟨W10.heap.size, 0, none⟩) S.nL S.nL, .int .i64 0, .int .i64 0] 45 (0, 0))) := HC
 go_wp2_with (refine wpList_stA rfl 2 (.tmp 32) (.tmp 31) rfl (w.heap.size + 1 + 1) 15 rfl (.int .i64 S.dr) rfl 1 rfl 45 _ HC.out infoI1 (Nat.le_of_ble_eq_true rfl) (by simp [Value.cells, Value.oneCell', Rnd.cells, Cfg.cells, Cnt.cells]) ?_)
 intro W13 hP
 replace hP := hP.cast (cs' := #[.int .i64 S.C.p, .int .i64 S.C.c, .int .i64 S.C.xo, .int .i64 S.C.xn, .int .i64 S.C.hd, .int .i64 S.C.lo, .int .i64 S.C.dl, .int .i64 S.now, .int .i64 S.nx, .slice (some ⟨W4.heap.size, 0, none⟩) S.nE S.nE, .slice (some ⟨gU, 0, none⟩) S.N.nU S.N.nU, .int .i64 S.N.lo, .slice (some ⟨gP, 0, none⟩) S.N.nP S.N.nP, .slice (some ⟨W8.heap.size, 0, none⟩) S.nK S.nK, .slice (some ⟨W10.heap.size, 0, none⟩) S.nL S.nL, .int .i64 S.dr, .int .i64 0]) rfl
 replace HX : Hid (Boxes w S.cells #[.int .i64 0, .int .i64 0, .int .i64 0, .int .i64 0, .int .i64 0, .int .i64 0, .int .i64 0, .int .i64 0, .int .i64 0, .slice none 0 0, .slice none 0 0, .int .i64 0, .slice none 0 0, .slice none 0 0, .slice none 0 0, .int .i64 0, .int .i64 0] #[.int .i64 S.C.p, .int .i64 S.C.c, .int .i64 S.C.xo, .int .i64 S.C.xn, .int .i64 S.C.hd, .int .i64 S.C.lo, .int .i64 S.C.dl, .int .i64 S.now, .int .i64 S.nx, .slice (some ⟨W4.heap.size, 0, none⟩) S.nE S.nE, .slice (some ⟨gU, 0, none⟩) S.N.nU S.N.nU, .int .i64 S.N.lo, .slice (some ⟨gP, 0, none⟩) S.N.nP S.N.nP, .slice (some ⟨W8.heap.size, 0, none⟩) S.nK S.nK, .slice (some ⟨W10.heap.size, 0, none⟩) S.nL S.nL, .int .i64 S.dr, .int .i64 0] 32 45 W13) := HX.out.put hP
 have T13 : Touch [w.heap.size + 1, w.heap.size + 1 + 1] W12 W13 := hP.to.mono (fun x hx => by simp at hx; simp [hx])
 clear hP HC c15
 have c16 : W13.cell? ⟨w.heap.size, 16, none⟩ = some (.int .i64 S.lst) := blk_cell HX.out.a 16
 have HC := HX.out.c
 replace HC : Hid (W13.heap[w.heap.size + 1 + 1]? = some (.cells #[.int .i64 S.C.p, .int .i64 S.C.c, .int .i64 S.C.xo, .int .i64 S.C.xn, .int .i64 S.C.hd, .int .i64 S.C.lo, .int .i64 S.C.dl, .int .i64 S.now, .int .i64 S.nx, .slice (some ⟨W4.heap.size, 0, none⟩) S.nE S.nE, .slice (some ⟨gU, 0, none⟩) S.N.nU S.N.nU, .int .i64 S.N.lo, .slice (some ⟨gP, 0, none⟩) S.N.nP S.N.nP, .slice (some ⟨W8.heap.size, 0, none⟩) S.nK S.nK, .slice (some ⟨W10.heap.size, 0, none⟩) S.nL S.nL, .int .i64 S.dr, .int .i64 0] 45 (0, 0))) := HC
 go_wp2_with (refine wpList_stA rfl 2 (.tmp 35) (.tmp 34) rfl (w.heap.size + 1 + 1) 16 rfl (.int .i64 S.lst) rfl 1 rfl 45 _ HC.out infoI1 (Nat.le_of_ble_eq_true rfl) (by simp [Value.cells, Value.oneCell', Rnd.cells, Cfg.cells, Cnt.cells]) ?_)
 intro W14 hP
 replace hP := hP.cast (cs' := #[.int .i64 S.C.p, .int .i64 S.C.c, .int .i64 S.C.xo, .int .i64 S.C.xn, .int .i64 S.C.hd, .int .i64 S.C.lo, .int .i64 S.C.dl, .int .i64 S.now, .int .i64 S.nx, .slice (some ⟨W4.heap.size, 0, none⟩) S.nE S.nE, .slice (some ⟨gU, 0, none⟩) S.N.nU S.N.nU, .int .i64 S.N.lo, .slice (some ⟨gP, 0, none⟩) S.N.nP S.N.nP, .slice (some ⟨W8.heap.size, 0, none⟩) S.nK S.nK, .slice (some ⟨W10.heap.size, 0, none⟩) S.nL S.nL, .int .i64 S.dr, .int .i64 S.lst]) rfl
 replace HX : Hid (Boxes w S.cells #[.int .i64 0, .int .i64 0, .int .i64 0, .int .i64 0, .int .i64 0, .int .i64 0, .int .i64 0, .int .i64 0, .int .i64 0, .slice none 0 0, .slice none 0 0, .int .i64 0, .slice none 0 0, .slice none 0 0, .slice none 0 0, .int .i64 0, .int .i64 0] #[.int .i64 S.C.p, .int .i64 S.C.c, .int .i64 S.C.xo, .int .i64 S.C.xn, .int .i64 S.C.hd, .int .i64 S.C.lo, .int .i64 S.C.dl, .int .i64 S.now, .int .i64 S.nx, .slice (some ⟨W4.heap.size, 0, none⟩) S.nE S.nE, .slice (some ⟨gU, 0, none⟩) S.N.nU S.N.nU, .int .i64 S.N.lo, .slice (some ⟨gP, 0, none⟩) S.N.nP S.N.nP, .slice (some ⟨W8.heap.size, 0, none⟩) S.nK S.nK, .slice (some ⟨W10.heap.size, 0, none⟩) S.nL S.nL, .int .i64 S.dr, .int .i64 S.lst] 32 45 W14) := HX.out.put hP
 have T14 : Touch [w.heap.size + 1, w.heap.size + 1 + 1] W13 W14 := hP.to.mono (fun x hx => by simp at hx; simp [hx])
 clear hP HC c16
 obtain ⟨S2, e2⟩ : ∃ S2, (⟨S.C, S.now, S.nx, some ⟨W4.heap.size, 0, none⟩, S.nE, S.nE, S.e, S.N.copy gU gP, some ⟨W8.heap.size, 0, none⟩, S.nK, S.nK, S.K, some ⟨W10.heap.size, 0, none⟩, S.nL, S.nL, L2, S.dr, S.lst⟩ : Swg) = S2 := ⟨_, rfl⟩
 have e3 : #[.int .i64 S.C.p, .int .i64 S.C.c, .int .i64 S.C.xo, .int .i64 S.C.xn, .int .i64 S.C.hd, .int .i64 S.C.lo, .int .i64 S.C.dl, .int .i64 S.now, .int .i64 S.nx, .slice (some ⟨W4.heap.size, 0, none⟩) S.nE S.nE, .slice (some ⟨gU, 0, none⟩) S.N.nU S.N.nU, .int .i64 S.N.lo, .slice (some ⟨gP, 0, none⟩) S.N.nP S.N.nP, .slice (some ⟨W8.heap.size, 0, none⟩) S.nK S.nK, .slice (some ⟨W10.heap.size, 0, none⟩) S.nL S.nL, .int .i64 S.dr, .int .i64 S.lst] = S2.cells := by rw [← e2]; rfl
 rw [e3] at HX
 clear e3
 have HC : Hid (W14.heap[w.heap.size + 1 + 1]? = some (.cells S2.cells 45 (0, 0))) := HX.out.c
 have HD : Hid (W14.heap[w.heap.size + 1]? = some (.cells #[.int .i64 0, .int .i64 0, .int .i64 0, .int .i64 0, .int .i64 0, .int .i64 0, .int .i64 0, .int .i64 0, .int .i64 0, .slice none 0 0, .slice none 0 0, .int .i64 0, .slice none 0 0, .slice none 0 0, .slice none 0 0, .int .i64 0, .int .i64 0] 45 (0, 0))) := HX.out.b
 have HL : Hid (∀ j, j < 17 → W14.cell? ⟨w.heap.size + 1 + 1, 0 + j, none⟩ = (S2.cells)[j]?) := fun j _ => by rw [Nat.zero_add]; exact blk_cell HC.out j
 go_wp2_with (first | refine wpList_ldT rfl 45 17 _ Tryz.underlying45 rfl infoSgI (.tmp 3) rfl (w.heap.size + 1 + 1) 0 rfl (S2.cells) rfl HL.out ?_ | refine wpList_stA rfl 45 (.tmp 2) (.tmp 36) rfl (w.heap.size + 1) 0 rfl (.agg S2.cells) rfl 17 rfl 45 _ HD.out infoSgI (Nat.le_of_ble_eq_true rfl) (Swg.oneC _) ?_)
 intro W15 hP
 replace hP : Put W14 W15 (w.heap.size + 1) S2.cells 45 := hP.cast rfl
 have T15 : Touch [w.heap.size + 1, w.heap.size + 1 + 1] W14 W15 := hP.to.mono (fun x hx => by simp at hx; simp [hx])
 have HK : Hid (W15.heap[w.heap.size + 1]? = some (.cells S2.cells 45 (0, 0))) := hP.blk
 have HB : Hid (Below w.heap.size w W15) := (HX.out.out hP).bel
 clear hP HC HD HL
 go_wp2_with fail
 have hlow : ∀ x ∈ [w.heap.size + 1, w.heap.size + 1 + 1], x < w.heap.size + 1 + 1 + 1 := by intro x hx; simp at hx; omega
 have tE := (((((((((T6.trans T7).trans T8).trans T9).trans T10).trans T11).trans T12).trans T13).trans T14).trans T15)
 have tN := (((((((T8.trans T9).trans T10).trans T11).trans T12).trans T13).trans T14).trans T15)
 have tK := (((((T10.trans T11).trans T12).trans T13).trans T14).trans T15)
 have tL := (((T12.trans T13).trans T14).trans T15)
 have hz1 := T8.size
 have hz2 := T9.size
 have hz3 := T10.size
 refine bodyPost_ret (res_cellT Tryz.results26 17 _ Tryz.underlying45 rfl infoSgI _ _ (w.heap.size + 1) S2.cells rfl 45 HK.out rfl) rfl ⟨S2, rfl, ?_, ?_, HB.out⟩
 ·
  rw [← e2]
  exact ⟨rfl, rfl, rfl, rfl, rfl, copy_alike _ _ _, rfl, rfl, rfl, rL.a, rfl, rfl⟩
 ·
  rw [← e2]
  refine ⟨((VT.of (Nat.le_refl _) rE).low tE (fun x hx => by have := hlow x hx; omega)).mono (by omega), ((rN.u).low tN (fun x hx => by have := hlow x hx; omega)).mono (by omega), ((rN.p).low tN (fun x hx => by have := hlow x hx; omega)).mono (by omega), ((VT.of (Nat.le_refl _) rK).low tK (fun x hx => by have := hlow x hx; omega)).mono (by omega), ((VT.of (Nat.le_refl _) rL.r).low tL (fun x hx => by have := hlow x hx; omega)).mono (by omega), fun i hi => ((rL.o i hi).low tL (fun x hx => by have := hlow x hx; omega)).mono (by omega), ?_⟩
  refine nodup_app (blkV_nodup _ _) rL.d wn.heap.size (fun x hx => (rN.u.blk x hx).2) (fun x hx => ?_)
  simp only [List.mem_flatMap, List.mem_range] at hx
  obtain ⟨i, hi, hx⟩ := hx
  have := ((rL.o i hi).blk x hx).1
  omega
end Go.Proofs.YtfkpncopkgidfaaGreat
