import Derived.Test.YtlipielghpoaoaaGreatProg
import Derived.Test.YtlipielghpoaoaaGreatT19
import Derived.Shelf.LaysM
import Derived.Shelf.Strconv.Clone
namespace Go.Proofs.YtlipielghpoaoaaGreat
open Go.RowKit
set_option linter.unusedVariables false
set_option linter.unusedSimpArgs false
theorem res_cellT {fn : Func} {i : Tmp} {ty : TypeId} (h : fn.results = #[.cell i ty]) (n : Nat) (d : TypeDesc) (hu : Tryz.prog.underlying ty = some d) (hd : d.isRow = true) (hn : (Tryz.prog.info? ty).map (·.size) = some n) (tmps : Array Value) (w : World) (g : Nat) (cs : Array Value) (hi : tmps[i]?.getD undef = .pointer (some ⟨g, 0, none⟩)) (t : TypeId) (hk : w.heap[g]? = some (.cells cs t (0, 0))) (hs : cs.size = n) :
  (results fn tmps).run Tryz.prog w = .ok (.agg cs) w := by
 have := run_loadVar_mid (P := Tryz.prog) w g 0 ty cs.toList d (fun j v hv => by
  rw [Nat.zero_add, blk_cell hk, ← Array.getElem?_toList]; exact hv) hu hd (by rw [hn, Array.length_toList, hs])
 rw [Array.toArray_toList] at this
 simp [results, h, hi, asAddr, this]
structure Boxes (w : World) (A B C : Array Value) (tA tB : TypeId) (W : World) : Prop where
 a : W.heap[w.heap.size]? = some (.cells A tA (0, 0))
 b : W.heap[w.heap.size + 1]? = some (.cells B tB (0, 0))
 c : W.heap[w.heap.size + 1 + 1]? = some (.cells C tB (0, 0))
 bel : Below w.heap.size w W
 sz : w.heap.size + 1 + 1 + 1 ≤ W.heap.size
theorem Boxes.start (w : World) (A B C : Array Value) (tA tB : TypeId) : Boxes w A B C tA tB (((w.alloc (.cells A tA)).alloc (.cells B tB)).alloc (.cells C tB)) := by
 obtain ⟨h1, h2, h3, h4, h5⟩ := three_laidR (w := w) (A := .cells A tA) (B := .cells B tB) (C := .cells C tB) (Below.refl _ _)
 exact ⟨h1, h2, h3, h4, h5⟩
theorem Boxes.up {w W W' : World} {A B C : Array Value} {tA tB : TypeId} (h : Boxes w A B C tA tB W) (hb : Below W.heap.size W W') : Boxes w A B C tA tB W' :=
 ⟨(hb.block _ (blk_lt h.a)).trans h.a, (hb.block _ (blk_lt h.b)).trans h.b, (hb.block _ (blk_lt h.c)).trans h.c, h.bel.trans (hb.mono h.bel.size), Nat.le_trans h.sz hb.size⟩
theorem Boxes.put {w W W' : World} {A B C C' : Array Value} {tA tB : TypeId} (h : Boxes w A B C tA tB W) (hp : Put W W' (w.heap.size + 1 + 1) C' tB) : Boxes w A B C' tA tB W' :=
 ⟨(hp.to.block _ (blk_lt h.a) (by simp; omega)).trans h.a, (hp.to.block _ (blk_lt h.b) (by simp)).trans h.b, hp.blk, h.bel.trans (hp.to.below h.bel.size (fun x hx => by simp at hx; omega)), by rw [hp.size]; exact h.sz⟩
theorem Boxes.out {w W W' : World} {A B C B' : Array Value} {tA tB : TypeId} (h : Boxes w A B C tA tB W) (hp : Put W W' (w.heap.size + 1) B' tB) : Boxes w A B' C tA tB W' :=
 ⟨(hp.to.block _ (blk_lt h.a) (by simp)).trans h.a, hp.blk, (hp.to.block _ (blk_lt h.c) (by simp)).trans h.c, h.bel.trans (hp.to.below h.bel.size (fun x hx => by simp at hx; omega)), by rw [hp.size]; exact h.sz⟩
theorem infoPkI : (Tryz.prog.info? 60).map (·.size) = some 8 := by kernel_rfl
theorem infoLgI : (Tryz.prog.info? 67).map (·.size) = some 8 := by kernel_rfl
theorem infoFrI : (Tryz.prog.info? 58).map (·.size) = some 5 := by kernel_rfl
theorem infoI1 : (Tryz.prog.info? 2).map (·.size) = some 1 := by kernel_rfl
theorem Pkt.oneC (x : Pkt) : x.cells.all (·.oneCell') = true := by simp [Pkt.cells, Value.oneCell']
theorem Lng.oneC (l : Lng) : l.cells.all (·.oneCell') = true := by simp [Lng.cells, Value.oneCell']
set_option maxRecDepth 10000 in
set_option maxHeartbeats 1000000 in
theorem toPacket_any (x : Pkt) (w : World) :
  Calls Tryz.prog 64 #[.agg x.cells] w fun e w' => e = .returned (.agg x.cells) ∧ Below w.heap.size w w' := by
 obtain ⟨W0, eW⟩ : ∃ W, (((w.alloc (.cells x.cells 92)).alloc (.cells #[.int .i64 0, .int .i64 0, .int .i64 0, .int .i64 0, .int .i64 0, .int .i64 0, .int .i64 0, .string ⟨#[]⟩] 60)).alloc (.cells #[.int .i64 0, .int .i64 0, .int .i64 0, .int .i64 0, .int .i64 0, .int .i64 0, .int .i64 0, .string ⟨#[]⟩] 60)) = W := ⟨_, rfl⟩
 have HX : Hid (Boxes w x.cells #[.int .i64 0, .int .i64 0, .int .i64 0, .int .i64 0, .int .i64 0, .int .i64 0, .int .i64 0, .string ⟨#[]⟩] #[.int .i64 0, .int .i64 0, .int .i64 0, .int .i64 0, .int .i64 0, .int .i64 0, .int .i64 0, .string ⟨#[]⟩] 92 60 W0) := by rw [← eW]; exact Boxes.start _ _ _ _ _ _
 go_enter Tryz.func64, Tryz.ntmps64
 have c0 : W0.cell? ⟨w.heap.size, 0, none⟩ = some (.int .i64 x.id) := blk_cell HX.out.a 0
 have HC := HX.out.c
 replace HC : Hid (W0.heap[w.heap.size + 1 + 1]? = some (.cells #[.int .i64 0, .int .i64 0, .int .i64 0, .int .i64 0, .int .i64 0, .int .i64 0, .int .i64 0, .string ⟨#[]⟩] 60 (0, 0))) := HC
 go_wp2_with (refine wpList_stA rfl 2 (.tmp 6) (.tmp 5) rfl (w.heap.size + 1 + 1) 0 rfl (.int .i64 x.id) rfl 1 rfl 60 _ HC.out infoI1 (Nat.le_of_ble_eq_true rfl) (by simp [Value.cells, Value.oneCell', Rnd.cells, Cfg.cells, Cnt.cells]) ?_)
 intro W1 hP
 clear eW
 replace hP := hP.cast (cs' := #[.int .i64 x.id, .int .i64 0, .int .i64 0, .int .i64 0, .int .i64 0, .int .i64 0, .int .i64 0, .string ⟨#[]⟩]) rfl
 replace HX : Hid (Boxes w x.cells #[.int .i64 0, .int .i64 0, .int .i64 0, .int .i64 0, .int .i64 0, .int .i64 0, .int .i64 0, .string ⟨#[]⟩] #[.int .i64 x.id, .int .i64 0, .int .i64 0, .int .i64 0, .int .i64 0, .int .i64 0, .int .i64 0, .string ⟨#[]⟩] 92 60 W1) := HX.out.put hP
 have T1 : Touch [w.heap.size + 1, w.heap.size + 1 + 1] W0 W1 := hP.to.mono (fun x hx => by simp at hx; simp [hx])
 clear hP HC c0
 have c1 : W1.cell? ⟨w.heap.size, 1, none⟩ = some (.int .i64 x.inn) := blk_cell HX.out.a 1
 have HC := HX.out.c
 replace HC : Hid (W1.heap[w.heap.size + 1 + 1]? = some (.cells #[.int .i64 x.id, .int .i64 0, .int .i64 0, .int .i64 0, .int .i64 0, .int .i64 0, .int .i64 0, .string ⟨#[]⟩] 60 (0, 0))) := HC
 go_wp2_with (refine wpList_stA rfl 2 (.tmp 9) (.tmp 8) rfl (w.heap.size + 1 + 1) 1 rfl (.int .i64 x.inn) rfl 1 rfl 60 _ HC.out infoI1 (Nat.le_of_ble_eq_true rfl) (by simp [Value.cells, Value.oneCell', Rnd.cells, Cfg.cells, Cnt.cells]) ?_)
 intro W2 hP
 replace hP := hP.cast (cs' := #[.int .i64 x.id, .int .i64 x.inn, .int .i64 0, .int .i64 0, .int .i64 0, .int .i64 0, .int .i64 0, .string ⟨#[]⟩]) rfl
 replace HX : Hid (Boxes w x.cells #[.int .i64 0, .int .i64 0, .int .i64 0, .int .i64 0, .int .i64 0, .int .i64 0, .int .i64 0, .string ⟨#[]⟩] #[.int .i64 x.id, .int .i64 x.inn, .int .i64 0, .int .i64 0, .int .i64 0, .int .i64 0, .int .i64 0, .string ⟨#[]⟩] 92 60 W2) := HX.out.put hP
 have T2 : Touch [w.heap.size + 1, w.heap.size + 1 + 1] W1 W2 := hP.to.mono (fun x hx => by simp at hx; simp [hx])
 clear hP HC c1
 have c2 : W2.cell? ⟨w.heap.size, 2, none⟩ = some (.int .i64 x.refs) := blk_cell HX.out.a 2
 have HC := HX.out.c
 replace HC : Hid (W2.heap[w.heap.size + 1 + 1]? = some (.cells #[.int .i64 x.id, .int .i64 x.inn, .int .i64 0, .int .i64 0, .int .i64 0, .int .i64 0, .int .i64 0, .string ⟨#[]⟩] 60 (0, 0))) := HC
 go_wp2_with (refine wpList_stA rfl 2 (.tmp 12) (.tmp 11) rfl (w.heap.size + 1 + 1) 2 rfl (.int .i64 x.refs) rfl 1 rfl 60 _ HC.out infoI1 (Nat.le_of_ble_eq_true rfl) (by simp [Value.cells, Value.oneCell', Rnd.cells, Cfg.cells, Cnt.cells]) ?_)
 intro W3 hP
 replace hP := hP.cast (cs' := #[.int .i64 x.id, .int .i64 x.inn, .int .i64 x.refs, .int .i64 0, .int .i64 0, .int .i64 0, .int .i64 0, .string ⟨#[]⟩]) rfl
 replace HX : Hid (Boxes w x.cells #[.int .i64 0, .int .i64 0, .int .i64 0, .int .i64 0, .int .i64 0, .int .i64 0, .int .i64 0, .string ⟨#[]⟩] #[.int .i64 x.id, .int .i64 x.inn, .int .i64 x.refs, .int .i64 0, .int .i64 0, .int .i64 0, .int .i64 0, .string ⟨#[]⟩] 92 60 W3) := HX.out.put hP
 have T3 : Touch [w.heap.size + 1, w.heap.size + 1 + 1] W2 W3 := hP.to.mono (fun x hx => by simp at hx; simp [hx])
 clear hP HC c2
 have c3 : W3.cell? ⟨w.heap.size, 3, none⟩ = some (.int .i64 x.k) := blk_cell HX.out.a 3
 have c4 : W3.cell? ⟨w.heap.size, 4, none⟩ = some (.int .i64 x.d) := blk_cell HX.out.a 4
 have c5 : W3.cell? ⟨w.heap.size, 5, none⟩ = some (.int .i64 x.s) := blk_cell HX.out.a 5
 have c6 : W3.cell? ⟨w.heap.size, 6, none⟩ = some (.int .i64 x.p) := blk_cell HX.out.a 6
 have c7 : W3.cell? ⟨w.heap.size, 7, none⟩ = some (.string x.b) := blk_cell HX.out.a 7
 go_wp2_with fail
 refine (toFrame_any x.k x.d x.s x.p x.b _).mono ?_
 rintro e wf ⟨rfl, hb⟩
 clear c3 c4 c5 c6 c7
 replace HX : Hid (Boxes w x.cells #[.int .i64 0, .int .i64 0, .int .i64 0, .int .i64 0, .int .i64 0, .int .i64 0, .int .i64 0, .string ⟨#[]⟩] #[.int .i64 x.id, .int .i64 x.inn, .int .i64 x.refs, .int .i64 0, .int .i64 0, .int .i64 0, .int .i64 0, .string ⟨#[]⟩] 92 60 wf) := HX.out.up hb
 have T4 : Touch [w.heap.size + 1, w.heap.size + 1 + 1] W3 wf := Touch.ofBelow hb
 clear hb
 have HC := HX.out.c
 replace HC : Hid (wf.heap[w.heap.size + 1 + 1]? = some (.cells #[.int .i64 x.id, .int .i64 x.inn, .int .i64 x.refs, .int .i64 0, .int .i64 0, .int .i64 0, .int .i64 0, .string ⟨#[]⟩] 60 (0, 0))) := HC
 go_wp2_with (refine wpList_stA rfl 58 (.tmp 16) (.tmp 15) rfl (w.heap.size + 1 + 1) 3 rfl (.agg #[.int .i64 x.k, .int .i64 x.d, .int .i64 x.s, .int .i64 x.p, .string x.b]) rfl 5 rfl 60 _ HC.out infoFrI (Nat.le_of_ble_eq_true rfl) (by simp [Value.cells, Value.oneCell', Rnd.cells, Cfg.cells, Cnt.cells]) ?_)
 intro W5 hP
 replace hP := hP.cast (cs' := #[.int .i64 x.id, .int .i64 x.inn, .int .i64 x.refs, .int .i64 x.k, .int .i64 x.d, .int .i64 x.s, .int .i64 x.p, .string x.b]) rfl
 replace HX : Hid (Boxes w x.cells #[.int .i64 0, .int .i64 0, .int .i64 0, .int .i64 0, .int .i64 0, .int .i64 0, .int .i64 0, .string ⟨#[]⟩] #[.int .i64 x.id, .int .i64 x.inn, .int .i64 x.refs, .int .i64 x.k, .int .i64 x.d, .int .i64 x.s, .int .i64 x.p, .string x.b] 92 60 W5) := HX.out.put hP
 have T5 : Touch [w.heap.size + 1, w.heap.size + 1 + 1] wf W5 := hP.to.mono (fun x hx => by simp at hx; simp [hx])
 clear hP HC 
 have HC : Hid (W5.heap[w.heap.size + 1 + 1]? = some (.cells x.cells 60 (0, 0))) := HX.out.c
 have HD : Hid (W5.heap[w.heap.size + 1]? = some (.cells #[.int .i64 0, .int .i64 0, .int .i64 0, .int .i64 0, .int .i64 0, .int .i64 0, .int .i64 0, .string ⟨#[]⟩] 60 (0, 0))) := HX.out.b
 have HL : Hid (∀ j, j < 8 → W5.cell? ⟨w.heap.size + 1 + 1, 0 + j, none⟩ = (x.cells)[j]?) := fun j _ => by rw [Nat.zero_add]; exact blk_cell HC.out j
 go_wp2_with (first | refine wpList_ldT rfl 60 8 _ Tryz.underlying60 rfl infoPkI (.tmp 3) rfl (w.heap.size + 1 + 1) 0 rfl (x.cells) rfl HL.out ?_ | refine wpList_stA rfl 60 (.tmp 2) (.tmp 17) rfl (w.heap.size + 1) 0 rfl (.agg x.cells) rfl 8 rfl 60 _ HD.out infoPkI (Nat.le_of_ble_eq_true rfl) x.oneC ?_)
 intro W6 hP
 replace hP : Put W5 W6 (w.heap.size + 1) x.cells 60 := hP.cast rfl
 have T6 : Touch [w.heap.size + 1, w.heap.size + 1 + 1] W5 W6 := hP.to.mono (fun x hx => by simp at hx; simp [hx])
 have HK : Hid (W6.heap[w.heap.size + 1]? = some (.cells x.cells 60 (0, 0))) := hP.blk
 have HB : Hid (Below w.heap.size w W6) := (HX.out.out hP).bel
 clear hP HC HD HL
 go_wp2_with fail
 refine bodyPost_ret (res_cellT Tryz.results64 8 _ Tryz.underlying60 rfl infoPkI _ _ (w.heap.size + 1) x.cells rfl 60 HK.out rfl) rfl ⟨rfl, HB.out⟩
theorem infoB1 : (Tryz.prog.info? 4).map (·.size) = some 1 := by kernel_rfl
theorem infoIs : (Tryz.prog.info? 25).map (·.size) = some 1 := by kernel_rfl
theorem infoIss : (Tryz.prog.info? 63).map (·.size) = some 1 := by kernel_rfl
theorem infoRn : (Tryz.prog.info? 65).map (·.size) = some 5 := by kernel_rfl
theorem blkV_at {g o n x : Nat} (h : x ∈ blkV (some ⟨g, o, none⟩) n) : x = g := by
 unfold blkV at h
 split at h
 ·
  simp at h
 ·
  simpa using h
theorem blkS_nodup {n : Nat} {G L : Nat → Nat} (h : ∀ i j, i < j → j < n → G i < G j) : (blkS n (fun i => some ⟨G i, 0, none⟩) L).Nodup := by
 unfold blkS
 induction n with
 | zero => simp
 | succ n ih =>
  rw [List.range_succ, List.flatMap_append]
  simp only [List.flatMap_cons, List.flatMap_nil, List.append_nil]
  refine nodup_app (ih (fun i j hij hj => h i j hij (by omega))) (blkV_nodup _ _) (G n) (fun x hx => ?_) (fun x hx => ?_)
  ·
   simp only [List.mem_flatMap, List.mem_range] at hx
   obtain ⟨i, hi, hx⟩ := hx
   rw [blkV_at hx]
   exact h i n hi (by omega)
  ·
   rw [blkV_at hx]
   exact Nat.le_refl _
theorem laneNd {nT nU nQ nD nS gT gQ gD gS : Nat} {G G2 uL L : Nat → Nat} {m : Nat} {st : Bool} {cT cU cQ cD cS : Nat} {t : Nat → Int} {aU : Option Addr} {uC C : Nat → Nat} {uz z : Nat → Nat → Int} {q d : Nat → Int} {turn : Int} {fresh : Bool} {aS : Option Addr} (h1 : gT < m) (h2 : ∀ i, i < nU → gT < G i ∧ G i < m) (h3 : ∀ i j, i < j → j < nU → G i < G j) (h4 : m ≤ gQ) (h5 : gQ < gD) (h6 : gD ≤ gS) (h7 : ∀ i, i < nS → gS < G2 i) (h8 : ∀ i j, i < j → j < nS → G2 i < G2 j) :
  (Lng.blks ⟨st, some ⟨gT, 0, none⟩, nT, cT, t, aU, nU, cU, fun i => some ⟨G i, 0, none⟩, uL, uC, uz, ⟨some ⟨gQ, 0, none⟩, nQ, cQ, q, some ⟨gD, 0, none⟩, nD, cD, d, turn, fresh, aS, nS, cS, fun i => some ⟨G2 i, 0, none⟩, L, C, z⟩⟩).Nodup := by
 unfold Lng.blks
 dsimp only
 refine nodup_app (blkV_nodup _ _) (nodup_app (blkS_nodup h3) (nodup_app (blkV_nodup _ _) (nodup_app (blkV_nodup _ _) (blkS_nodup h8) (gD + 1) ?_ ?_) gD ?_ ?_) m ?_ ?_) (gT + 1) ?_ ?_
 ·
  intro x hx; rw [blkV_at hx]; omega
 ·
  intro x hx
  obtain ⟨i, hi, hx⟩ := blkS_mem.1 hx
  have := h7 i hi
  rw [blkV_at hx]; omega
 ·
  intro x hx; rw [blkV_at hx]; omega
 ·
  intro x hx
  rcases List.mem_append.1 hx with hx | hx
  ·
   rw [blkV_at hx]; omega
  ·
   obtain ⟨i, hi, hx⟩ := blkS_mem.1 hx
   have := h7 i hi
   rw [blkV_at hx]; omega
 ·
  intro x hx
  obtain ⟨i, hi, hx⟩ := blkS_mem.1 hx
  have := h2 i hi
  rw [blkV_at hx]; omega
 ·
  intro x hx
  rcases List.mem_append.1 hx with hx | hx
  ·
   rw [blkV_at hx]; omega
  rcases List.mem_append.1 hx with hx | hx
  ·
   rw [blkV_at hx]; omega
  ·
   obtain ⟨i, hi, hx⟩ := blkS_mem.1 hx
   have := h7 i hi
   rw [blkV_at hx]; omega
 ·
  intro x hx; rw [blkV_at hx]; omega
 ·
  intro x hx
  rcases List.mem_append.1 hx with hx | hx
  ·
   obtain ⟨i, hi, hx⟩ := blkS_mem.1 hx
   have := h2 i hi
   rw [blkV_at hx]; omega
  rcases List.mem_append.1 hx with hx | hx
  ·
   rw [blkV_at hx]; omega
  rcases List.mem_append.1 hx with hx | hx
  ·
   rw [blkV_at hx]; omega
  ·
   obtain ⟨i, hi, hx⟩ := blkS_mem.1 hx
   have := h7 i hi
   rw [blkV_at hx]; omega
set_option maxRecDepth 10000 in
set_option maxHeartbeats 2000000 in
theorem toLane_any (l : Lng) (w : World) (hs : l.Small) (h : RdLg w l) :
  Calls Tryz.prog 65 #[.agg l.cells] w fun e w' => ∃ l2, e = .returned (.agg l2.cells) ∧ AlikeL l l2 ∧ OwnLg w' w.heap.size l2 ∧ Below w.heap.size w w' := by
 have HR : Hid (RdLg w l) := h
 have HS : Hid l.Small := hs
 clear h hs
 obtain ⟨W0, eW⟩ : ∃ W, (((w.alloc (.cells l.cells 96)).alloc (.cells #[.bool false, .slice none 0 0, .slice none 0 0, .slice none 0 0, .slice none 0 0, .int .i64 0, .bool false, .slice none 0 0] 67)).alloc (.cells #[.bool false, .slice none 0 0, .slice none 0 0, .slice none 0 0, .slice none 0 0, .int .i64 0, .bool false, .slice none 0 0] 67)) = W := ⟨_, rfl⟩
 have HX : Hid (Boxes w l.cells #[.bool false, .slice none 0 0, .slice none 0 0, .slice none 0 0, .slice none 0 0, .int .i64 0, .bool false, .slice none 0 0] #[.bool false, .slice none 0 0, .slice none 0 0, .slice none 0 0, .slice none 0 0, .int .i64 0, .bool false, .slice none 0 0] 96 67 W0) := by rw [← eW]; exact Boxes.start _ _ _ _ _ _
 go_enter Tryz.func65, Tryz.ntmps65
 have c0 : W0.cell? ⟨w.heap.size, 0, none⟩ = some (.bool l.st) := blk_cell HX.out.a 0
 have HC := HX.out.c
 replace HC : Hid (W0.heap[w.heap.size + 1 + 1]? = some (.cells #[.bool false, .slice none 0 0, .slice none 0 0, .slice none 0 0, .slice none 0 0, .int .i64 0, .bool false, .slice none 0 0] 67 (0, 0))) := HC
 go_wp2_with (refine wpList_stA rfl 4 (.tmp 6) (.tmp 5) rfl (w.heap.size + 1 + 1) 0 rfl (.bool l.st) rfl 1 rfl 67 _ HC.out infoB1 (Nat.le_of_ble_eq_true rfl) (by simp [Value.cells, Value.oneCell', Rnd.cells, Cfg.cells, Cnt.cells]) ?_)
 intro W1 hP
 clear eW
 replace hP := hP.cast (cs' := #[.bool l.st, .slice none 0 0, .slice none 0 0, .slice none 0 0, .slice none 0 0, .int .i64 0, .bool false, .slice none 0 0]) rfl
 replace HX : Hid (Boxes w l.cells #[.bool false, .slice none 0 0, .slice none 0 0, .slice none 0 0, .slice none 0 0, .int .i64 0, .bool false, .slice none 0 0] #[.bool l.st, .slice none 0 0, .slice none 0 0, .slice none 0 0, .slice none 0 0, .int .i64 0, .bool false, .slice none 0 0] 96 67 W1) := HX.out.put hP
 have T1 : Touch [w.heap.size + 1, w.heap.size + 1 + 1] W0 W1 := hP.to.mono (fun x hx => by simp at hx; simp [hx])
 clear hP HC c0
 have c1 : W1.cell? ⟨w.heap.size, 1, none⟩ = some (.slice l.aT l.nT l.cT) := blk_cell HX.out.a 1
 go_wp2_with fail
 refine (toInts_any l.aT l.nT l.cT l.t _ HS.out.t (HR.out.t.up HX.out.bel)).mono ?_
 rintro e wt ⟨rfl, rT, hb⟩
 clear c1
 have sT := HX.out.sz
 replace HX : Hid (Boxes w l.cells #[.bool false, .slice none 0 0, .slice none 0 0, .slice none 0 0, .slice none 0 0, .int .i64 0, .bool false, .slice none 0 0] #[.bool l.st, .slice none 0 0, .slice none 0 0, .slice none 0 0, .slice none 0 0, .int .i64 0, .bool false, .slice none 0 0] 96 67 wt) := HX.out.up hb
 have T2 : Touch [w.heap.size + 1, w.heap.size + 1 + 1] W1 wt := Touch.ofBelow hb
 clear hb
 have HC := HX.out.c
 replace HC : Hid (wt.heap[w.heap.size + 1 + 1]? = some (.cells #[.bool l.st, .slice none 0 0, .slice none 0 0, .slice none 0 0, .slice none 0 0, .int .i64 0, .bool false, .slice none 0 0] 67 (0, 0))) := HC
 go_wp2_with (refine wpList_stA rfl 25 (.tmp 10) (.tmp 9) rfl (w.heap.size + 1 + 1) 1 rfl (.slice (some ⟨W1.heap.size, 0, none⟩) l.nT l.nT) rfl 1 rfl 67 _ HC.out infoIs (Nat.le_of_ble_eq_true rfl) (by simp [Value.cells, Value.oneCell', Rnd.cells, Cfg.cells, Cnt.cells]) ?_)
 intro W3 hP
 replace hP := hP.cast (cs' := #[.bool l.st, .slice (some ⟨W1.heap.size, 0, none⟩) l.nT l.nT, .slice none 0 0, .slice none 0 0, .slice none 0 0, .int .i64 0, .bool false, .slice none 0 0]) rfl
 replace HX : Hid (Boxes w l.cells #[.bool false, .slice none 0 0, .slice none 0 0, .slice none 0 0, .slice none 0 0, .int .i64 0, .bool false, .slice none 0 0] #[.bool l.st, .slice (some ⟨W1.heap.size, 0, none⟩) l.nT l.nT, .slice none 0 0, .slice none 0 0, .slice none 0 0, .int .i64 0, .bool false, .slice none 0 0] 96 67 W3) := HX.out.put hP
 have T3 : Touch [w.heap.size + 1, w.heap.size + 1 + 1] wt W3 := hP.to.mono (fun x hx => by simp at hx; simp [hx])
 clear hP HC 
 have c2 : W3.cell? ⟨w.heap.size, 2, none⟩ = some (.slice l.aU l.nU l.cU) := blk_cell HX.out.a 2
 go_wp2_with fail
 refine (toIntss_any l.aU l.nU l.cU l.uA l.uL l.uC l.uz _ HS.out.u (HR.out.u.up HX.out.bel) (fun i hi => (HR.out.z i hi).up HX.out.bel) HS.out.z).mono ?_
 rintro e wu ⟨G, rfl, rU, hb⟩
 clear c2
 have sU := HX.out.sz
 replace HX : Hid (Boxes w l.cells #[.bool false, .slice none 0 0, .slice none 0 0, .slice none 0 0, .slice none 0 0, .int .i64 0, .bool false, .slice none 0 0] #[.bool l.st, .slice (some ⟨W1.heap.size, 0, none⟩) l.nT l.nT, .slice none 0 0, .slice none 0 0, .slice none 0 0, .int .i64 0, .bool false, .slice none 0 0] 96 67 wu) := HX.out.up hb
 have T4 : Touch [w.heap.size + 1, w.heap.size + 1 + 1] W3 wu := Touch.ofBelow hb
 clear hb
 have HC := HX.out.c
 replace HC : Hid (wu.heap[w.heap.size + 1 + 1]? = some (.cells #[.bool l.st, .slice (some ⟨W1.heap.size, 0, none⟩) l.nT l.nT, .slice none 0 0, .slice none 0 0, .slice none 0 0, .int .i64 0, .bool false, .slice none 0 0] 67 (0, 0))) := HC
 go_wp2_with (refine wpList_stA rfl 63 (.tmp 14) (.tmp 13) rfl (w.heap.size + 1 + 1) 2 rfl (.slice (some ⟨W3.heap.size, 0, none⟩) l.nU l.nU) rfl 1 rfl 67 _ HC.out infoIss (Nat.le_of_ble_eq_true rfl) (by simp [Value.cells, Value.oneCell', Rnd.cells, Cfg.cells, Cnt.cells]) ?_)
 intro W5 hP
 replace hP := hP.cast (cs' := #[.bool l.st, .slice (some ⟨W1.heap.size, 0, none⟩) l.nT l.nT, .slice (some ⟨W3.heap.size, 0, none⟩) l.nU l.nU, .slice none 0 0, .slice none 0 0, .int .i64 0, .bool false, .slice none 0 0]) rfl
 replace HX : Hid (Boxes w l.cells #[.bool false, .slice none 0 0, .slice none 0 0, .slice none 0 0, .slice none 0 0, .int .i64 0, .bool false, .slice none 0 0] #[.bool l.st, .slice (some ⟨W1.heap.size, 0, none⟩) l.nT l.nT, .slice (some ⟨W3.heap.size, 0, none⟩) l.nU l.nU, .slice none 0 0, .slice none 0 0, .int .i64 0, .bool false, .slice none 0 0] 96 67 W5) := HX.out.put hP
 have T5 : Touch [w.heap.size + 1, w.heap.size + 1 + 1] wu W5 := hP.to.mono (fun x hx => by simp at hx; simp [hx])
 clear hP HC 
 have c3 : W5.cell? ⟨w.heap.size, 3, none⟩ = some (.slice l.R.aQ l.R.nQ l.R.cQ) := blk_cell HX.out.a 3
 have c4 : W5.cell? ⟨w.heap.size, 4, none⟩ = some (.slice l.R.aD l.R.nD l.R.cD) := blk_cell HX.out.a 4
 have c5 : W5.cell? ⟨w.heap.size, 5, none⟩ = some (.int .i64 l.R.turn) := blk_cell HX.out.a 5
 have c6 : W5.cell? ⟨w.heap.size, 6, none⟩ = some (.bool l.R.fresh) := blk_cell HX.out.a 6
 have c7 : W5.cell? ⟨w.heap.size, 7, none⟩ = some (.slice l.R.aS l.R.nS l.R.cS) := blk_cell HX.out.a 7
 go_wp2_with fail
 refine (toRound_any l.R _ HS.out.r (HR.out.r.up HX.out.bel)).mono ?_
 rintro e wr ⟨gQ, gD, gS, G2, rfl, hgQ, rR, hb⟩
 clear c3 c4 c5 c6 c7
 have sR := HX.out.sz
 replace HX : Hid (Boxes w l.cells #[.bool false, .slice none 0 0, .slice none 0 0, .slice none 0 0, .slice none 0 0, .int .i64 0, .bool false, .slice none 0 0] #[.bool l.st, .slice (some ⟨W1.heap.size, 0, none⟩) l.nT l.nT, .slice (some ⟨W3.heap.size, 0, none⟩) l.nU l.nU, .slice none 0 0, .slice none 0 0, .int .i64 0, .bool false, .slice none 0 0] 96 67 wr) := HX.out.up hb
 have T6 : Touch [w.heap.size + 1, w.heap.size + 1 + 1] W5 wr := Touch.ofBelow hb
 clear hb
 have HC := HX.out.c
 replace HC : Hid (wr.heap[w.heap.size + 1 + 1]? = some (.cells #[.bool l.st, .slice (some ⟨W1.heap.size, 0, none⟩) l.nT l.nT, .slice (some ⟨W3.heap.size, 0, none⟩) l.nU l.nU, .slice none 0 0, .slice none 0 0, .int .i64 0, .bool false, .slice none 0 0] 67 (0, 0))) := HC
 go_wp2_with (refine wpList_stA rfl 65 (.tmp 18) (.tmp 17) rfl (w.heap.size + 1 + 1) 3 rfl (.agg (l.R.copy gQ gD gS G2).cells) rfl 5 rfl 67 _ HC.out infoRn (Nat.le_of_ble_eq_true rfl) (by simp [Value.cells, Value.oneCell', Rnd.cells, Cfg.cells, Cnt.cells]) ?_)
 intro W7 hP
 replace hP := hP.cast (cs' := #[.bool l.st, .slice (some ⟨W1.heap.size, 0, none⟩) l.nT l.nT, .slice (some ⟨W3.heap.size, 0, none⟩) l.nU l.nU, .slice (some ⟨gQ, 0, none⟩) l.R.nQ l.R.nQ, .slice (some ⟨gD, 0, none⟩) l.R.nD l.R.nD, .int .i64 l.R.turn, .bool l.R.fresh, .slice (some ⟨gS, 0, none⟩) l.R.nS l.R.nS]) rfl
 replace HX : Hid (Boxes w l.cells #[.bool false, .slice none 0 0, .slice none 0 0, .slice none 0 0, .slice none 0 0, .int .i64 0, .bool false, .slice none 0 0] #[.bool l.st, .slice (some ⟨W1.heap.size, 0, none⟩) l.nT l.nT, .slice (some ⟨W3.heap.size, 0, none⟩) l.nU l.nU, .slice (some ⟨gQ, 0, none⟩) l.R.nQ l.R.nQ, .slice (some ⟨gD, 0, none⟩) l.R.nD l.R.nD, .int .i64 l.R.turn, .bool l.R.fresh, .slice (some ⟨gS, 0, none⟩) l.R.nS l.R.nS] 96 67 W7) := HX.out.put hP
 have T7 : Touch [w.heap.size + 1, w.heap.size + 1 + 1] wr W7 := hP.to.mono (fun x hx => by simp at hx; simp [hx])
 clear hP HC 
 obtain ⟨l2, e2⟩ : ∃ l2, (⟨l.st, some ⟨W1.heap.size, 0, none⟩, l.nT, l.nT, l.t, some ⟨W3.heap.size, 0, none⟩, l.nU, l.nU, fun i => some ⟨G i, 0, none⟩, l.uL, l.uL, l.uz, l.R.copy gQ gD gS G2⟩ : Lng) = l2 := ⟨_, rfl⟩
 have e3 : #[.bool l.st, .slice (some ⟨W1.heap.size, 0, none⟩) l.nT l.nT, .slice (some ⟨W3.heap.size, 0, none⟩) l.nU l.nU, .slice (some ⟨gQ, 0, none⟩) l.R.nQ l.R.nQ, .slice (some ⟨gD, 0, none⟩) l.R.nD l.R.nD, .int .i64 l.R.turn, .bool l.R.fresh, .slice (some ⟨gS, 0, none⟩) l.R.nS l.R.nS] = l2.cells := by rw [← e2]; rfl
 rw [e3] at HX
 have HC : Hid (W7.heap[w.heap.size + 1 + 1]? = some (.cells l2.cells 67 (0, 0))) := HX.out.c
 have HD : Hid (W7.heap[w.heap.size + 1]? = some (.cells #[.bool false, .slice none 0 0, .slice none 0 0, .slice none 0 0, .slice none 0 0, .int .i64 0, .bool false, .slice none 0 0] 67 (0, 0))) := HX.out.b
 have HL : Hid (∀ j, j < 8 → W7.cell? ⟨w.heap.size + 1 + 1, 0 + j, none⟩ = (l2.cells)[j]?) := fun j _ => by rw [Nat.zero_add]; exact blk_cell HC.out j
 go_wp2_with (first | refine wpList_ldT rfl 67 8 _ Tryz.underlying67 rfl infoLgI (.tmp 3) rfl (w.heap.size + 1 + 1) 0 rfl (l2.cells) rfl HL.out ?_ | refine wpList_stA rfl 67 (.tmp 2) (.tmp 19) rfl (w.heap.size + 1) 0 rfl (.agg l2.cells) rfl 8 rfl 67 _ HD.out infoLgI (Nat.le_of_ble_eq_true rfl) (Lng.oneC _) ?_)
 intro W8 hP
 replace hP : Put W7 W8 (w.heap.size + 1) l2.cells 67 := hP.cast rfl
 have T8 : Touch [w.heap.size + 1, w.heap.size + 1 + 1] W7 W8 := hP.to.mono (fun x hx => by simp at hx; simp [hx])
 have HK : Hid (W8.heap[w.heap.size + 1]? = some (.cells l2.cells 67 (0, 0))) := hP.blk
 have HB : Hid (Below w.heap.size w W8) := (HX.out.out hP).bel
 clear hP HC HD HL
 go_wp2_with fail
 have hlow : ∀ x ∈ [w.heap.size + 1, w.heap.size + 1 + 1], x < w.heap.size + 1 + 1 + 1 := by intro x hx; simp at hx; omega
 have qT : VG 2 W8 W1.heap.size (some ⟨W1.heap.size, 0, none⟩) l.nT (fun i => .int .i64 (l.t i)) := (rT.vg (Nat.le_refl _)).low (((((T3.trans T4).trans T5).trans T6).trans T7).trans T8) (fun x hx => by have := hlow x hx; omega)
 have tU := (((T5.trans T6).trans T7).trans T8)
 have tR := (T7.trans T8)
 have lU := rU.top.lt
 have lR := rR.q.lt
 have hT1 := T3.size
 have hT2 := T4.size
 have hT3 := T5.size
 have hT4 := T6.size
 have hTt := rT.lt
 refine bodyPost_ret (res_cellT Tryz.results65 8 _ Tryz.underlying67 rfl infoLgI _ _ (w.heap.size + 1) l2.cells rfl 67 HK.out rfl) rfl ⟨l2, rfl, ?_, ?_, HB.out⟩
 ·
  rw [← e2]
  exact ⟨rfl, rfl, rfl, rfl, rfl, rfl, ⟨rfl, rfl, rfl, rfl, rfl, rfl, rfl, rfl, rfl⟩⟩
 ·
  rw [← e2]
  have kU : ∀ {g : Nat}, w.heap.size + 1 + 1 + 1 ≤ g → g < wu.heap.size → W8.heap[g]? = wu.heap[g]? := fun h1 h2 => tU.block _ h2 (by simp; omega)
  have kR : ∀ {g : Nat}, w.heap.size + 1 + 1 + 1 ≤ g → g < wr.heap.size → W8.heap[g]? = wr.heap[g]? := fun h1 h2 => tR.block _ h2 (by simp; omega)
  have oU := rU.low
  have oR := rR.lt
  have oS : ∀ i, i < l.R.nS → gS < G2 i := rR.s.low
  refine ⟨qT.mono (by omega), (rU.top.keep (kU (by omega) lU)).vg (by omega), fun i hi => ((rU.row i hi).keep (kU (by have := oU i hi; omega) (rU.row i hi).lt)).vg (by have := oU i hi; omega), (rR.q.keep (kR (by omega) lR)).vg (by omega), (rR.d.keep (kR (by omega) rR.d.lt)).vg (by omega), (rR.s.top.keep (kR (by omega) rR.s.top.lt)).vg (by omega), fun i hi => ((rR.s.row i hi).keep (kR (by have := oS i hi; omega) (rR.s.row i hi).lt)).vg (by have := oS i hi; omega), ?_⟩
  exact laneNd (gS := gS) (by omega) (fun i hi => ⟨by have := oU i hi; omega, (rU.row i hi).lt⟩) rU.inc (by omega) (by omega) (by omega) (fun i hi => by have := oS i hi; omega) rR.s.inc
def OG (t : TypeId) (sz : Nat) (w : World) (base : Nat) (a : Option Addr) (n c : Nat) (xs : List Value) : Prop := w.ownsRow base t sz (.slice a n c) n xs
section
variable {t : TypeId} {sz : Nat} {w w' : World} {base base' : Nat} {a : Option Addr} {n c : Nat} {xs : List Value} {S : List Nat}
theorem OG.up (h : OG t sz w base a n c xs) (hb : Below w.heap.size w w') : OG t sz w' base a n c xs := by
 refine ⟨h.1, h.2.imp id ?_⟩
 rintro ⟨g, cap, cur, e, hg, hbk, hr⟩
 exact ⟨g, cap, cur, e, hg, (hb.block g (blk_lt hbk)).trans hbk, hr⟩
theorem OG.mono (h : OG t sz w base a n c xs) (hb : base' ≤ base) : OG t sz w base' a n c xs := by
 refine ⟨h.1, h.2.imp id ?_⟩
 rintro ⟨g, cap, cur, e, hg, hr⟩
 exact ⟨g, cap, cur, e, by omega, hr⟩
theorem OG.blk (h : OG t sz w base a n c xs) : ∀ x ∈ blkO a, base ≤ x ∧ x < w.heap.size := by
 intro x hx
 rcases h.2 with ⟨e, _⟩ | ⟨g, cap, cur, e, hg, hbk, _⟩
 ·
  cases e
  simp [blkO] at hx
 ·
  cases e
  simp [blkO] at hx
  subst hx
  exact ⟨hg, blk_lt hbk⟩
theorem OG.type (h : OG t sz w base a n c xs) : ∀ x ∈ blkO a, ∃ cs, w.heap[x]? = some (.cells cs t (0, 0)) := by
 intro x hx
 rcases h.2 with ⟨e, _⟩ | ⟨g, cap, cur, e, hg, hbk, _⟩
 ·
  cases e
  simp [blkO] at hx
 ·
  cases e
  simp [blkO] at hx
  subst hx
  exact ⟨cur, hbk⟩
theorem OG.touchS (h : OG t sz w base a n c xs) (ht : Touch S w w') (hp : ∀ x ∈ blkO a, x ∉ S) : OG t sz w' base a n c xs := by
 refine ⟨h.1, ?_⟩
 rcases h.2 with h2 | ⟨g, cap, cur, e, hg, hbk, hr⟩
 ·
  exact .inl h2
 ·
  cases e
  exact .inr ⟨g, c, cur, rfl, hg, (ht.block g (blk_lt hbk) (hp g (by simp [blkO]))).trans hbk, hr⟩
theorem OG.low (h : OG t sz w base a n c xs) (ht : Touch S w w') (hS : ∀ x ∈ S, x < base) : OG t sz w' base a n c xs :=
 h.touchS ht (fun x hx hy => by have := (h.blk x hx).1; have := hS x hy; omega)
theorem OG.notT (h : OG t sz w base a n c xs) {g : Nat} {cs : Array Value} {t' : TypeId} (hne : t ≠ t') (hg : w.heap[g]? = some (.cells cs t' (0, 0))) : g ∉ blkO a := by
 intro hx
 obtain ⟨cs', h1⟩ := h.type g hx
 rw [hg] at h1
 simp at h1
 exact hne h1.2.symm
theorem OG.vg {f : Nat → Value} (h : OG t sz w base a n c xs) (hf : ∀ i, i < n * sz → xs[i]? = some (f i)) : VG t w base a (n * sz) f := by
 rcases h.2 with ⟨e, h0⟩ | ⟨g, cap, cur, e, hg, hbk, hn, hm, hs, ht⟩
 ·
  exact .inl (by rw [h0]; simp)
 ·
  cases e
  refine .inr ⟨g, 0, rfl, hg, cur, hbk, ?_, fun i hi => ?_⟩
  ·
   rw [hs, Nat.zero_add]
   exact Nat.mul_le_mul_right _ hn
  ·
   rw [Nat.zero_add, ← Array.getElem?_toList, ← List.getElem?_take_of_lt hi, ht]
   exact hf i hi
theorem OG.vt {f : Nat → Value} (h : OG t sz w base a n c xs) (hf : ∀ i, i < n * sz → xs[i]? = some (f i)) : VT t w base a (n * sz) f := by
 rcases h.2 with ⟨e, h0⟩ | ⟨g, cap, cur, e, hg, hbk, hn, hm, hs, ht⟩
 ·
  exact .inl (by rw [h0]; simp)
 ·
  cases e
  refine .inr ⟨g, rfl, hg, cur, hbk, ?_, fun i hi => ?_⟩
  ·
   rw [hs]
   exact Nat.mul_le_mul_right _ hn
  ·
   rw [← Array.getElem?_toList, ← List.getElem?_take_of_lt hi, ht]
   exact hf i hi
end
theorem OG.apart {t t' : TypeId} {sz sz' : Nat} {w : World} {base base' : Nat} {a a' : Option Addr} {n n' c c' : Nat} {xs xs' : List Value} (h : OG t sz w base a n c xs) (k : OG t' sz' w base' a' n' c' xs') (hne : t ≠ t') : ∀ x ∈ blkO a, x ∉ blkO a' := by
 intro x hx hy
 obtain ⟨cs, h1⟩ := h.type x hx
 obtain ⟨cs', h2⟩ := k.type x hy
 rw [h1] at h2
 simp at h2
 exact hne h2.2
theorem OG.nil (t : TypeId) (sz : Nat) (w : World) (base : Nat) : OG t sz w base none 0 0 [] := World.ownsRow_nil _ _ _ _
theorem intsV_z (n : Nat) (f : Nat → Int) (i : Nat) (h : i < n) : (intsV n f)[i]? = some (.int .i64 (f i)) := by
 unfold intsV
 rw [List.getElem?_map, List.getElem?_range h]
 rfl
theorem OI.vgI {w : World} {base : Nat} {a : Option Addr} {n c : Nat} {f : Nat → Int} (h : OI w base a n c f) : VG 2 w base a n fun i => .int .i64 (f i) := by
 have h2 : OG 2 1 w base a n c (intsV n f) := h
 have := h2.vg (f := fun i => .int .i64 (f i)) (fun i hi => intsV_z n f i (by omega))
 rwa [Nat.mul_one] at this
theorem OI.touchS {w w' : World} {base : Nat} {a : Option Addr} {n c : Nat} {f : Nat → Int} {S : List Nat} (h : OI w base a n c f) (ht : Touch S w w') (hp : ∀ x ∈ blkO a, x ∉ S) : OI w' base a n c f := OG.touchS (t := 2) (sz := 1) h ht hp
theorem Touch.ofGrown {w w' : World} {v : Value} {a : Option Addr} {n c : Nat} (h : w.grownBy w' (Value.slice a n c).ownBlock) : Touch (blkO a) w w' :=
 ⟨h.os, h.tape, h.output, h.size, fun k hk hn => h.block k hk (fun e => hn (by
  cases a with
  | none => simp [Value.ownBlock] at e
  | some x => simp [Value.ownBlock] at e; simp [blkO, e]))⟩
theorem appendOG {w : World} {base : Nat} {a : Option Addr} {n c : Nat} {xs : List Value} (t e : TypeId) (z : Value) (sz bytes : Nat) (hinfo : (Tryz.prog.info? e).map (fun i => (i.zero, i.size, i.bytes)) = some (some z, sz, bytes)) (hu : Tryz.prog.underlying t = some (.slice e)) (hz : z.cells.size = sz) (hsz : 0 < sz) (hby : bytes ≤ 1000)
  (h : OG e sz w base a n c xs) (hl : n ≤ 1048576) (hb : base ≤ w.heap.size) (cs : Array Value) (hcs : cs.size = sz) (h1 : cs.all (·.oneCell') = true) :
  ∃ g c' W, (Builtin.append_ #[t, t] t #[.slice a n c, .slice (some ⟨w.heap.size, 0, none⟩) 1 1]).run Tryz.prog (w.alloc (.cells cs e)) = .ok (.slice (some ⟨g, 0, none⟩) (n + 1) c') W ∧ OG e sz W base (some ⟨g, 0, none⟩) (n + 1) c' (xs ++ cs.toList) ∧ Touch (blkO a) w W ∧ (g ∈ blkO a ∨ w.heap.size ≤ g) := by
 obtain ⟨i0, hi, hz0, hz1, hz2⟩ := info_parts hinfo
 have hA : Below w.heap.size w (w.alloc (.cells cs e)) := (Below.refl _ _).alloc (Nat.le_refl _) _
 have hnew := blk_cell (blk_new w (.cells cs e))
 have hbb : (n + 1) * bytes ≤ 140737488355328 := by
  have := Nat.mul_le_mul (show n + 1 ≤ 1048577 by omega) hby
  omega
 obtain ⟨v', W, hr, h2, h3, h4, h5⟩ := run_append_own_at (P := Tryz.prog) (w.alloc (.cells cs e)) base t t e i0 z sz bytes hu hi hz0 hz1 hz2 hz hsz (.slice a n c) n xs (h.up hA) ⟨w.heap.size, 0, none⟩ 1 1 cs.toList (by rw [Array.length_toList, hcs, Nat.one_mul]) (fun j u hj => by
  have e0 : (⟨w.heap.size, 0, none⟩ : Addr).add j = ⟨w.heap.size, j, none⟩ := by unfold Addr.add; split <;> simp_all
  rw [e0, hnew j, ← Array.getElem?_toList]
  exact hj) (fun u hu => (Array.all_eq_true_iff_forall_mem.1 h1) u (by simpa using hu)) (by unfold maxLen; omega) hbb (by simp; omega)
 rcases h2.2 with ⟨_, h0⟩ | ⟨g, cap, cur, rfl, _⟩
 ·
  omega
 refine ⟨g, cap, W, hr, h2, Touch.ofGrown (v := .slice a n c) ((World.grownBy_alloc w _ _).trans h3), ?_⟩
 rcases h5 with h5 | h5
 ·
  left
  cases a with
  | none => simp [Value.ownBlock] at h5
  | some x => simp [Value.ownBlock] at h5; simp [blkO, h5]
 ·
  right
  simp only [Value.ownBlock, Option.some.injEq] at h5
  rw [h5]; simp
def slsV (n : Nat) (A : Nat → Option Addr) (L C : Nat → Nat) : List Value := (List.range n).map fun i => .slice (A i) (L i) (C i)
theorem slsV_succ (n : Nat) (A : Nat → Option Addr) (L C : Nat → Nat) : slsV (n + 1) A L C = slsV n A L C ++ [.slice (A n) (L n) (C n)] := by simp [slsV, List.range_succ]
theorem slsV_ext {n : Nat} {A A' : Nat → Option Addr} {L L' C C' : Nat → Nat} (h : ∀ i, i < n → A i = A' i ∧ L i = L' i ∧ C i = C' i) : slsV n A L C = slsV n A' L' C' := by
 unfold slsV
 refine List.map_congr_left fun i hi => ?_
 obtain ⟨h1, h2, h3⟩ := h i (List.mem_range.1 hi)
 rw [h1, h2, h3]
theorem slsV_get (n : Nat) (A : Nat → Option Addr) (L C : Nat → Nat) (i : Nat) (h : i < n) : (slsV n A L C)[i]? = some (.slice (A i) (L i) (C i)) := by
 unfold slsV
 rw [List.getElem?_map, List.getElem?_range h]
 rfl
theorem blkO_nodup (a : Option Addr) : (blkO a).Nodup := by cases a <;> simp [blkO]
theorem blkI_nodup (a : Option Addr) (n : Nat) : (blkI a n).Nodup := by
 unfold blkI
 split
 ·
  exact List.nodup_nil
 ·
  cases a <;> simp
theorem blkV_sub (a : Option Addr) (n : Nat) : List.Sublist (blkV a n) (blkO a) := by
 unfold blkV
 split
 ·
  exact List.nil_sublist _
 ·
  exact List.Sublist.refl _
theorem nodup_flat {f : Nat → List Nat} : ∀ n, (∀ i, i < n → (f i).Nodup) → (∀ i j, i < n → j < n → i ≠ j → ∀ x ∈ f i, x ∉ f j) → ((List.range n).flatMap f).Nodup := by
 intro n
 induction n with
 | zero => intro _ _; simp
 | succ n ih =>
  intro h1 h2
  rw [List.range_succ, List.flatMap_append]
  simp only [List.flatMap_cons, List.flatMap_nil, List.append_nil]
  refine List.nodup_append.2 ⟨ih (fun i hi => h1 i (by omega)) (fun i j hi hj => h2 i j (by omega) (by omega)), h1 n (by omega), fun x hx y hy e => ?_⟩
  subst e
  simp only [List.mem_flatMap, List.mem_range] at hx
  obtain ⟨i, hi, hx⟩ := hx
  exact h2 i n (by omega) (by omega) (by omega) x hx hy
def flO (n : Nat) (A : Nat → Option Addr) : List Nat := (List.range n).flatMap fun i => blkO (A i)
theorem flO_mem {n : Nat} {A : Nat → Option Addr} {x : Nat} : x ∈ flO n A ↔ ∃ i, i < n ∧ x ∈ blkO (A i) := by
 unfold flO
 simp
def Rnd.blkz (R : Rnd) : List Nat := blkI R.aQ R.nQ ++ (blkI R.aD R.nD ++ flO R.nS R.A)
theorem OwnRz.nd {w : World} {base : Nat} {R : Rnd} (h : OwnRz w base R) : R.blkz.Nodup := by
 refine List.nodup_append.2 ⟨blkI_nodup _ _, List.nodup_append.2 ⟨blkI_nodup _ _, nodup_flat _ (fun i _ => blkO_nodup _) h.zz, fun x hx y hy e => ?_⟩, fun x hx y hy e => ?_⟩
 ·
  subst e
  obtain ⟨i, hi, hy⟩ := flO_mem.1 hy
  exact h.dz i hi x hx hy
 ·
  subst e
  rcases List.mem_append.1 hy with hy | hy
  ·
   exact h.own.qd x hx hy
  ·
   obtain ⟨i, hi, hy⟩ := flO_mem.1 hy
   exact h.qz i hi x hx hy
theorem OwnRz.blk {w : World} {base : Nat} {R : Rnd} (h : OwnRz w base R) : ∀ x ∈ R.blkz, base ≤ x ∧ x < w.heap.size := by
 intro x hx
 rcases List.mem_append.1 hx with hx | hx
 ·
  exact h.own.q.blk x hx
 rcases List.mem_append.1 hx with hx | hx
 ·
  exact h.own.d.blk x hx
 ·
  obtain ⟨i, hi, hx⟩ := flO_mem.1 hx
  exact (h.z i hi).blk x hx
def Lng.blkz (l : Lng) : List Nat := (blkO l.aT ++ l.R.blkz) ++ flO l.nU l.uA
structure OwnLz (w : World) (base : Nat) (l : Lng) : Prop where
 t : OI w base l.aT l.nT l.cT l.t
 u : OG 25 1 w base l.aU l.nU l.cU (slsV l.nU l.uA l.uL l.uC)
 z : ∀ i, i < l.nU → OI w base (l.uA i) (l.uL i) (l.uC i) (l.uz i)
 r : OwnRz w base l.R
 nd : l.blkz.Nodup
 su : ∀ x ∈ blkI l.R.aS l.R.nS, x ∉ blkO l.aU
theorem OwnLz.g {w : World} {base : Nat} {l : Lng} (h : OwnLz w base l) : OwnLg w base l := by
 refine ⟨h.t.vgI, ?_, fun i hi => (h.z i hi).vgI, h.r.own.q.g, h.r.own.d.g, h.r.own.s.g, fun i hi => (h.r.z i hi).vgI, ?_⟩
 ·
  have := h.u.vg (f := fun i => .slice (l.uA i) (l.uL i) (l.uC i)) (fun i hi => slsV_get _ _ _ _ i (by omega))
  rwa [Nat.mul_one] at this
 ·
  have hp : l.blks.Perm ((blkV l.aT l.nT ++ (blkV l.R.aQ l.R.nQ ++ (blkV l.R.aD l.R.nD ++ blkS l.R.nS l.R.A l.R.L))) ++ blkS l.nU l.uA l.uL) := by
   unfold Lng.blks
   rw [List.append_assoc]
   exact List.Perm.append_left _ List.perm_append_comm
  refine hp.nodup_iff.2 (List.Sublist.nodup ?_ h.nd)
  have hs : ∀ (n : Nat) (A : Nat → Option Addr) (L : Nat → Nat), List.Sublist (blkS n A L) (flO n A) := by
   intro n A L
   unfold blkS flO
   induction n with
   | zero => exact List.Sublist.refl _
   | succ n ih =>
    rw [List.range_succ, List.flatMap_append, List.flatMap_append]
    refine ih.append ?_
    simp only [List.flatMap_cons, List.flatMap_nil, List.append_nil]
    exact blkV_sub _ _
  exact ((blkV_sub _ _).append ((List.Sublist.refl _).append ((List.Sublist.refl _).append (hs _ _ _)))).append (hs _ _ _)
theorem OwnLz.blk {w : World} {base : Nat} {l : Lng} (h : OwnLz w base l) : ∀ x ∈ l.blkz, base ≤ x ∧ x < w.heap.size := by
 intro x hx
 unfold Lng.blkz at hx
 simp only [List.mem_append] at hx
 rcases hx with (hx | hx) | hx
 ·
  exact h.t.blk x hx
 ·
  exact h.r.blk x hx
 ·
  obtain ⟨i, hi, hx⟩ := flO_mem.1 hx
  exact (h.z i hi).blk x hx
theorem OwnRz.upZ {w w' : World} {base : Nat} {R : Rnd} (h : OwnRz w base R) (hb : Below w.heap.size w w') : OwnRz w' base R :=
 ⟨⟨h.own.q.up hb, h.own.d.up hb, h.own.s.up hb, fun i hi => (h.own.z i hi).up hb, h.own.qd, h.own.qz, h.own.dz, h.own.zz⟩, fun i hi => (h.z i hi).up hb, h.qz, h.dz, h.zz⟩
theorem OwnRz.monoZ {w : World} {base base' : Nat} {R : Rnd} (h : OwnRz w base R) (hb : base' ≤ base) : OwnRz w base' R :=
 ⟨⟨h.own.q.mono hb, h.own.d.mono hb, h.own.s.mono hb, fun i hi => (h.own.z i hi).mono hb, h.own.qd, h.own.qz, h.own.dz, h.own.zz⟩, fun i hi => (h.z i hi).mono hb, h.qz, h.dz, h.zz⟩
theorem VS.touchS {w w' : World} {base : Nat} {a : Option Addr} {n : Nat} {f : Nat → Value} {S : List Nat} (h : VS w base a n f) (ht : Touch S w w') (hp : ∀ x ∈ blkI a n, x ∉ S) : VS w' base a n f := by
 rcases h with h | ⟨g, rfl, hg, hr⟩
 ·
  exact .inl h
 ·
  by_cases h0 : n = 0
  ·
   exact .inl h0
  exact .inr ⟨g, rfl, hg, hr.keep (ht.block g hr.lt (hp g (blkI_mem h0)))⟩
theorem VS.blkS {w : World} {base : Nat} {a : Option Addr} {n : Nat} {f : Nat → Value} (h : VS w base a n f) : ∀ x ∈ blkI a n, (base ≤ x ∧ x < w.heap.size) ∧ ∃ cs, w.heap[x]? = some (.cells cs 25 (0, 0)) := by
 intro x hx
 unfold blkI at hx
 split at hx
 ·
  simp at hx
 ·
  rcases h with h | ⟨g, rfl, hg, hr⟩
  ·
   contradiction
  ·
   simp at hx
   subst hx
   obtain ⟨cs, hc, _⟩ := hr
   exact ⟨⟨hg, blk_lt hc⟩, cs, hc⟩
theorem OwnRz.touchZ {w w' : World} {base : Nat} {R : Rnd} {S : List Nat} (h : OwnRz w base R) (ht : Touch S w w') (h1 : ∀ x ∈ R.blkz, x ∉ S) (h2 : ∀ x ∈ blkI R.aS R.nS, x ∉ S) : OwnRz w' base R := by
 have hq : ∀ x ∈ blkI R.aQ R.nQ, x ∉ S := fun x hx => h1 x (List.mem_append_left _ hx)
 have hd : ∀ x ∈ blkI R.aD R.nD, x ∉ S := fun x hx => h1 x (List.mem_append_right _ (List.mem_append_left _ hx))
 have hz : ∀ i, i < R.nS → ∀ x ∈ blkO (R.A i), x ∉ S := fun i hi x hx => h1 x (List.mem_append_right _ (List.mem_append_right _ (flO_mem.2 ⟨i, hi, hx⟩)))
 exact ⟨⟨h.own.q.touchS ht hq, h.own.d.touchS ht hd, h.own.s.touchS ht h2, fun i hi => (h.own.z i hi).touchS ht (fun x hx => hz i hi x (blkI_sub hx)), h.own.qd, h.own.qz, h.own.dz, h.own.zz⟩, fun i hi => (h.z i hi).touchS ht (hz i hi), h.qz, h.dz, h.zz⟩
theorem OwnLz.up {w w' : World} {base : Nat} {l : Lng} (h : OwnLz w base l) (hb : Below w.heap.size w w') : OwnLz w' base l := ⟨h.t.up hb, h.u.up hb, fun i hi => (h.z i hi).up hb, h.r.upZ hb, h.nd, h.su⟩
theorem OwnLz.mono {w : World} {base base' : Nat} {l : Lng} (h : OwnLz w base l) (hb : base' ≤ base) : OwnLz w base' l := ⟨h.t.mono hb, h.u.mono hb, fun i hi => (h.z i hi).mono hb, h.r.monoZ hb, h.nd, h.su⟩
theorem OwnLz.touch {w w' : World} {base : Nat} {l : Lng} {S : List Nat} (h : OwnLz w base l) (ht : Touch S w w') (h1 : ∀ x ∈ l.blkz, x ∉ S) (h2 : ∀ x ∈ blkO l.aU, x ∉ S) (h3 : ∀ x ∈ blkI l.R.aS l.R.nS, x ∉ S) : OwnLz w' base l := by
 have k1 : ∀ x ∈ blkO l.aT, x ∉ S := fun x hx => h1 x (List.mem_append_left _ (List.mem_append_left _ hx))
 have k2 : ∀ x ∈ l.R.blkz, x ∉ S := fun x hx => h1 x (List.mem_append_left _ (List.mem_append_right _ hx))
 have k3 : ∀ i, i < l.nU → ∀ x ∈ blkO (l.uA i), x ∉ S := fun i hi x hx => h1 x (List.mem_append_right _ (flO_mem.2 ⟨i, hi, hx⟩))
 exact ⟨h.t.touchS ht k1, h.u.touchS ht h2, fun i hi => (h.z i hi).touchS ht (k3 i hi), h.r.touchZ ht k2 h3, h.nd, h.su⟩
theorem OwnRz.type2 {w : World} {base : Nat} {R : Rnd} (h : OwnRz w base R) : ∀ x ∈ R.blkz, ∃ cs, w.heap[x]? = some (.cells cs 2 (0, 0)) := by
 intro x hx
 rcases List.mem_append.1 hx with hx | hx
 ·
  exact h.own.q.g.type x hx
 rcases List.mem_append.1 hx with hx | hx
 ·
  exact h.own.d.g.type x hx
 ·
  obtain ⟨i, hi, hx⟩ := flO_mem.1 hx
  exact OG.type (t := 2) (sz := 1) (h.z i hi) x hx
theorem OwnLz.type2 {w : World} {base : Nat} {l : Lng} (h : OwnLz w base l) : ∀ x ∈ l.blkz, ∃ cs, w.heap[x]? = some (.cells cs 2 (0, 0)) := by
 intro x hx
 unfold Lng.blkz at hx
 simp only [List.mem_append] at hx
 rcases hx with (hx | hx) | hx
 ·
  exact OG.type (t := 2) (sz := 1) h.t x hx
 ·
  exact h.r.type2 x hx
 ·
  obtain ⟨i, hi, hx⟩ := flO_mem.1 hx
  exact OG.type (t := 2) (sz := 1) (h.z i hi) x hx
theorem OwnLz.box {w w' : World} {base g : Nat} {l : Lng} {cs : Array Value} {t : TypeId} (h : OwnLz w base l) (hg : w.heap[g]? = some (.cells cs t (0, 0))) (ht2 : t ≠ 2) (hts : t ≠ 25) (ht : Touch [g] w w') : OwnLz w' base l := by
 refine h.touch ht (fun x hx hy => ?_) (fun x hx hy => ?_) (fun x hx hy => ?_)
 ·
  obtain ⟨cs', h1⟩ := h.type2 x hx
  rw [List.mem_singleton.1 hy, hg] at h1
  simp at h1
  exact ht2 h1.2
 ·
  obtain ⟨cs', h1⟩ := h.u.type x hx
  rw [List.mem_singleton.1 hy, hg] at h1
  simp at h1
  exact hts h1.2
 ·
  obtain ⟨_, cs', h1⟩ := h.r.own.s.blkS x hx
  rw [List.mem_singleton.1 hy, hg] at h1
  simp at h1
  exact hts h1.2
theorem range_flatMap_congrO {f g : Nat → List Nat} : ∀ {k : Nat}, (∀ i, i < k → f i = g i) → (List.range k).flatMap f = (List.range k).flatMap g := by
 intro k h
 induction k with
 | zero => rfl
 | succ k ih =>
  rw [List.range_succ, List.flatMap_append, List.flatMap_append, ih (fun i hi => h i (by omega))]
  simp only [List.flatMap_cons, List.flatMap_nil, List.append_nil]
  rw [h k (by omega)]
def Lng.more (l : Lng) (k : Nat) (aU : Option Addr) (cU : Nat) (a : Option Addr) (c : Nat) : Lng := { l with aU := aU, nU := k + 1, cU := cU, uA := fun i => if i = k then a else l.uA i, uC := fun i => if i = k then c else l.uC i }
theorem OwnLz.more {V V1 W : World} {base k g c2 c : Nat} {l : Lng} {a : Option Addr} (h : OwnLz V base l) (hk : l.nU = k) (hb : Below V.heap.size V V1) (hbase : base ≤ V.heap.size) (ho : OI V1 V.heap.size a (l.uL k) c (l.uz k))
  (hu : OG 25 1 W base (some ⟨g, 0, none⟩) (k + 1) c2 (slsV k l.uA l.uL l.uC ++ [.slice a (l.uL k) c])) (ht : Touch (blkO l.aU) V1 W) (hg : g ∈ blkO l.aU ∨ V1.heap.size ≤ g) : OwnLz W base (l.more k (some ⟨g, 0, none⟩) c2 a c) := by
 subst hk
 have h1 := h.up hb
 have q1 : ∀ x ∈ l.blkz, x ∉ blkO l.aU := fun x hx hy => by
  obtain ⟨cs, e1⟩ := h.type2 x hx
  obtain ⟨cs', e2⟩ := h.u.type x hy
  rw [e1] at e2
  simp at e2
 have k1 : ∀ x ∈ blkO l.aT, x ∉ blkO l.aU := fun x hx => q1 x (List.mem_append_left _ (List.mem_append_left _ hx))
 have k2 : ∀ x ∈ l.R.blkz, x ∉ blkO l.aU := fun x hx => q1 x (List.mem_append_left _ (List.mem_append_right _ hx))
 have k3 : ∀ i, i < l.nU → ∀ x ∈ blkO (l.uA i), x ∉ blkO l.aU := fun i hi x hx => q1 x (List.mem_append_right _ (flO_mem.2 ⟨i, hi, hx⟩))
 refine ⟨h1.t.touchS ht k1, ?_, fun i hi => ?_, h1.r.touchZ ht k2 h.su, ?_, fun x hx hy => ?_⟩
 ·
  have e : slsV (l.nU + 1) (fun i => if i = l.nU then a else l.uA i) l.uL (fun i => if i = l.nU then c else l.uC i) = slsV l.nU l.uA l.uL l.uC ++ [.slice a (l.uL l.nU) c] := by
   rw [slsV_succ, slsV_ext (n := l.nU) (A := fun i => if i = l.nU then a else l.uA i) (L := l.uL) (C := fun i => if i = l.nU then c else l.uC i) (A' := l.uA) (L' := l.uL) (C' := l.uC) (fun i hi => ⟨if_neg (by omega), rfl, if_neg (by omega)⟩), if_pos rfl, if_pos rfl]
  rw [← e] at hu
  exact hu
 ·
  show OI W base (if i = l.nU then a else l.uA i) (l.uL i) (if i = l.nU then c else l.uC i) (l.uz i)
  by_cases e : i = l.nU
  ·
   rw [if_pos e, if_pos e, e]
   refine OI.mono (ho.touchS ht (fun x hx hy => ?_)) hbase
   have := (ho.blk x hx).1
   have := (h.u.blk x hy).2
   omega
  ·
   rw [if_neg e, if_neg e]
   have hi' : i < l.nU := by have : i < l.nU + 1 := hi; omega
   exact (h1.z i hi').touchS ht (k3 i hi')
 ·
  show ((blkO l.aT ++ l.R.blkz) ++ (List.range (l.nU + 1)).flatMap fun i => blkO (if i = l.nU then a else l.uA i)).Nodup
  rw [List.range_succ, List.flatMap_append]
  simp only [List.flatMap_cons, List.flatMap_nil, List.append_nil, if_true]
  rw [range_flatMap_congrO (f := fun i => blkO (if i = l.nU then a else l.uA i)) (g := fun i => blkO (l.uA i)) (fun i hi => by rw [if_neg (by omega)]), ← List.append_assoc]
  refine nodup_app h.nd (blkO_nodup _) V.heap.size (fun x hx => (h.blk x hx).2) (fun x hx => (ho.blk x hx).1)
 ·
  have hx1 := (h.r.own.s.blkS x hx).1.2
  have hy' : x = g := by simpa [Lng.more, blkO] using hy
  rcases hg with hg | hg
  ·
   exact h.su x hx (hy' ▸ hg)
  ·
   have := hb.size
   omega
open Go.Shelf
def laysM316_ren : Go.Shelf.Ren := ⟨fun | 316 => 135 | n => n, fun | 9 => 9 | 3 => 3 | 4 => 4 | 37 => 158 | 0 => 0 | 127 => 177 | 5 => 5 | n => n, fun | n => n⟩
theorem laysM316 : Go.Proofs.LaysM.n316 Tryz.prog laysM316_ren := {
 mixed := by kernel_rfl
 f316 := Tryz.func135.trans (congrArg some (by kernel_rfl))
 t0 := Tryz.underlying0
 a0 := Tryz.isAgg0
 z0 := Tryz.sizeOf0
 v0 := Tryz.zeroValue0
 t3 := Tryz.underlying3
 a3 := Tryz.isAgg3
 z3 := Tryz.sizeOf3
 v3 := Tryz.zeroValue3
 t4 := Tryz.underlying4
 a4 := Tryz.isAgg4
 z4 := Tryz.sizeOf4
 v4 := Tryz.zeroValue4
 t9 := Tryz.underlying9
 a9 := Tryz.isAgg9
 z9 := Tryz.sizeOf9
 v9 := Tryz.zeroValue9
 t37 := Tryz.underlying158
 a37 := Tryz.isAgg158
 z37 := Tryz.sizeOf158
 v37 := Tryz.zeroValue158
 t127 := Tryz.underlying177
 a127 := Tryz.isAgg177
 z127 := Tryz.sizeOf177
 v127 := Tryz.zeroValue177
 t5 := Tryz.underlying5
 a5 := Tryz.isAgg5
 z5 := Tryz.sizeOf5
 v5 := Tryz.zeroValue5
 i0 := by kernel_rfl
 i3 := by kernel_rfl
 i4 := by kernel_rfl
 i5 := by kernel_rfl
 i9 := by kernel_rfl
 i37 := by kernel_rfl
 i127 := by kernel_rfl }
open Go.RowKit in
theorem clone57 (s : ByteArray) (w : World) (hlim : s.size ≤ 281474976710656) :
  Calls Tryz.prog 135 #[.string s] w fun e w' => e = .returned (.string s) ∧ Below w.heap.size w w' := Go.Proofs.Any.stringslite_Clone laysM316 s w hlim
theorem cloneS_any (s : ByteArray) (w : World) (hlim : s.size ≤ 1048576) :
  Calls Tryz.prog 123 #[.string s] w fun e w' => e = .returned (.string s) ∧ Below w.heap.size w w' := by
 go_enter Tryz.func123, Tryz.ntmps123
 go_wp2_with fail
 refine (clone57 s _ (by omega)).mono ?_
 rintro e w1 ⟨rfl, hb⟩
 go_wp2_with fail
 go_ret
 exact ⟨rfl, hb⟩
theorem copyFrame_any (k d s p : Int) (b : ByteArray) (w : World) (hlim : b.size ≤ 1048576) :
  Calls Tryz.prog 87 #[.agg #[.int .i64 k, .int .i64 d, .int .i64 s, .int .i64 p, .string b]] w fun e w' => e = .returned (.agg #[.int .i64 k, .int .i64 d, .int .i64 s, .int .i64 p, .string b]) ∧ Below w.heap.size w w' := by
 go_enter Tryz.func87, Tryz.ntmps87
 go_wp2_with fail
 refine (cloneS_any b _ hlim).mono ?_
 rintro e w1 ⟨rfl, hb⟩
 have HX : Hid (Boxes w #[.int .i64 k, .int .i64 d, .int .i64 s, .int .i64 p, .string b] #[.int .i64 0, .int .i64 0, .int .i64 0, .int .i64 0, .string ⟨#[]⟩] #[.int .i64 k, .int .i64 d, .int .i64 s, .int .i64 p, .string b] 58 58 w1) := (Boxes.start w #[.int .i64 k, .int .i64 d, .int .i64 s, .int .i64 p, .string b] #[.int .i64 0, .int .i64 0, .int .i64 0, .int .i64 0, .string ⟨#[]⟩] #[.int .i64 k, .int .i64 d, .int .i64 s, .int .i64 p, .string b] 58 58).up hb
 clear hb
 have HC : Hid (w1.heap[w.heap.size + 1 + 1]? = some (.cells #[.int .i64 k, .int .i64 d, .int .i64 s, .int .i64 p, .string b] 58 (0, 0))) := HX.out.c
 go_wp2_with (refine wpList_stA rfl 9 (.tmp 8) (.tmp 7) rfl (w.heap.size + 1 + 1) 4 rfl (.string b) rfl 1 rfl 58 _ HC.out (by kernel_rfl) (Nat.le_of_ble_eq_true rfl) (by simp [Value.cells, Value.oneCell']) ?_)
 intro w2 hP
 replace hP : Put w1 w2 (w.heap.size + 1 + 1) #[.int .i64 k, .int .i64 d, .int .i64 s, .int .i64 p, .string b] 58 := hP.cast rfl
 replace HX : Hid (Boxes w #[.int .i64 k, .int .i64 d, .int .i64 s, .int .i64 p, .string b] #[.int .i64 0, .int .i64 0, .int .i64 0, .int .i64 0, .string ⟨#[]⟩] #[.int .i64 k, .int .i64 d, .int .i64 s, .int .i64 p, .string b] 58 58 w2) := HX.out.put hP
 clear hP HC
 have HL : Hid (∀ j, j < 5 → w2.cell? ⟨w.heap.size + 1 + 1, 0 + j, none⟩ = (#[.int .i64 k, .int .i64 d, .int .i64 s, .int .i64 p, .string b] : Array Value)[j]?) := fun j _ => by rw [Nat.zero_add]; exact blk_cell HX.out.c j
 have HD : Hid (w2.heap[w.heap.size + 1]? = some (.cells #[.int .i64 0, .int .i64 0, .int .i64 0, .int .i64 0, .string ⟨#[]⟩] 58 (0, 0))) := HX.out.b
 go_wp2_with (first | refine wpList_ldT rfl 58 5 _ Tryz.underlying58 rfl infoFrI (.tmp 3) rfl (w.heap.size + 1 + 1) 0 rfl #[.int .i64 k, .int .i64 d, .int .i64 s, .int .i64 p, .string b] rfl HL.out ?_ | refine wpList_stA rfl 58 (.tmp 2) (.tmp 9) rfl (w.heap.size + 1) 0 rfl (.agg #[.int .i64 k, .int .i64 d, .int .i64 s, .int .i64 p, .string b]) rfl 5 rfl 58 _ HD.out infoFrI (Nat.le_of_ble_eq_true rfl) (by simp [Value.cells, Value.oneCell']) ?_)
 intro w3 hP
 replace hP : Put w2 w3 (w.heap.size + 1) #[.int .i64 k, .int .i64 d, .int .i64 s, .int .i64 p, .string b] 58 := hP.cast rfl
 have HK : Hid (w3.heap[w.heap.size + 1]? = some (.cells #[.int .i64 k, .int .i64 d, .int .i64 s, .int .i64 p, .string b] 58 (0, 0))) := hP.blk
 have HB : Hid (Below w.heap.size w w3) := (HX.out.out hP).bel
 clear hP HL HD
 go_wp2_with fail
 exact bodyPost_ret (res_cellT Tryz.results87 5 _ Tryz.underlying58 rfl infoFrI _ _ (w.heap.size + 1) #[.int .i64 k, .int .i64 d, .int .i64 s, .int .i64 p, .string b] rfl 58 HK.out rfl) rfl ⟨rfl, HB.out⟩
theorem infoPkZ : (Tryz.prog.info? 60).map (fun i => (i.zero, i.size, i.bytes)) = some (some (.agg #[.int .i64 0, .int .i64 0, .int .i64 0, .int .i64 0, .int .i64 0, .int .i64 0, .int .i64 0, .string ⟨#[]⟩]), 8, 72) := by kernel_rfl
def zPks (n : Nat) : Array Value := madeCells #[.int .i64 0, .int .i64 0, .int .i64 0, .int .i64 0, .int .i64 0, .int .i64 0, .int .i64 0, .string ⟨#[]⟩] (n * 8)
theorem make_pks (n : Nat) (hn : n ≤ 1048576) (w : World) : (Instr.makeSlice 38 (.int .i64 (n : Int)) (.int .i64 (n : Int))).run Tryz.prog w = .ok (.slice (some ⟨w.heap.size, 0, none⟩) n n) (w.alloc (.cells (zPks n) 60)) := by
 obtain ⟨i0, hi, hz0, hz1, hz2⟩ := info_parts infoPkZ
 have := run_make (P := Tryz.prog) w 38 60 i0 _ Tryz.underlying38 hi hz0 .i64 .i64 (n : Int) (n : Int) (by omega) (by omega) (by rw [hz2]; omega) (by omega)
 rw [this, hz1]
 simp [zPks, Value.cells]
theorem infoLgZ : (Tryz.prog.info? 67).map (fun i => (i.zero, i.size, i.bytes)) = some (some (.agg #[.bool false, .slice none 0 0, .slice none 0 0, .slice none 0 0, .slice none 0 0, .int .i64 0, .bool false, .slice none 0 0]), 8, 144) := by kernel_rfl
def zLns (n : Nat) : Array Value := madeCells #[.bool false, .slice none 0 0, .slice none 0 0, .slice none 0 0, .slice none 0 0, .int .i64 0, .bool false, .slice none 0 0] (n * 8)
theorem make_lns (n : Nat) (hn : n ≤ 1048576) (w : World) : (Instr.makeSlice 39 (.int .i64 (n : Int)) (.int .i64 (n : Int))).run Tryz.prog w = .ok (.slice (some ⟨w.heap.size, 0, none⟩) n n) (w.alloc (.cells (zLns n) 67)) := by
 obtain ⟨i0, hi, hz0, hz1, hz2⟩ := info_parts infoLgZ
 have := run_make (P := Tryz.prog) w 39 67 i0 _ Tryz.underlying39 hi hz0 .i64 .i64 (n : Int) (n : Int) (by omega) (by omega) (by rw [hz2]; omega) (by omega)
 rw [this, hz1]
 simp [zLns, Value.cells]
theorem rowTo_put {w W : World} {g n k : Nat} {t : TypeId} {F : Nat → Value} {arr cs : Array Value} (hn : n * 8 ≤ arr.size) (hc : ∀ i, i < k * 8 → arr[i]? = some (F i)) (hlt : k < n) (hs : cs.size = 8) (hcs : ∀ j, j < 8 → some (F (k * 8 + j)) = cs[j]?) (hP : Put w W g (lay arr (k * 8) cs) t) : RowTo g t (n * 8) F ((k + 1) * 8) W := by
 have hf : k * 8 + cs.size ≤ arr.size := by omega
 refine ⟨_, hP.blk, by rw [lay_size hf]; exact hn, fun i hi => ?_⟩
 by_cases e : i < k * 8
 ·
  rw [lay_lo hf i e]
  exact hc i e
 ·
  have := lay_at hf (i - k * 8) (by omega)
  rw [show k * 8 + (i - k * 8) = i by omega] at this
  rw [this, ← hcs _ (by omega), show k * 8 + (i - k * 8) = i by omega]
set_option maxRecDepth 10000 in
set_option maxHeartbeats 1000000 in
theorem toPackets_any (a : Option Addr) (n cap : Nat) (K : Nat → Pkt) (w : World) (hn : n ≤ 1048576) (h : RdPk w a n K) :
  Calls Tryz.prog 28 #[.slice a n cap] w fun e w' => e = .returned (.slice (some ⟨w.heap.size, 0, none⟩) n n) ∧ RowTo w.heap.size 60 (n * 8) (flatK K) (n * 8) w' ∧ Below w.heap.size w w' := by
 have mk := make_pks n hn
 have HR : Hid (RdPk w a n K) := h
 clear h
 go_enter Tryz.func28, Tryz.ntmps28
 go_wp2_with fail
 clear mk
 go_loopw [4] (fun i wr => ∃ k : Nat, k ≤ n ∧ i = .int .i64 k ∧ Hid (RowTo w.heap.size 60 (n * 8) (flatK K) (k * 8) wr) ∧ Hid (Below w.heap.size w wr)) (fun i _ => n - (intOf i).toNat)
 case atStart => exact ⟨0, Nat.zero_le _, rfl, ⟨_, blk_new w _, by simp [zPks, size_madeCells], fun i hi => by omega⟩, (Below.refl _ _).alloc (Nat.le_refl _) _⟩
 case round =>
  obtain ⟨k, hk, rfl, HT, HB⟩ := hrel
  by_cases hlt : k < n
  ·
   have hlt' : (k : Int) < n := by omega
   obtain ⟨g, o, ha, hc⟩ := (HR.out.up HB.out) k hlt
   subst ha
   have HC : Hid (∀ j, j < 8 → wr.cell? ⟨g, o + k * 8 + j, none⟩ = (K k).cells[j]?) := hc
   clear hc
   go_wp2_with (refine wpList_ldT rfl 92 8 _ Tryz.underlying92 rfl infoPkL (.tmp 18) rfl g (o + k * 8) rfl (K k).cells rfl HC.out ?_)
   refine (toPacket_any (K k) _).mono ?_
   rintro e w1 ⟨rfl, hb1⟩
   have HB1 : Hid (Below w.heap.size w w1) := HB.out.trans (hb1.mono HB.out.size)
   have R1 := HT.out.keep (hb1.block _ HT.out.lt)
   obtain ⟨arr, hb2, hn2, hc2⟩ := R1
   have HG : Hid (w1.heap[w.heap.size]? = some (.cells arr 60 (0, 0))) := hb2
   have HN : Hid (n * 8 ≤ arr.size ∧ ∀ i, i < k * 8 → arr[i]? = some (flatK K i)) := ⟨hn2, hc2⟩
   clear hb1 HB HT HC hb2 hn2 hc2
   go_wp2_with (refine wpList_stA rfl 60 (.tmp 21) (.tmp 20) rfl w.heap.size (k * 8) (by simp [Act.eval]) (.agg (K k).cells) rfl 8 rfl 60 arr HG.out infoPkI (by have := HN.out.1; omega) (Pkt.oneC _) ?_)
   intro W2 hP
   have HT2 : Hid (RowTo w.heap.size 60 (n * 8) (flatK K) ((k + 1) * 8) W2) := rowTo_put HN.out.1 HN.out.2 hlt rfl (fun j hj => flatK_at K k j hj) hP
   have HB2 : Hid (Below w.heap.size w W2) := HB1.out.trans (hP.to.below HB1.out.size (fun x hx => by simp at hx; omega))
   clear hP HB1 HG HN
   go_wp2_with fail
   go_roundw
   case rel => exact ⟨k + 1, by omega, by go_num, HT2, HB2⟩
   case measure => simp [intOf]; omega
  ·
   obtain rfl : k = n := by omega
   go_wp2_with fail
   go_ret
   exact ⟨rfl, HT.out, HB.out⟩
structure LaidL (w : World) (L L2 : Nat → Lng) (n k : Nat) (wr : World) : Prop where
 r : RowTo w.heap.size 67 (n * 8) (flatG L2) (k * 8) wr
 a : ∀ i, i < k → AlikeL (L i) (L2 i)
 o : ∀ i, i < k → OwnLg wr (w.heap.size + 1) (L2 i)
 d : ((List.range k).flatMap fun i => (L2 i).blks).Nodup
 b : Below w.heap.size w wr
 s : w.heap.size < wr.heap.size
theorem flatG_ext {L L' : Nat → Lng} {k i : Nat} (h : ∀ j, j < k → L' j = L j) (hi : i < k * 8) : flatG L' i = flatG L i := by
 unfold flatG
 rw [h (i / 8) (by omega)]
theorem LaidL.up {w : World} {L L2 : Nat → Lng} {n k : Nat} {wr w1 : World} (h : LaidL w L L2 n k wr) (hb : Below wr.heap.size wr w1) : LaidL w L L2 n k w1 :=
 ⟨h.r.keep (hb.block _ h.r.lt), h.a, fun i hi => (h.o i hi).up hb, h.d, h.b.trans (hb.mono h.b.size), Nat.lt_of_lt_of_le h.s hb.size⟩
theorem range_flatMap_congr {f g : Nat → List Nat} : ∀ {k : Nat}, (∀ i, i < k → f i = g i) → (List.range k).flatMap f = (List.range k).flatMap g := by
 intro k h
 induction k with
 | zero => rfl
 | succ k ih =>
  rw [List.range_succ, List.flatMap_append, List.flatMap_append, ih (fun i hi => h i (by omega))]
  simp only [List.flatMap_cons, List.flatMap_nil, List.append_nil]
  rw [h k (by omega)]
theorem LaidL.step {w : World} {L L2 : Nat → Lng} {n k : Nat} {wr w1 W : World} {l2 : Lng} {arr : Array Value} (h : LaidL w L L2 n k wr) (hlt : k < n) (hb : Below wr.heap.size wr w1) (ha : AlikeL (L k) l2) (ho : OwnLg w1 wr.heap.size l2)
  (hn : n * 8 ≤ arr.size) (hc : ∀ i, i < k * 8 → arr[i]? = some (flatG L2 i)) (hP : Put w1 W w.heap.size (lay arr (k * 8) l2.cells) 67) : LaidL w L (fun i => if i = k then l2 else L2 i) n (k + 1) W := by
 have hs := h.s
 have h1 := h.up hb
 refine ⟨?_, fun i hi => ?_, fun i hi => ?_, ?_, h1.b.trans (hP.to.below h1.b.size (fun x hx => by simp at hx; omega)), by rw [hP.size]; exact h1.s⟩
 ·
  refine rowTo_put hn (fun i hi => ?_) hlt rfl (fun j hj => ?_) hP
  ·
   rw [hc i hi, flatG_ext (L := L2) (k := k) (fun j hj => if_neg (by omega)) hi]
  ·
   rw [flatG_at _ k j hj]
   simp only [if_true]
 ·
  by_cases e : i = k
  ·
   subst e
   simp only [if_true]
   exact ha
  ·
   simp only [if_neg e]
   exact h.a i (by omega)
 ·
  by_cases e : i = k
  ·
   simp only [e, if_true]
   exact (ho.low hP.to (fun x hx => by simp at hx; omega)).mono (by omega)
  ·
   simp only [if_neg e]
   exact (h1.o i (by omega)).low hP.to (fun x hx => by simp at hx; omega)
 ·
  rw [List.range_succ, List.flatMap_append]
  simp only [List.flatMap_cons, List.flatMap_nil, List.append_nil, if_true]
  rw [range_flatMap_congr (f := fun i => (if i = k then l2 else L2 i).blks) (g := fun i => (L2 i).blks) (fun i hi => by rw [if_neg (by omega)])]
  refine nodup_app h.d ho.nd wr.heap.size (fun x hx => ?_) (fun x hx => (ho.blk x hx).1)
  simp only [List.mem_flatMap, List.mem_range] at hx
  obtain ⟨i, hi, hx⟩ := hx
  exact ((h.o i hi).blk x hx).2
set_option maxRecDepth 10000 in
set_option maxHeartbeats 1000000 in
theorem toLanes_any (a : Option Addr) (n cap : Nat) (L : Nat → Lng) (w : World) (hn : n ≤ 1048576) (hs : ∀ i, i < n → (L i).Small) (h : RdLs w a n L) (hr : ∀ i, i < n → RdLg w (L i)) :
  Calls Tryz.prog 29 #[.slice a n cap] w fun e w' => e = .returned (.slice (some ⟨w.heap.size, 0, none⟩) n n) ∧ ∃ L2, LaidL w L L2 n n w' := by
 have mk := make_lns n hn
 have HR : Hid (RdLs w a n L) := h
 have HL : Hid (∀ i, i < n → RdLg w (L i)) := hr
 have HS : Hid (∀ i, i < n → (L i).Small) := hs
 clear h hr hs
 go_enter Tryz.func29, Tryz.ntmps29
 go_wp2_with fail
 clear mk
 go_loopw [4] (fun i wr => ∃ (k : Nat) (L2 : Nat → Lng), k ≤ n ∧ i = .int .i64 k ∧ Hid (LaidL w L L2 n k wr)) (fun i _ => n - (intOf i).toNat)
 case atStart => exact ⟨0, L, Nat.zero_le _, rfl, ⟨⟨_, blk_new w _, by simp [zLns, size_madeCells], fun i hi => by omega⟩, fun i hi => by omega, fun i hi => by omega, by simp, (Below.refl _ _).alloc (Nat.le_refl _) _, by simp⟩⟩
 case round =>
  obtain ⟨k, L2, hk, rfl, HT⟩ := hrel
  by_cases hlt : k < n
  ·
   have hlt' : (k : Int) < n := by omega
   obtain ⟨g, o, ha, hc⟩ := (HR.out.up HT.out.b) k hlt
   subst ha
   have HC : Hid (∀ j, j < 8 → wr.cell? ⟨g, o + k * 8 + j, none⟩ = (L k).cells[j]?) := hc
   clear hc
   go_wp2_with (refine wpList_ldT rfl 96 8 _ Tryz.underlying96 rfl infoLgL (.tmp 18) rfl g (o + k * 8) rfl (L k).cells rfl HC.out ?_)
   refine (toLane_any (L k) _ (HS.out k hlt) ((HL.out k hlt).up HT.out.b)).mono ?_
   rintro e w1 ⟨l2, rfl, ha2, ho2, hb1⟩
   obtain ⟨arr, hb2, hn2, hc2⟩ := (HT.out.up hb1).r
   have HG : Hid (w1.heap[w.heap.size]? = some (.cells arr 67 (0, 0))) := hb2
   have HN : Hid (n * 8 ≤ arr.size ∧ ∀ i, i < k * 8 → arr[i]? = some (flatG L2 i)) := ⟨hn2, hc2⟩
   have HO : Hid (AlikeL (L k) l2 ∧ OwnLg w1 wr.heap.size l2 ∧ Below wr.heap.size wr w1) := ⟨ha2, ho2, hb1⟩
   clear hb1 HC hb2 hn2 hc2 ha2 ho2
   go_wp2_with (refine wpList_stA rfl 67 (.tmp 21) (.tmp 20) rfl w.heap.size (k * 8) (by simp [Act.eval]) (.agg l2.cells) rfl 8 rfl 67 arr HG.out infoLgI (by have := HN.out.1; omega) (Lng.oneC _) ?_)
   intro W2 hP
   have HT2 : Hid (LaidL w L (fun i => if i = k then l2 else L2 i) n (k + 1) W2) := HT.out.step hlt HO.out.2.2 HO.out.1 HO.out.2.1 HN.out.1 HN.out.2 hP
   clear hP HG HN HT HO
   go_wp2_with fail
   go_roundw
   case rel => exact ⟨k + 1, _, by omega, by go_num, HT2⟩
   case measure => simp [intOf]; omega
  ·
   obtain rfl : k = n := by omega
   go_wp2_with fail
   go_ret
   exact ⟨rfl, L2, HT.out⟩
theorem infoSgI : (Tryz.prog.info? 41).map (·.size) = some 17 := by kernel_rfl
theorem infoCfI : (Tryz.prog.info? 35).map (·.size) = some 7 := by kernel_rfl
theorem infoCn : (Tryz.prog.info? 37).map (·.size) = some 3 := by kernel_rfl
theorem infoEs : (Tryz.prog.info? 36).map (·.size) = some 1 := by kernel_rfl
theorem infoKs : (Tryz.prog.info? 38).map (·.size) = some 1 := by kernel_rfl
theorem infoLs : (Tryz.prog.info? 39).map (·.size) = some 1 := by kernel_rfl
theorem Swg.oneC (S : Swg) : S.cells.all (·.oneCell') = true := by simp [Swg.cells, Value.oneCell']
set_option maxRecDepth 10000 in
set_option maxHeartbeats 4000000 in
theorem toSwitch_any (S : Swg) (w : World) (hs : S.Small) (h : RdSg w S) :
  Calls Tryz.prog 7 #[.agg S.cells] w fun e w' => ∃ S2, e = .returned (.agg S2.cells) ∧ AlikeG S S2 ∧ OwnSg w' w.heap.size S2 ∧ Below w.heap.size w w' := by
 have HR : Hid (RdSg w S) := h
 have HS : Hid S.Small := hs
 clear h hs
 obtain ⟨W0, eW⟩ : ∃ W, (((w.alloc (.cells S.cells 32)).alloc (.cells #[.int .i64 0, .int .i64 0, .int .i64 0, .int .i64 0, .int .i64 0, .int .i64 0, .int .i64 0, .int .i64 0, .int .i64 0, .slice none 0 0, .slice none 0 0, .int .i64 0, .slice none 0 0, .slice none 0 0, .slice none 0 0, .int .i64 0, .int .i64 0] 41)).alloc (.cells #[.int .i64 0, .int .i64 0, .int .i64 0, .int .i64 0, .int .i64 0, .int .i64 0, .int .i64 0, .int .i64 0, .int .i64 0, .slice none 0 0, .slice none 0 0, .int .i64 0, .slice none 0 0, .slice none 0 0, .slice none 0 0, .int .i64 0, .int .i64 0] 41)) = W := ⟨_, rfl⟩
 have HX : Hid (Boxes w S.cells #[.int .i64 0, .int .i64 0, .int .i64 0, .int .i64 0, .int .i64 0, .int .i64 0, .int .i64 0, .int .i64 0, .int .i64 0, .slice none 0 0, .slice none 0 0, .int .i64 0, .slice none 0 0, .slice none 0 0, .slice none 0 0, .int .i64 0, .int .i64 0] #[.int .i64 0, .int .i64 0, .int .i64 0, .int .i64 0, .int .i64 0, .int .i64 0, .int .i64 0, .int .i64 0, .int .i64 0, .slice none 0 0, .slice none 0 0, .int .i64 0, .slice none 0 0, .slice none 0 0, .slice none 0 0, .int .i64 0, .int .i64 0] 32 41 W0) := by rw [← eW]; exact Boxes.start _ _ _ _ _ _
 go_enter Tryz.func7, Tryz.ntmps7
 have c0 : W0.cell? ⟨w.heap.size, 0, none⟩ = some (.int .i64 S.C.p) := blk_cell HX.out.a 0
 have c1 : W0.cell? ⟨w.heap.size, 1, none⟩ = some (.int .i64 S.C.c) := blk_cell HX.out.a 1
 have c2 : W0.cell? ⟨w.heap.size, 2, none⟩ = some (.int .i64 S.C.xo) := blk_cell HX.out.a 2
 have c3 : W0.cell? ⟨w.heap.size, 3, none⟩ = some (.int .i64 S.C.xn) := blk_cell HX.out.a 3
 have c4 : W0.cell? ⟨w.heap.size, 4, none⟩ = some (.int .i64 S.C.hd) := blk_cell HX.out.a 4
 have c5 : W0.cell? ⟨w.heap.size, 5, none⟩ = some (.int .i64 S.C.lo) := blk_cell HX.out.a 5
 have c6 : W0.cell? ⟨w.heap.size, 6, none⟩ = some (.int .i64 S.C.dl) := blk_cell HX.out.a 6
 go_wp2_with fail
 clear eW
 refine (toConfig_any S.C _).mono ?_
 rintro e wc ⟨rfl, hb⟩
 clear c0 c1 c2 c3 c4 c5 c6
 replace HX : Hid (Boxes w S.cells #[.int .i64 0, .int .i64 0, .int .i64 0, .int .i64 0, .int .i64 0, .int .i64 0, .int .i64 0, .int .i64 0, .int .i64 0, .slice none 0 0, .slice none 0 0, .int .i64 0, .slice none 0 0, .slice none 0 0, .slice none 0 0, .int .i64 0, .int .i64 0] #[.int .i64 0, .int .i64 0, .int .i64 0, .int .i64 0, .int .i64 0, .int .i64 0, .int .i64 0, .int .i64 0, .int .i64 0, .slice none 0 0, .slice none 0 0, .int .i64 0, .slice none 0 0, .slice none 0 0, .slice none 0 0, .int .i64 0, .int .i64 0] 32 41 wc) := HX.out.up hb
 have T1 : Touch [w.heap.size + 1, w.heap.size + 1 + 1] W0 wc := Touch.ofBelow hb
 clear hb
 have HC := HX.out.c
 replace HC : Hid (wc.heap[w.heap.size + 1 + 1]? = some (.cells #[.int .i64 0, .int .i64 0, .int .i64 0, .int .i64 0, .int .i64 0, .int .i64 0, .int .i64 0, .int .i64 0, .int .i64 0, .slice none 0 0, .slice none 0 0, .int .i64 0, .slice none 0 0, .slice none 0 0, .slice none 0 0, .int .i64 0, .int .i64 0] 41 (0, 0))) := HC
 go_wp2_with (refine wpList_stA rfl 35 (.tmp 7) (.tmp 6) rfl (w.heap.size + 1 + 1) 0 rfl (.agg S.C.cells) rfl 7 rfl 41 _ HC.out infoCfI (Nat.le_of_ble_eq_true rfl) (by simp [Value.cells, Value.oneCell', Rnd.cells, Cfg.cells, Cnt.cells]) ?_)
 intro W2 hP
 replace hP := hP.cast (cs' := #[.int .i64 S.C.p, .int .i64 S.C.c, .int .i64 S.C.xo, .int .i64 S.C.xn, .int .i64 S.C.hd, .int .i64 S.C.lo, .int .i64 S.C.dl, .int .i64 0, .int .i64 0, .slice none 0 0, .slice none 0 0, .int .i64 0, .slice none 0 0, .slice none 0 0, .slice none 0 0, .int .i64 0, .int .i64 0]) rfl
 replace HX : Hid (Boxes w S.cells #[.int .i64 0, .int .i64 0, .int .i64 0, .int .i64 0, .int .i64 0, .int .i64 0, .int .i64 0, .int .i64 0, .int .i64 0, .slice none 0 0, .slice none 0 0, .int .i64 0, .slice none 0 0, .slice none 0 0, .slice none 0 0, .int .i64 0, .int .i64 0] #[.int .i64 S.C.p, .int .i64 S.C.c, .int .i64 S.C.xo, .int .i64 S.C.xn, .int .i64 S.C.hd, .int .i64 S.C.lo, .int .i64 S.C.dl, .int .i64 0, .int .i64 0, .slice none 0 0, .slice none 0 0, .int .i64 0, .slice none 0 0, .slice none 0 0, .slice none 0 0, .int .i64 0, .int .i64 0] 32 41 W2) := HX.out.put hP
 have T2 : Touch [w.heap.size + 1, w.heap.size + 1 + 1] wc W2 := hP.to.mono (fun x hx => by simp at hx; simp [hx])
 clear hP HC 
 have c7 : W2.cell? ⟨w.heap.size, 7, none⟩ = some (.int .i64 S.now) := blk_cell HX.out.a 7
 have HC := HX.out.c
 replace HC : Hid (W2.heap[w.heap.size + 1 + 1]? = some (.cells #[.int .i64 S.C.p, .int .i64 S.C.c, .int .i64 S.C.xo, .int .i64 S.C.xn, .int .i64 S.C.hd, .int .i64 S.C.lo, .int .i64 S.C.dl, .int .i64 0, .int .i64 0, .slice none 0 0, .slice none 0 0, .int .i64 0, .slice none 0 0, .slice none 0 0, .slice none 0 0, .int .i64 0, .int .i64 0] 41 (0, 0))) := HC
 go_wp2_with (refine wpList_stA rfl 2 (.tmp 10) (.tmp 9) rfl (w.heap.size + 1 + 1) 7 rfl (.int .i64 S.now) rfl 1 rfl 41 _ HC.out infoI1 (Nat.le_of_ble_eq_true rfl) (by simp [Value.cells, Value.oneCell', Rnd.cells, Cfg.cells, Cnt.cells]) ?_)
 intro W3 hP
 replace hP := hP.cast (cs' := #[.int .i64 S.C.p, .int .i64 S.C.c, .int .i64 S.C.xo, .int .i64 S.C.xn, .int .i64 S.C.hd, .int .i64 S.C.lo, .int .i64 S.C.dl, .int .i64 S.now, .int .i64 0, .slice none 0 0, .slice none 0 0, .int .i64 0, .slice none 0 0, .slice none 0 0, .slice none 0 0, .int .i64 0, .int .i64 0]) rfl
 replace HX : Hid (Boxes w S.cells #[.int .i64 0, .int .i64 0, .int .i64 0, .int .i64 0, .int .i64 0, .int .i64 0, .int .i64 0, .int .i64 0, .int .i64 0, .slice none 0 0, .slice none 0 0, .int .i64 0, .slice none 0 0, .slice none 0 0, .slice none 0 0, .int .i64 0, .int .i64 0] #[.int .i64 S.C.p, .int .i64 S.C.c, .int .i64 S.C.xo, .int .i64 S.C.xn, .int .i64 S.C.hd, .int .i64 S.C.lo, .int .i64 S.C.dl, .int .i64 S.now, .int .i64 0, .slice none 0 0, .slice none 0 0, .int .i64 0, .slice none 0 0, .slice none 0 0, .slice none 0 0, .int .i64 0, .int .i64 0] 32 41 W3) := HX.out.put hP
 have T3 : Touch [w.heap.size + 1, w.heap.size + 1 + 1] W2 W3 := hP.to.mono (fun x hx => by simp at hx; simp [hx])
 clear hP HC c7
 have c8 : W3.cell? ⟨w.heap.size, 8, none⟩ = some (.int .i64 S.nx) := blk_cell HX.out.a 8
 have HC := HX.out.c
 replace HC : Hid (W3.heap[w.heap.size + 1 + 1]? = some (.cells #[.int .i64 S.C.p, .int .i64 S.C.c, .int .i64 S.C.xo, .int .i64 S.C.xn, .int .i64 S.C.hd, .int .i64 S.C.lo, .int .i64 S.C.dl, .int .i64 S.now, .int .i64 0, .slice none 0 0, .slice none 0 0, .int .i64 0, .slice none 0 0, .slice none 0 0, .slice none 0 0, .int .i64 0, .int .i64 0] 41 (0, 0))) := HC
 go_wp2_with (refine wpList_stA rfl 2 (.tmp 13) (.tmp 12) rfl (w.heap.size + 1 + 1) 8 rfl (.int .i64 S.nx) rfl 1 rfl 41 _ HC.out infoI1 (Nat.le_of_ble_eq_true rfl) (by simp [Value.cells, Value.oneCell', Rnd.cells, Cfg.cells, Cnt.cells]) ?_)
 intro W4 hP
 replace hP := hP.cast (cs' := #[.int .i64 S.C.p, .int .i64 S.C.c, .int .i64 S.C.xo, .int .i64 S.C.xn, .int .i64 S.C.hd, .int .i64 S.C.lo, .int .i64 S.C.dl, .int .i64 S.now, .int .i64 S.nx, .slice none 0 0, .slice none 0 0, .int .i64 0, .slice none 0 0, .slice none 0 0, .slice none 0 0, .int .i64 0, .int .i64 0]) rfl
 replace HX : Hid (Boxes w S.cells #[.int .i64 0, .int .i64 0, .int .i64 0, .int .i64 0, .int .i64 0, .int .i64 0, .int .i64 0, .int .i64 0, .int .i64 0, .slice none 0 0, .slice none 0 0, .int .i64 0, .slice none 0 0, .slice none 0 0, .slice none 0 0, .int .i64 0, .int .i64 0] #[.int .i64 S.C.p, .int .i64 S.C.c, .int .i64 S.C.xo, .int .i64 S.C.xn, .int .i64 S.C.hd, .int .i64 S.C.lo, .int .i64 S.C.dl, .int .i64 S.now, .int .i64 S.nx, .slice none 0 0, .slice none 0 0, .int .i64 0, .slice none 0 0, .slice none 0 0, .slice none 0 0, .int .i64 0, .int .i64 0] 32 41 W4) := HX.out.put hP
 have T4 : Touch [w.heap.size + 1, w.heap.size + 1 + 1] W3 W4 := hP.to.mono (fun x hx => by simp at hx; simp [hx])
 clear hP HC c8
 have c9 : W4.cell? ⟨w.heap.size, 9, none⟩ = some (.slice S.aE S.nE S.cE) := blk_cell HX.out.a 9
 go_wp2_with fail
 refine (toEnts_any S.aE S.nE S.cE S.e _ HS.out.e (HR.out.e.up HX.out.bel)).mono ?_
 rintro e we ⟨rfl, rE, hb⟩
 clear c9
 have sE := HX.out.sz
 replace HX : Hid (Boxes w S.cells #[.int .i64 0, .int .i64 0, .int .i64 0, .int .i64 0, .int .i64 0, .int .i64 0, .int .i64 0, .int .i64 0, .int .i64 0, .slice none 0 0, .slice none 0 0, .int .i64 0, .slice none 0 0, .slice none 0 0, .slice none 0 0, .int .i64 0, .int .i64 0] #[.int .i64 S.C.p, .int .i64 S.C.c, .int .i64 S.C.xo, .int .i64 S.C.xn, .int .i64 S.C.hd, .int .i64 S.C.lo, .int .i64 S.C.dl, .int .i64 S.now, .int .i64 S.nx, .slice none 0 0, .slice none 0 0, .int .i64 0, .slice none 0 0, .slice none 0 0, .slice none 0 0, .int .i64 0, .int .i64 0] 32 41 we) := HX.out.up hb
 have T5 : Touch [w.heap.size + 1, w.heap.size + 1 + 1] W4 we := Touch.ofBelow hb
 clear hb
 have HC := HX.out.c
 replace HC : Hid (we.heap[w.heap.size + 1 + 1]? = some (.cells #[.int .i64 S.C.p, .int .i64 S.C.c, .int .i64 S.C.xo, .int .i64 S.C.xn, .int .i64 S.C.hd, .int .i64 S.C.lo, .int .i64 S.C.dl, .int .i64 S.now, .int .i64 S.nx, .slice none 0 0, .slice none 0 0, .int .i64 0, .slice none 0 0, .slice none 0 0, .slice none 0 0, .int .i64 0, .int .i64 0] 41 (0, 0))) := HC
 go_wp2_with (refine wpList_stA rfl 36 (.tmp 17) (.tmp 16) rfl (w.heap.size + 1 + 1) 9 rfl (.slice (some ⟨W4.heap.size, 0, none⟩) S.nE S.nE) rfl 1 rfl 41 _ HC.out infoEs (Nat.le_of_ble_eq_true rfl) (by simp [Value.cells, Value.oneCell', Rnd.cells, Cfg.cells, Cnt.cells]) ?_)
 intro W6 hP
 replace hP := hP.cast (cs' := #[.int .i64 S.C.p, .int .i64 S.C.c, .int .i64 S.C.xo, .int .i64 S.C.xn, .int .i64 S.C.hd, .int .i64 S.C.lo, .int .i64 S.C.dl, .int .i64 S.now, .int .i64 S.nx, .slice (some ⟨W4.heap.size, 0, none⟩) S.nE S.nE, .slice none 0 0, .int .i64 0, .slice none 0 0, .slice none 0 0, .slice none 0 0, .int .i64 0, .int .i64 0]) rfl
 replace HX : Hid (Boxes w S.cells #[.int .i64 0, .int .i64 0, .int .i64 0, .int .i64 0, .int .i64 0, .int .i64 0, .int .i64 0, .int .i64 0, .int .i64 0, .slice none 0 0, .slice none 0 0, .int .i64 0, .slice none 0 0, .slice none 0 0, .slice none 0 0, .int .i64 0, .int .i64 0] #[.int .i64 S.C.p, .int .i64 S.C.c, .int .i64 S.C.xo, .int .i64 S.C.xn, .int .i64 S.C.hd, .int .i64 S.C.lo, .int .i64 S.C.dl, .int .i64 S.now, .int .i64 S.nx, .slice (some ⟨W4.heap.size, 0, none⟩) S.nE S.nE, .slice none 0 0, .int .i64 0, .slice none 0 0, .slice none 0 0, .slice none 0 0, .int .i64 0, .int .i64 0] 32 41 W6) := HX.out.put hP
 have T6 : Touch [w.heap.size + 1, w.heap.size + 1 + 1] we W6 := hP.to.mono (fun x hx => by simp at hx; simp [hx])
 clear hP HC 
 have c10 : W6.cell? ⟨w.heap.size, 10, none⟩ = some (.slice S.N.aU S.N.nU S.N.cU) := blk_cell HX.out.a 10
 have c11 : W6.cell? ⟨w.heap.size, 11, none⟩ = some (.int .i64 S.N.lo) := blk_cell HX.out.a 11
 have c12 : W6.cell? ⟨w.heap.size, 12, none⟩ = some (.slice S.N.aP S.N.nP S.N.cP) := blk_cell HX.out.a 12
 go_wp2_with fail
 refine (toCounts_any S.N _ HS.out.n (HR.out.n.up HX.out.bel)).mono ?_
 rintro e wn ⟨gU, gP, rfl, rN, hb⟩
 clear c10 c11 c12
 have sN := HX.out.sz
 replace HX : Hid (Boxes w S.cells #[.int .i64 0, .int .i64 0, .int .i64 0, .int .i64 0, .int .i64 0, .int .i64 0, .int .i64 0, .int .i64 0, .int .i64 0, .slice none 0 0, .slice none 0 0, .int .i64 0, .slice none 0 0, .slice none 0 0, .slice none 0 0, .int .i64 0, .int .i64 0] #[.int .i64 S.C.p, .int .i64 S.C.c, .int .i64 S.C.xo, .int .i64 S.C.xn, .int .i64 S.C.hd, .int .i64 S.C.lo, .int .i64 S.C.dl, .int .i64 S.now, .int .i64 S.nx, .slice (some ⟨W4.heap.size, 0, none⟩) S.nE S.nE, .slice none 0 0, .int .i64 0, .slice none 0 0, .slice none 0 0, .slice none 0 0, .int .i64 0, .int .i64 0] 32 41 wn) := HX.out.up hb
 have T7 : Touch [w.heap.size + 1, w.heap.size + 1 + 1] W6 wn := Touch.ofBelow hb
 clear hb
 have HC := HX.out.c
 replace HC : Hid (wn.heap[w.heap.size + 1 + 1]? = some (.cells #[.int .i64 S.C.p, .int .i64 S.C.c, .int .i64 S.C.xo, .int .i64 S.C.xn, .int .i64 S.C.hd, .int .i64 S.C.lo, .int .i64 S.C.dl, .int .i64 S.now, .int .i64 S.nx, .slice (some ⟨W4.heap.size, 0, none⟩) S.nE S.nE, .slice none 0 0, .int .i64 0, .slice none 0 0, .slice none 0 0, .slice none 0 0, .int .i64 0, .int .i64 0] 41 (0, 0))) := HC
 go_wp2_with (refine wpList_stA rfl 37 (.tmp 21) (.tmp 20) rfl (w.heap.size + 1 + 1) 10 rfl (.agg (S.N.copy gU gP).cells) rfl 3 rfl 41 _ HC.out infoCn (Nat.le_of_ble_eq_true rfl) (by simp [Value.cells, Value.oneCell', Rnd.cells, Cfg.cells, Cnt.cells]) ?_)
 intro W8 hP
 replace hP := hP.cast (cs' := #[.int .i64 S.C.p, .int .i64 S.C.c, .int .i64 S.C.xo, .int .i64 S.C.xn, .int .i64 S.C.hd, .int .i64 S.C.lo, .int .i64 S.C.dl, .int .i64 S.now, .int .i64 S.nx, .slice (some ⟨W4.heap.size, 0, none⟩) S.nE S.nE, .slice (some ⟨gU, 0, none⟩) S.N.nU S.N.nU, .int .i64 S.N.lo, .slice (some ⟨gP, 0, none⟩) S.N.nP S.N.nP, .slice none 0 0, .slice none 0 0, .int .i64 0, .int .i64 0]) rfl
 replace HX : Hid (Boxes w S.cells #[.int .i64 0, .int .i64 0, .int .i64 0, .int .i64 0, .int .i64 0, .int .i64 0, .int .i64 0, .int .i64 0, .int .i64 0, .slice none 0 0, .slice none 0 0, .int .i64 0, .slice none 0 0, .slice none 0 0, .slice none 0 0, .int .i64 0, .int .i64 0] #[.int .i64 S.C.p, .int .i64 S.C.c, .int .i64 S.C.xo, .int .i64 S.C.xn, .int .i64 S.C.hd, .int .i64 S.C.lo, .int .i64 S.C.dl, .int .i64 S.now, .int .i64 S.nx, .slice (some ⟨W4.heap.size, 0, none⟩) S.nE S.nE, .slice (some ⟨gU, 0, none⟩) S.N.nU S.N.nU, .int .i64 S.N.lo, .slice (some ⟨gP, 0, none⟩) S.N.nP S.N.nP, .slice none 0 0, .slice none 0 0, .int .i64 0, .int .i64 0] 32 41 W8) := HX.out.put hP
 have T8 : Touch [w.heap.size + 1, w.heap.size + 1 + 1] wn W8 := hP.to.mono (fun x hx => by simp at hx; simp [hx])
 clear hP HC 
 have c13 : W8.cell? ⟨w.heap.size, 13, none⟩ = some (.slice S.aK S.nK S.cK) := blk_cell HX.out.a 13
 go_wp2_with fail
 refine (toPackets_any S.aK S.nK S.cK S.K _ HS.out.k (HR.out.k.up HX.out.bel)).mono ?_
 rintro e wk ⟨rfl, rK, hb⟩
 clear c13
 have sK := HX.out.sz
 replace HX : Hid (Boxes w S.cells #[.int .i64 0, .int .i64 0, .int .i64 0, .int .i64 0, .int .i64 0, .int .i64 0, .int .i64 0, .int .i64 0, .int .i64 0, .slice none 0 0, .slice none 0 0, .int .i64 0, .slice none 0 0, .slice none 0 0, .slice none 0 0, .int .i64 0, .int .i64 0] #[.int .i64 S.C.p, .int .i64 S.C.c, .int .i64 S.C.xo, .int .i64 S.C.xn, .int .i64 S.C.hd, .int .i64 S.C.lo, .int .i64 S.C.dl, .int .i64 S.now, .int .i64 S.nx, .slice (some ⟨W4.heap.size, 0, none⟩) S.nE S.nE, .slice (some ⟨gU, 0, none⟩) S.N.nU S.N.nU, .int .i64 S.N.lo, .slice (some ⟨gP, 0, none⟩) S.N.nP S.N.nP, .slice none 0 0, .slice none 0 0, .int .i64 0, .int .i64 0] 32 41 wk) := HX.out.up hb
 have T9 : Touch [w.heap.size + 1, w.heap.size + 1 + 1] W8 wk := Touch.ofBelow hb
 clear hb
 have HC := HX.out.c
 replace HC : Hid (wk.heap[w.heap.size + 1 + 1]? = some (.cells #[.int .i64 S.C.p, .int .i64 S.C.c, .int .i64 S.C.xo, .int .i64 S.C.xn, .int .i64 S.C.hd, .int .i64 S.C.lo, .int .i64 S.C.dl, .int .i64 S.now, .int .i64 S.nx, .slice (some ⟨W4.heap.size, 0, none⟩) S.nE S.nE, .slice (some ⟨gU, 0, none⟩) S.N.nU S.N.nU, .int .i64 S.N.lo, .slice (some ⟨gP, 0, none⟩) S.N.nP S.N.nP, .slice none 0 0, .slice none 0 0, .int .i64 0, .int .i64 0] 41 (0, 0))) := HC
 go_wp2_with (refine wpList_stA rfl 38 (.tmp 25) (.tmp 24) rfl (w.heap.size + 1 + 1) 13 rfl (.slice (some ⟨W8.heap.size, 0, none⟩) S.nK S.nK) rfl 1 rfl 41 _ HC.out infoKs (Nat.le_of_ble_eq_true rfl) (by simp [Value.cells, Value.oneCell', Rnd.cells, Cfg.cells, Cnt.cells]) ?_)
 intro W10 hP
 replace hP := hP.cast (cs' := #[.int .i64 S.C.p, .int .i64 S.C.c, .int .i64 S.C.xo, .int .i64 S.C.xn, .int .i64 S.C.hd, .int .i64 S.C.lo, .int .i64 S.C.dl, .int .i64 S.now, .int .i64 S.nx, .slice (some ⟨W4.heap.size, 0, none⟩) S.nE S.nE, .slice (some ⟨gU, 0, none⟩) S.N.nU S.N.nU, .int .i64 S.N.lo, .slice (some ⟨gP, 0, none⟩) S.N.nP S.N.nP, .slice (some ⟨W8.heap.size, 0, none⟩) S.nK S.nK, .slice none 0 0, .int .i64 0, .int .i64 0]) rfl
 replace HX : Hid (Boxes w S.cells #[.int .i64 0, .int .i64 0, .int .i64 0, .int .i64 0, .int .i64 0, .int .i64 0, .int .i64 0, .int .i64 0, .int .i64 0, .slice none 0 0, .slice none 0 0, .int .i64 0, .slice none 0 0, .slice none 0 0, .slice none 0 0, .int .i64 0, .int .i64 0] #[.int .i64 S.C.p, .int .i64 S.C.c, .int .i64 S.C.xo, .int .i64 S.C.xn, .int .i64 S.C.hd, .int .i64 S.C.lo, .int .i64 S.C.dl, .int .i64 S.now, .int .i64 S.nx, .slice (some ⟨W4.heap.size, 0, none⟩) S.nE S.nE, .slice (some ⟨gU, 0, none⟩) S.N.nU S.N.nU, .int .i64 S.N.lo, .slice (some ⟨gP, 0, none⟩) S.N.nP S.N.nP, .slice (some ⟨W8.heap.size, 0, none⟩) S.nK S.nK, .slice none 0 0, .int .i64 0, .int .i64 0] 32 41 W10) := HX.out.put hP
 have T10 : Touch [w.heap.size + 1, w.heap.size + 1 + 1] wk W10 := hP.to.mono (fun x hx => by simp at hx; simp [hx])
 clear hP HC 
 have c14 : W10.cell? ⟨w.heap.size, 14, none⟩ = some (.slice S.aL S.nL S.cL) := blk_cell HX.out.a 14
 go_wp2_with fail
 refine (toLanes_any S.aL S.nL S.cL S.L _ HS.out.l HS.out.ls (HR.out.l.up HX.out.bel) (fun i hi => (HR.out.ls i hi).up HX.out.bel)).mono ?_
 rintro e wl ⟨rfl, L2, rL⟩
 clear c14
 have sL := HX.out.sz
 have hb : Below W10.heap.size W10 wl := rL.b
 replace HX : Hid (Boxes w S.cells #[.int .i64 0, .int .i64 0, .int .i64 0, .int .i64 0, .int .i64 0, .int .i64 0, .int .i64 0, .int .i64 0, .int .i64 0, .slice none 0 0, .slice none 0 0, .int .i64 0, .slice none 0 0, .slice none 0 0, .slice none 0 0, .int .i64 0, .int .i64 0] #[.int .i64 S.C.p, .int .i64 S.C.c, .int .i64 S.C.xo, .int .i64 S.C.xn, .int .i64 S.C.hd, .int .i64 S.C.lo, .int .i64 S.C.dl, .int .i64 S.now, .int .i64 S.nx, .slice (some ⟨W4.heap.size, 0, none⟩) S.nE S.nE, .slice (some ⟨gU, 0, none⟩) S.N.nU S.N.nU, .int .i64 S.N.lo, .slice (some ⟨gP, 0, none⟩) S.N.nP S.N.nP, .slice (some ⟨W8.heap.size, 0, none⟩) S.nK S.nK, .slice none 0 0, .int .i64 0, .int .i64 0] 32 41 wl) := HX.out.up hb
 have T11 : Touch [w.heap.size + 1, w.heap.size + 1 + 1] W10 wl := Touch.ofBelow hb
 clear hb
 have HC := HX.out.c
 replace HC : Hid (wl.heap[w.heap.size + 1 + 1]? = some (.cells #[.int .i64 S.C.p, .int .i64 S.C.c, .int .i64 S.C.xo, .int .i64 S.C.xn, .int .i64 S.C.hd, .int .i64 S.C.lo, .int .i64 S.C.dl, .int .i64 S.now, .int .i64 S.nx, .slice (some ⟨W4.heap.size, 0, none⟩) S.nE S.nE, .slice (some ⟨gU, 0, none⟩) S.N.nU S.N.nU, .int .i64 S.N.lo, .slice (some ⟨gP, 0, none⟩) S.N.nP S.N.nP, .slice (some ⟨W8.heap.size, 0, none⟩) S.nK S.nK, .slice none 0 0, .int .i64 0, .int .i64 0] 41 (0, 0))) := HC
 go_wp2_with (refine wpList_stA rfl 39 (.tmp 29) (.tmp 28) rfl (w.heap.size + 1 + 1) 14 rfl (.slice (some ⟨W10.heap.size, 0, none⟩) S.nL S.nL) rfl 1 rfl 41 _ HC.out infoLs (Nat.le_of_ble_eq_true rfl) (by simp [Value.cells, Value.oneCell', Rnd.cells, Cfg.cells, Cnt.cells]) ?_)
 intro W12 hP
 replace hP := hP.cast (cs' := #[.int .i64 S.C.p, .int .i64 S.C.c, .int .i64 S.C.xo, .int .i64 S.C.xn, .int .i64 S.C.hd, .int .i64 S.C.lo, .int .i64 S.C.dl, .int .i64 S.now, .int .i64 S.nx, .slice (some ⟨W4.heap.size, 0, none⟩) S.nE S.nE, .slice (some ⟨gU, 0, none⟩) S.N.nU S.N.nU, .int .i64 S.N.lo, .slice (some ⟨gP, 0, none⟩) S.N.nP S.N.nP, .slice (some ⟨W8.heap.size, 0, none⟩) S.nK S.nK, .slice (some ⟨W10.heap.size, 0, none⟩) S.nL S.nL, .int .i64 0, .int .i64 0]) rfl
 replace HX : Hid (Boxes w S.cells #[.int .i64 0, .int .i64 0, .int .i64 0, .int .i64 0, .int .i64 0, .int .i64 0, .int .i64 0, .int .i64 0, .int .i64 0, .slice none 0 0, .slice none 0 0, .int .i64 0, .slice none 0 0, .slice none 0 0, .slice none 0 0, .int .i64 0, .int .i64 0] #[.int .i64 S.C.p, .int .i64 S.C.c, .int .i64 S.C.xo, .int .i64 S.C.xn, .int .i64 S.C.hd, .int .i64 S.C.lo, .int .i64 S.C.dl, .int .i64 S.now, .int .i64 S.nx, .slice (some ⟨W4.heap.size, 0, none⟩) S.nE S.nE, .slice (some ⟨gU, 0, none⟩) S.N.nU S.N.nU, .int .i64 S.N.lo, .slice (some ⟨gP, 0, none⟩) S.N.nP S.N.nP, .slice (some ⟨W8.heap.size, 0, none⟩) S.nK S.nK, .slice (some ⟨W10.heap.size, 0, none⟩) S.nL S.nL, .int .i64 0, .int .i64 0] 32 41 W12) := HX.out.put hP
 have T12 : Touch [w.heap.size + 1, w.heap.size + 1 + 1] wl W12 := hP.to.mono (fun x hx => by simp at hx; simp [hx])
 clear hP HC 
 have c15 : W12.cell? ⟨w.heap.size, 15, none⟩ = some (.int .i64 S.dr) := blk_cell HX.out.a 15
 have HC := HX.out.c
 replace HC : Hid (W12.heap[w.heap.size + 1 + 1]? = some (.cells #[.int .i64 S.C.p, .int .i64 S.C.c, .int .i64 S.C.xo, .int .i64 S.C.xn, .int .i64 S.C.hd, .int .i64 S.C.lo, .int .i64 S.C.dl, .int .i64 S.now, .int .i64 S.nx, .slice (some ⟨W4.heap.size, 0, none⟩) S.nE S.nE, .slice (some ⟨gU, 0, none⟩) S.N.nU S.N.nU, .int .i64 S.N.lo, .slice (some ⟨gP, 0, none⟩) S.N.nP S.N.nP, .slice (some ⟨W8.heap.size, 0, none⟩) S.nK S.nK, .slice (some ⟨W10.heap.size, 0, none⟩) S.nL S.nL, .int .i64 0, .int .i64 0] 41 (0, 0))) := HC
 go_wp2_with (refine wpList_stA rfl 2 (.tmp 32) (.tmp 31) rfl (w.heap.size + 1 + 1) 15 rfl (.int .i64 S.dr) rfl 1 rfl 41 _ HC.out infoI1 (Nat.le_of_ble_eq_true rfl) (by simp [Value.cells, Value.oneCell', Rnd.cells, Cfg.cells, Cnt.cells]) ?_)
 intro W13 hP
 replace hP := hP.cast (cs' := #[.int .i64 S.C.p, .int .i64 S.C.c, .int .i64 S.C.xo, .int .i64 S.C.xn, .int .i64 S.C.hd, .int .i64 S.C.lo, .int .i64 S.C.dl, .int .i64 S.now, .int .i64 S.nx, .slice (some ⟨W4.heap.size, 0, none⟩) S.nE S.nE, .slice (some ⟨gU, 0, none⟩) S.N.nU S.N.nU, .int .i64 S.N.lo, .slice (some ⟨gP, 0, none⟩) S.N.nP S.N.nP, .slice (some ⟨W8.heap.size, 0, none⟩) S.nK S.nK, .slice (some ⟨W10.heap.size, 0, none⟩) S.nL S.nL, .int .i64 S.dr, .int .i64 0]) rfl
 replace HX : Hid (Boxes w S.cells #[.int .i64 0, .int .i64 0, .int .i64 0, .int .i64 0, .int .i64 0, .int .i64 0, .int .i64 0, .int .i64 0, .int .i64 0, .slice none 0 0, .slice none 0 0, .int .i64 0, .slice none 0 0, .slice none 0 0, .slice none 0 0, .int .i64 0, .int .i64 0] #[.int .i64 S.C.p, .int .i64 S.C.c, .int .i64 S.C.xo, .int .i64 S.C.xn, .int .i64 S.C.hd, .int .i64 S.C.lo, .int .i64 S.C.dl, .int .i64 S.now, .int .i64 S.nx, .slice (some ⟨W4.heap.size, 0, none⟩) S.nE S.nE, .slice (some ⟨gU, 0, none⟩) S.N.nU S.N.nU, .int .i64 S.N.lo, .slice (some ⟨gP, 0, none⟩) S.N.nP S.N.nP, .slice (some ⟨W8.heap.size, 0, none⟩) S.nK S.nK, .slice (some ⟨W10.heap.size, 0, none⟩) S.nL S.nL, .int .i64 S.dr, .int .i64 0] 32 41 W13) := HX.out.put hP
 have T13 : Touch [w.heap.size + 1, w.heap.size + 1 + 1] W12 W13 := hP.to.mono (fun x hx => by simp at hx; simp [hx])
 clear hP HC c15
 have c16 : W13.cell? ⟨w.heap.size, 16, none⟩ = some (.int .i64 S.lst) := blk_cell HX.out.a 16
 have HC := HX.out.c
 replace HC : Hid (W13.heap[w.heap.size + 1 + 1]? = some (.cells #[.int .i64 S.C.p, .int .i64 S.C.c, .int .i64 S.C.xo, .int .i64 S.C.xn, .int .i64 S.C.hd, .int .i64 S.C.lo, .int .i64 S.C.dl, .int .i64 S.now, .int .i64 S.nx, .slice (some ⟨W4.heap.size, 0, none⟩) S.nE S.nE, .slice (some ⟨gU, 0, none⟩) S.N.nU S.N.nU, .int .i64 S.N.lo, .slice (some ⟨gP, 0, none⟩) S.N.nP S.N.nP, .slice (some ⟨W8.heap.size, 0, none⟩) S.nK S.nK, .slice (some ⟨W10.heap.size, 0, none⟩) S.nL S.nL, .int .i64 S.dr, .int .i64 0] 41 (0, 0))) := HC
 go_wp2_with (refine wpList_stA rfl 2 (.tmp 35) (.tmp 34) rfl (w.heap.size + 1 + 1) 16 rfl (.int .i64 S.lst) rfl 1 rfl 41 _ HC.out infoI1 (Nat.le_of_ble_eq_true rfl) (by simp [Value.cells, Value.oneCell', Rnd.cells, Cfg.cells, Cnt.cells]) ?_)
 intro W14 hP
 replace hP := hP.cast (cs' := #[.int .i64 S.C.p, .int .i64 S.C.c, .int .i64 S.C.xo, .int .i64 S.C.xn, .int .i64 S.C.hd, .int .i64 S.C.lo, .int .i64 S.C.dl, .int .i64 S.now, .int .i64 S.nx, .slice (some ⟨W4.heap.size, 0, none⟩) S.nE S.nE, .slice (some ⟨gU, 0, none⟩) S.N.nU S.N.nU, .int .i64 S.N.lo, .slice (some ⟨gP, 0, none⟩) S.N.nP S.N.nP, .slice (some ⟨W8.heap.size, 0, none⟩) S.nK S.nK, .slice (some ⟨W10.heap.size, 0, none⟩) S.nL S.nL, .int .i64 S.dr, .int .i64 S.lst]) rfl
 replace HX : Hid (Boxes w S.cells #[.int .i64 0, .int .i64 0, .int .i64 0, .int .i64 0, .int .i64 0, .int .i64 0, .int .i64 0, .int .i64 0, .int .i64 0, .slice none 0 0, .slice none 0 0, .int .i64 0, .slice none 0 0, .slice none 0 0, .slice none 0 0, .int .i64 0, .int .i64 0] #[.int .i64 S.C.p, .int .i64 S.C.c, .int .i64 S.C.xo, .int .i64 S.C.xn, .int .i64 S.C.hd, .int .i64 S.C.lo, .int .i64 S.C.dl, .int .i64 S.now, .int .i64 S.nx, .slice (some ⟨W4.heap.size, 0, none⟩) S.nE S.nE, .slice (some ⟨gU, 0, none⟩) S.N.nU S.N.nU, .int .i64 S.N.lo, .slice (some ⟨gP, 0, none⟩) S.N.nP S.N.nP, .slice (some ⟨W8.heap.size, 0, none⟩) S.nK S.nK, .slice (some ⟨W10.heap.size, 0, none⟩) S.nL S.nL, .int .i64 S.dr, .int .i64 S.lst] 32 41 W14) := HX.out.put hP
 have T14 : Touch [w.heap.size + 1, w.heap.size + 1 + 1] W13 W14 := hP.to.mono (fun x hx => by simp at hx; simp [hx])
 clear hP HC c16
 obtain ⟨S2, e2⟩ : ∃ S2, (⟨S.C, S.now, S.nx, some ⟨W4.heap.size, 0, none⟩, S.nE, S.nE, S.e, S.N.copy gU gP, some ⟨W8.heap.size, 0, none⟩, S.nK, S.nK, S.K, some ⟨W10.heap.size, 0, none⟩, S.nL, S.nL, L2, S.dr, S.lst⟩ : Swg) = S2 := ⟨_, rfl⟩
 have e3 : #[.int .i64 S.C.p, .int .i64 S.C.c, .int .i64 S.C.xo, .int .i64 S.C.xn, .int .i64 S.C.hd, .int .i64 S.C.lo, .int .i64 S.C.dl, .int .i64 S.now, .int .i64 S.nx, .slice (some ⟨W4.heap.size, 0, none⟩) S.nE S.nE, .slice (some ⟨gU, 0, none⟩) S.N.nU S.N.nU, .int .i64 S.N.lo, .slice (some ⟨gP, 0, none⟩) S.N.nP S.N.nP, .slice (some ⟨W8.heap.size, 0, none⟩) S.nK S.nK, .slice (some ⟨W10.heap.size, 0, none⟩) S.nL S.nL, .int .i64 S.dr, .int .i64 S.lst] = S2.cells := by rw [← e2]; rfl
 rw [e3] at HX
 clear e3
 have HC : Hid (W14.heap[w.heap.size + 1 + 1]? = some (.cells S2.cells 41 (0, 0))) := HX.out.c
 have HD : Hid (W14.heap[w.heap.size + 1]? = some (.cells #[.int .i64 0, .int .i64 0, .int .i64 0, .int .i64 0, .int .i64 0, .int .i64 0, .int .i64 0, .int .i64 0, .int .i64 0, .slice none 0 0, .slice none 0 0, .int .i64 0, .slice none 0 0, .slice none 0 0, .slice none 0 0, .int .i64 0, .int .i64 0] 41 (0, 0))) := HX.out.b
 have HL : Hid (∀ j, j < 17 → W14.cell? ⟨w.heap.size + 1 + 1, 0 + j, none⟩ = (S2.cells)[j]?) := fun j _ => by rw [Nat.zero_add]; exact blk_cell HC.out j
 go_wp2_with (first | refine wpList_ldT rfl 41 17 _ Tryz.underlying41 rfl infoSgI (.tmp 3) rfl (w.heap.size + 1 + 1) 0 rfl (S2.cells) rfl HL.out ?_ | refine wpList_stA rfl 41 (.tmp 2) (.tmp 36) rfl (w.heap.size + 1) 0 rfl (.agg S2.cells) rfl 17 rfl 41 _ HD.out infoSgI (Nat.le_of_ble_eq_true rfl) (Swg.oneC _) ?_)
 intro W15 hP
 replace hP : Put W14 W15 (w.heap.size + 1) S2.cells 41 := hP.cast rfl
 have T15 : Touch [w.heap.size + 1, w.heap.size + 1 + 1] W14 W15 := hP.to.mono (fun x hx => by simp at hx; simp [hx])
 have HK : Hid (W15.heap[w.heap.size + 1]? = some (.cells S2.cells 41 (0, 0))) := hP.blk
 have HB : Hid (Below w.heap.size w W15) := (HX.out.out hP).bel
 clear hP HC HD HL
 go_wp2_with fail
 have hlow : ∀ x ∈ [w.heap.size + 1, w.heap.size + 1 + 1], x < w.heap.size + 1 + 1 + 1 := by intro x hx; simp at hx; omega
 have tE := (((((((((T6.trans T7).trans T8).trans T9).trans T10).trans T11).trans T12).trans T13).trans T14).trans T15)
 have tN := (((((((T8.trans T9).trans T10).trans T11).trans T12).trans T13).trans T14).trans T15)
 have tK := (((((T10.trans T11).trans T12).trans T13).trans T14).trans T15)
 have tL := (((T12.trans T13).trans T14).trans T15)
 have hz1 := T8.size
 have hz2 := T9.size
 have hz3 := T10.size
 refine bodyPost_ret (res_cellT Tryz.results7 17 _ Tryz.underlying41 rfl infoSgI _ _ (w.heap.size + 1) S2.cells rfl 41 HK.out rfl) rfl ⟨S2, rfl, ?_, ?_, HB.out⟩
 ·
  rw [← e2]
  exact ⟨rfl, rfl, rfl, rfl, rfl, copy_alike _ _ _, rfl, rfl, rfl, rL.a, rfl, rfl⟩
 ·
  rw [← e2]
  refine ⟨((VT.of (Nat.le_refl _) rE).low tE (fun x hx => by have := hlow x hx; omega)).mono (by omega), ((rN.u).low tN (fun x hx => by have := hlow x hx; omega)).mono (by omega), ((rN.p).low tN (fun x hx => by have := hlow x hx; omega)).mono (by omega), ((VT.of (Nat.le_refl _) rK).low tK (fun x hx => by have := hlow x hx; omega)).mono (by omega), ((VT.of (Nat.le_refl _) rL.r).low tL (fun x hx => by have := hlow x hx; omega)).mono (by omega), fun i hi => ((rL.o i hi).low tL (fun x hx => by have := hlow x hx; omega)).mono (by omega), ?_⟩
  refine nodup_app (blkV_nodup _ _) rL.d wn.heap.size (fun x hx => (rN.u.blk x hx).2) (fun x hx => ?_)
  simp only [List.mem_flatMap, List.mem_range] at hx
  obtain ⟨i, hi, hx⟩ := hx
  have := ((rL.o i hi).blk x hx).1
  omega
end Go.Proofs.YtlipielghpoaoaaGreat
