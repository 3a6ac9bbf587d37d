/- Who is told to pause or to resume: the specification. -/
import Derived.Test.YtpldaohflojkmaaCnFlip
import Derived.Deep.Cut
namespace Go.Proofs.Ytpldaohflojkmaa
open Go.RowKit
set_option linter.unusedVariables false
set_option linter.unusedSimpArgs false

theorem VT.grow {t : TypeId} {W w' : World} {base : Nat} {a : Option Addr} {n : Nat} {f : Nat → Value} {o : Obj} {r : Option Nat} (h : VT t W base a n f) (hg : (W.alloc o).grownBy w' r) (hr : ∀ x ∈ blkV a n, r ≠ some x) : VT t w' base a n f := by
  rcases h with h | ⟨g, rfl, hb, hrow⟩
  · exact .inl h
  · by_cases h0 : n = 0
    · exact .inl h0
    refine .inr ⟨g, rfl, hb, hrow.keep ((hg.block g (by have := hrow.lt; simp; omega) (fun e => hr g (blkV_mem h0) e.symm)).trans (blk_old _ hrow.lt))⟩
theorem OwnCn.grow {W w' : World} {base : Nat} {M : Cnt} {o : Obj} {r : Option Nat} (h : OwnCn W base M) (hg : (W.alloc o).grownBy w' r) (hr : ∀ x ∈ rowsT M, r ≠ some x) : OwnCn w' base M :=
  ⟨h.u.grow hg (fun x hx => hr x (List.mem_append_left _ hx)), h.p.grow hg (fun x hx => hr x (List.mem_append_right _ hx))⟩
theorem own_neC {w : World} {base n j : Nat} {e t : TypeId} {v : Value} {xs : List Value} {cs : Array Value} {fr : Nat × Nat} (h : w.ownsRow base e 1 v n xs) (hj : w.heap[j]? = some (.cells cs t fr)) (ht : e ≠ t) : v.ownBlock ≠ some j := by
  intro hv
  rcases h.2 with ⟨rfl, _⟩ | ⟨g, cap, cur, rfl, _, hb, _⟩
  · cases hv
  · simp only [Value.ownBlock, Option.some.injEq] at hv
    subst hv
    rw [hb] at hj
    cases hj
    exact ht rfl
theorem ownB_lt {w : World} {base n x : Nat} {e : TypeId} {v : Value} {xs : List Value} (h : w.ownsRow base e 1 v n xs) (hv : v.ownBlock = some x) : x < w.heap.size := by
  rcases h.2 with ⟨rfl, _⟩ | ⟨g, cap, cur, rfl, hge, hb, _⟩
  · cases hv
  · simp only [Value.ownBlock, Option.some.injEq] at hv
    subst hv
    exact blk_lt hb
theorem own_put3 {W : World} {base n g : Nat} {e : TypeId} {v a b c : Value} {xs : List Value} {cs : Array Value} (h : W.ownsRow base e 1 v n xs) (hk : W.heap[g]? = some (.cells cs 29 (0, 0))) (he : e ≠ 29) : (put3 W g a b c).ownsRow base e 1 v n xs := by
  have hne := own_neC h hk he
  obtain ⟨hl, h | ⟨g', cap, cur, rfl, hg, hblk, hr⟩⟩ := h
  · exact ⟨hl, .inl h⟩
  · refine ⟨hl, .inr ⟨g', cap, cur, rfl, hg, ((put3_touch W g a b c).block g' (blk_lt hblk) (fun hx => hne ?_)).trans hblk, hr⟩⟩
    rw [List.mem_singleton.1 hx]
    rfl
structure SigSt (C : Cfg) (N : Cnt) (B : Nat) (w0 wr : World) (gX k : Nat) (M : Cnt) (v : Value) : Prop where
  kX : wr.heap[gX]? = some (.cells M.cells 29 (0, 0))
  o : OwnCn wr B M
  a : AlikeC (sigK C N k) M
  t : wr.ownsRow B 2 1 v (toldL C N.u N.p k).length (intL (toldL C N.u N.p k))
  ap : ∀ x, v.ownBlock = some x → x ∉ rowsT M
  b : Below B w0 wr
theorem sigK_zero (C : Cfg) (N : Cnt) : AlikeC (sigK C N 0) N := ⟨rfl, rfl, rfl, rfl, by funext i; simp [sigK]⟩
theorem sigK_step {C : Cfg} {N M M' : Cnt} {k : Nat} (h : AlikeC (sigK C N k) M) (h' : AlikeC (flipN C M k) M') : AlikeC (sigK C N (k + 1)) M' := by
  refine ⟨h'.nU.trans h.nU, h'.u.trans h.u, h'.lo.trans h.lo, h'.nP.trans h.nP, ?_⟩
  rw [h'.p]
  funext j
  show (if j = k then pauseAt C (M.u j) (M.p j) else M.p j) = (if j < k + 1 then pauseAt C (N.u j) (N.p j) else N.p j)
  rw [h.u, h.p]
  show (if j = k then pauseAt C (N.u j) (if j < k then pauseAt C (N.u j) (N.p j) else N.p j) else (if j < k then pauseAt C (N.u j) (N.p j) else N.p j)) = _
  by_cases e : j = k
  · subst e
    rw [if_pos rfl, if_neg (by omega), if_pos (by omega)]
  · rw [if_neg e]
    by_cases e2 : j < k
    · rw [if_pos e2, if_pos (by omega)]
    · rw [if_neg e2, if_neg (by omega)]
theorem sigK_fl {C : Cfg} {N M : Cnt} {k : Nat} (h : AlikeC (sigK C N k) M) : flN C M k = !(pauseAt C (N.u k) (N.p k) == N.p k) := by
  unfold flN
  rw [h.u, h.p]
  show (!(pauseAt C (N.u k) (if k < k then pauseAt C (N.u k) (N.p k) else N.p k) == (if k < k then pauseAt C (N.u k) (N.p k) else N.p k))) = _
  rw [if_neg (by omega)]
theorem sigK_all {C : Cfg} {N L : Cnt} {k : Nat} (h : AlikeC (sigK C N k) L) : AlikeC (sigN C N) { L with p := fun i => pauseAt C (N.u i) (N.p i) } := ⟨h.nU, h.u, h.lo, h.nP, rfl⟩
set_option maxRecDepth 100000 in
set_option maxHeartbeats 8000000 in
theorem sSignals_any (C : Cfg) (N : Cnt) (w : World) (hf : N.Fit) (h : RdCnt w N) (ok : Bool) (hok : ok = true ↔ Cnt.Ok C N) :
    Calls Try.prog 15 #[.agg C.cells, .agg N.cells] w fun e w' => ∃ L aT cT, e = .returned (.tuple #[.agg L.cells, .slice aT (toldC C N ok).length cT]) ∧ SigAns w w' (sigM C N ok) L aT (toldC C N ok).length (fun i => (toldC C N ok).getD i 0) := by
  have HR : Hid (RdCnt w N) := h
  have HF : Hid N.Fit := hf
  have HB0 : Hid (Below (w.heap.size + 3) (((w.alloc (.cells #[.int .i64 C.p, .int .i64 C.c, .int .i64 C.xo, .int .i64 C.xn, .int .i64 C.hd, .int .i64 C.lo, .int .i64 C.dl] 25)).alloc (.cells #[.slice N.aU N.nU N.cU, .int .i64 N.lo, .slice N.aP N.nP N.cP] 29)).alloc (.cells #[.slice none 0 0, .int .i64 0, .slice none 0 0] 29)) (((w.alloc (.cells #[.int .i64 C.p, .int .i64 C.c, .int .i64 C.xo, .int .i64 C.xn, .int .i64 C.hd, .int .i64 C.lo, .int .i64 C.dl] 25)).alloc (.cells #[.slice N.aU N.nU N.cU, .int .i64 N.lo, .slice N.aP N.nP N.cP] 29)).alloc (.cells #[.slice none 0 0, .int .i64 0, .slice none 0 0] 29))) := Below.refl _ _
  cases ok
  · have HO : Hid (false = true ↔ Cnt.Ok C N) := hok
    clear hok h hf
    rw [show toldC C N false = [] from rfl]
    unfold Cfg.cells
    rw [show N.cells = #[.slice N.aU N.nU N.cU, .int .i64 N.lo, .slice N.aP N.nP N.cP] from rfl]
    go_enter Try.func15, Try.ntmps15
    go_wp2_with fail
    refine (sCountsOk_any C N _ HF.out (HR.out.up (under3 HB0.out)) false HO.out).mono ?_
    rintro e w1 ⟨rfl, hb⟩
    have hB := next3 HB0.out hb
    obtain ⟨kC, kN, kR⟩ := laid3 hB
    have ht := put3_touch w1 (w.heap.size + 1 + 1) (.slice none 0 0) (.int .i64 0) (.slice none 0 0)
    have HB : Hid (Below w.heap.size w (put3 w1 (w.heap.size + 1 + 1) (.slice none 0 0) (.int .i64 0) (.slice none 0 0))) := (under3 hB).trans (ht.below (under3 hB).size (fun x hx => by simp at hx; omega))
    have cB := blk_cell (put3_blk kR (.slice none 0 0) (.int .i64 0) (.slice none 0 0))
    have cR := blk_cell kR
    have fR := blk_free kR
    clear ht kC kN kR hB hb
    unfold put3 at cB
    go_wp2_with fail
    exact bodyPost_ret (v := .tuple #[.agg #[.slice none 0 0, .int .i64 0, .slice none 0 0], .slice none 0 0]) (by simp [results, Try.results15, go_sem, cB]) rfl ⟨zeroC, none, 0, rfl, zeroC_own _ _, .inl rfl, fun x hx => by simp [blkV] at hx, HB.out, AlikeC.refl _⟩
  · have HC : Hid (Cnt.Ok C N) := hok.1 rfl
    have HFa : Hid (OkFacts C N) := HC.out.facts
    have hnP : Hid (N.nP = N.nU) := by show N.nP = N.nU; have := HC.out.nU; have := HC.out.nP; omega
    have hpn : (N.nU : Int) = C.p := HC.out.nU
    have HPn : Hid ((N.nU : Int) = C.p) := hpn
    have h2 : 2 ≤ N.nU := HFa.out.u.1
    have h4 : N.nU ≤ 4 := HFa.out.u.2
    clear hok h hf hpn
    rw [show toldC C N true = toldL C N.u N.p N.nU from rfl]
    unfold Cfg.cells
    rw [show N.cells = #[.slice N.aU N.nU N.cU, .int .i64 N.lo, .slice N.aP N.nP N.cP] from rfl]
    go_enter Try.func15, Try.ntmps15
    go_wp2_with fail
    refine (sCountsOk_any C N _ HF.out (HR.out.up (under3 HB0.out)) true ⟨fun _ => HC.out, fun _ => rfl⟩).mono ?_
    rintro e w1 ⟨rfl, hb⟩
    have hB := next3 HB0.out hb
    have cn := blk_cell (laid3 hB).2.1
    clear hb
    go_wp2_with fail
    refine (l5Copy_any N _ (by omega) (by have := HFa.out.p; omega) HFa.out.small (HR.out.up (under3 hB))).mono ?_
    rintro e wq ⟨M0, rfl, hM, hb1, hAM⟩
    have HMb : Hid (w.heap.size + 3 ≤ w1.heap.size) := upper3 hB
    replace hB := next3 hB hb1
    replace hM := hM.mono HMb.out
    clear hb1 cn
    have hA := (Below.refl wq.heap.size wq).alloc (Nat.le_refl _) (.cells M0.cells 29)
    have kX := blk_new wq (.cells M0.cells 29)
    have hE := (Below.refl (wq.alloc (.cells M0.cells 29)).heap.size (wq.alloc (.cells M0.cells 29))).alloc (Nat.le_refl _) (.cells #[] 2)
    have kE := blk_new (wq.alloc (.cells M0.cells 29)) (.cells #[] 2)
    have HZq : Hid (w.heap.size + 3 ≤ wq.heap.size) := upper3 hB
    have HSt : Hid (SigSt C N (w.heap.size + 3) (((w.alloc (.cells #[.int .i64 C.p, .int .i64 C.c, .int .i64 C.xo, .int .i64 C.xn, .int .i64 C.hd, .int .i64 C.lo, .int .i64 C.dl] 25)).alloc (.cells #[.slice N.aU N.nU N.cU, .int .i64 N.lo, .slice N.aP N.nP N.cP] 29)).alloc (.cells #[.slice none 0 0, .int .i64 0, .slice none 0 0] 29)) ((wq.alloc (.cells M0.cells 29)).alloc (.cells #[] 2)) wq.heap.size 0 M0 (.slice (some ⟨wq.heap.size + 1, 0, none⟩) 0 0)) := by
      have hq := HZq.out
      have e1 : (wq.alloc (.cells M0.cells 29)).heap.size = wq.heap.size + 1 := by simp
      rw [e1] at kE
      refine ⟨(hE.block _ (blk_lt kX)).trans kX, (hM.up hA).up hE, (sigK_zero C N).trans hAM, own_empty0 (by omega) kE, fun x hx hy => ?_, next3 (next3 hB hA) hE⟩
      simp [Value.ownBlock] at hx
      have := (hM.tbl x hy).2
      omega
    clear hA kX hE kE hM hAM
    rw [show M0.cells = #[.slice M0.aU M0.nU M0.cU, .int .i64 M0.lo, .slice M0.aP M0.nP M0.cP] from rfl]
    go_wp2_with fail
    obtain ⟨w2, hw2⟩ : ∃ w2, w2 = (wq.alloc (.cells #[.slice M0.aU M0.nU M0.cU, .int .i64 M0.lo, .slice M0.aP M0.nP M0.cP] 29)).alloc (.cells #[] 2) := ⟨_, rfl⟩
    have HS2 : Hid (SigSt C N (w.heap.size + 3) (((w.alloc (.cells #[.int .i64 C.p, .int .i64 C.c, .int .i64 C.xo, .int .i64 C.xn, .int .i64 C.hd, .int .i64 C.lo, .int .i64 C.dl] 25)).alloc (.cells #[.slice N.aU N.nU N.cU, .int .i64 N.lo, .slice N.aP N.nP N.cP] 29)).alloc (.cells #[.slice none 0 0, .int .i64 0, .slice none 0 0] 29)) w2 wq.heap.size 0 M0 (.slice (some ⟨wq.heap.size + 1, 0, none⟩) 0 0)) := by rw [hw2]; exact HSt.out
    rw [← hw2]
    clear hw2 HSt hB
    obtain ⟨i0, hi, hz0, hz1, hz2⟩ := info_parts info2
    go_loopw [7, 8] (fun v i wr => ∃ (k : Nat) (M : Cnt), k ≤ N.nU ∧ i = .int .i64 k ∧ SigSt C N (w.heap.size + 3) (((w.alloc (.cells #[.int .i64 C.p, .int .i64 C.c, .int .i64 C.xo, .int .i64 C.xn, .int .i64 C.hd, .int .i64 C.lo, .int .i64 C.dl] 25)).alloc (.cells #[.slice N.aU N.nU N.cU, .int .i64 N.lo, .slice N.aP N.nP N.cP] 29)).alloc (.cells #[.slice none 0 0, .int .i64 0, .slice none 0 0] 29)) wr wq.heap.size k M v) (fun _ i _ => N.nU - (intOf i).toNat)
    case atStart => exact ⟨0, M0, Nat.zero_le _, rfl, HS2.out⟩
    case round =>
      obtain ⟨k, M, hk, rfl, hSt⟩ := hrel
      have HSt : Hid (SigSt C N (w.heap.size + 3) (((w.alloc (.cells #[.int .i64 C.p, .int .i64 C.c, .int .i64 C.xo, .int .i64 C.xn, .int .i64 C.hd, .int .i64 C.lo, .int .i64 C.dl] 25)).alloc (.cells #[.slice N.aU N.nU N.cU, .int .i64 N.lo, .slice N.aP N.nP N.cP] 29)).alloc (.cells #[.slice none 0 0, .int .i64 0, .slice none 0 0] 29)) wr wq.heap.size k M u7) := hSt
      have cb := blk_cell (laid3 hSt.b).1
      have cX := blk_cell hSt.kX
      unfold Cnt.cells at cX
      clear hSt
      by_cases hlt : k < N.nU
      · have hlt' : (k : Int) < C.p := by have := HPn.out; omega
        go_wp2_with fail
        refine (l5Flip_any C M k _ (by have := HSt.out.a.nU; have : (sigK C N k).nU = N.nU := rfl; omega) (by have := HSt.out.a.nP; have : (sigK C N k).nP = N.nP := rfl; have := hnP.out; omega) (HSt.out.a.small ⟨HFa.out.small.u, HFa.out.small.p⟩) HSt.out.o.rd).mono ?_
        rintro e w3 ⟨M', rfl, hM', hb3, hA3⟩
        rw [sigK_fl HSt.out.a]
        have HA4 : Hid (AlikeC (sigK C N (k + 1)) M') := sigK_step HSt.out.a hA3
        have hwr3 := hb3.size
        have hMl := hM'.tbl
        have kX3 := (hb3.block _ (blk_lt HSt.out.kX)).trans HSt.out.kX
        have hO3 := own_below HSt.out.t hb3 (Nat.le_refl _)
        have hB3 : Below (w.heap.size + 3) (((w.alloc (.cells #[.int .i64 C.p, .int .i64 C.c, .int .i64 C.xo, .int .i64 C.xn, .int .i64 C.hd, .int .i64 C.lo, .int .i64 C.dl] 25)).alloc (.cells #[.slice N.aU N.nU N.cU, .int .i64 N.lo, .slice N.aP N.nP N.cP] 29)).alloc (.cells #[.slice none 0 0, .int .i64 0, .slice none 0 0] 29)) w3 := next3 HSt.out.b hb3
        have hub := upper3 HSt.out.b
        obtain ⟨aU', nU', cU', u', lo', aP', nP', cP', p'⟩ := M'
        have hnP' : nP' = N.nU := by have h1 : nP' = N.nP := HA4.out.nP; have := hnP.out; omega
        have hMp : VT 4 w3 wr.heap.size aP' nP' (fun i => .bool (p' i)) := hM'.p
        rcases hMp with h0 | ⟨gP, rfl, hgP, hrP⟩
        · omega
        have hq : p' k = pauseAt C (N.u k) (N.p k) := by
          have e : p' = (sigK C N (k + 1)).p := HA4.out.p
          rw [e]
          show (if k < k + 1 then _ else _) = _
          rw [if_pos (by omega)]
        -- the next box, and what was there
        have hA := (Below.refl w3.heap.size w3).alloc (Nat.le_refl _) (.cells #[.slice aU' nU' cU', .int .i64 lo', .slice (some ⟨gP, 0, none⟩) nP' cP'] 29)
        have kN4 := blk_new w3 (.cells #[.slice aU' nU' cU', .int .i64 lo', .slice (some ⟨gP, 0, none⟩) nP' cP'] 29)
        have kX4 := (hA.block _ (blk_lt kX3)).trans kX3
        have hO4 := own_below hO3 hA (Nat.le_refl _)
        have hB4 := next3 hB3 hA
        have hM4 := hM'.up hA
        have rP4 := hrP.keep (hA.block _ hrP.lt)
        have cX4 := blk_cell kX4
        unfold Cnt.cells at cX4
        have fX4 := blk_free kX4
        have cN4 := blk_cell kN4
        -- the store into the old one
        have ht := put3_touch (w3.alloc (.cells #[.slice aU' nU' cU', .int .i64 lo', .slice (some ⟨gP, 0, none⟩) nP' cP'] 29)) wq.heap.size (.slice aU' nU' cU') (.int .i64 lo') (.slice (some ⟨gP, 0, none⟩) nP' cP')
        have hM5 : OwnCn (put3 (w3.alloc (.cells #[.slice aU' nU' cU', .int .i64 lo', .slice (some ⟨gP, 0, none⟩) nP' cP'] 29)) wq.heap.size (.slice aU' nU' cU') (.int .i64 lo') (.slice (some ⟨gP, 0, none⟩) nP' cP')) wr.heap.size ⟨aU', nU', cU', u', lo', some ⟨gP, 0, none⟩, nP', cP', p'⟩ := touch3 hM4 kX4
        have kX5 : (put3 (w3.alloc (.cells #[.slice aU' nU' cU', .int .i64 lo', .slice (some ⟨gP, 0, none⟩) nP' cP'] 29)) wq.heap.size (.slice aU' nU' cU') (.int .i64 lo') (.slice (some ⟨gP, 0, none⟩) nP' cP')).heap[wq.heap.size]? = some (.cells #[.slice aU' nU' cU', .int .i64 lo', .slice (some ⟨gP, 0, none⟩) nP' cP'] 29 (0, 0)) := put3_blk kX4 _ _ _
        have hO5 : (put3 (w3.alloc (.cells #[.slice aU' nU' cU', .int .i64 lo', .slice (some ⟨gP, 0, none⟩) nP' cP'] 29)) wq.heap.size (.slice aU' nU' cU') (.int .i64 lo') (.slice (some ⟨gP, 0, none⟩) nP' cP')).ownsRow (w.heap.size + 3) 2 1 u7 (toldL C N.u N.p k).length (intL (toldL C N.u N.p k)) := own_put3 hO4 kX4 (by decide)
        have hB5 : Below (w.heap.size + 3) (((w.alloc (.cells #[.int .i64 C.p, .int .i64 C.c, .int .i64 C.xo, .int .i64 C.xn, .int .i64 C.hd, .int .i64 C.lo, .int .i64 C.dl] 25)).alloc (.cells #[.slice N.aU N.nU N.cU, .int .i64 N.lo, .slice N.aP N.nP N.cP] 29)).alloc (.cells #[.slice none 0 0, .int .i64 0, .slice none 0 0] 29)) (put3 (w3.alloc (.cells #[.slice aU' nU' cU', .int .i64 lo', .slice (some ⟨gP, 0, none⟩) nP' cP'] 29)) wq.heap.size (.slice aU' nU' cU') (.int .i64 lo') (.slice (some ⟨gP, 0, none⟩) nP' cP')) := hB4.trans (ht.below (upper3 hB4) (fun x hx => by have := List.mem_singleton.1 hx; have := HZq.out; omega))
        have rP5 : RowTo gP 4 nP' (fun i => .bool (p' i)) nP' (put3 (w3.alloc (.cells #[.slice aU' nU' cU', .int .i64 lo', .slice (some ⟨gP, 0, none⟩) nP' cP'] 29)) wq.heap.size (.slice aU' nU' cU') (.int .i64 lo') (.slice (some ⟨gP, 0, none⟩) nP' cP')) := rP4.keep (ht.block _ rP4.lt (fun hx => by
          have e := List.mem_singleton.1 hx
          obtain ⟨arr, hk9, _⟩ := rP4
          have hk8 := kX4
          rw [← e] at hk8
          rw [hk8] at hk9
          simp at hk9))
        have cP5 := rP5.at k (by omega)
        have cX5 := blk_cell kX5
        have cb5 := blk_cell (laid3 hB5).1
        try dsimp only at cP5
        rw [hq] at cP5
        have HB5 : Hid (Below (w.heap.size + 3) (((w.alloc (.cells #[.int .i64 C.p, .int .i64 C.c, .int .i64 C.xo, .int .i64 C.xn, .int .i64 C.hd, .int .i64 C.lo, .int .i64 C.dl] 25)).alloc (.cells #[.slice N.aU N.nU N.cU, .int .i64 N.lo, .slice N.aP N.nP N.cP] 29)).alloc (.cells #[.slice none 0 0, .int .i64 0, .slice none 0 0] 29)) (put3 (w3.alloc (.cells #[.slice aU' nU' cU', .int .i64 lo', .slice (some ⟨gP, 0, none⟩) nP' cP'] 29)) wq.heap.size (.slice aU' nU' cU') (.int .i64 lo') (.slice (some ⟨gP, 0, none⟩) nP' cP'))) := hB5
        have HM5 : Hid (OwnCn (put3 (w3.alloc (.cells #[.slice aU' nU' cU', .int .i64 lo', .slice (some ⟨gP, 0, none⟩) nP' cP'] 29)) wq.heap.size (.slice aU' nU' cU') (.int .i64 lo') (.slice (some ⟨gP, 0, none⟩) nP' cP')) wr.heap.size ⟨aU', nU', cU', u', lo', some ⟨gP, 0, none⟩, nP', cP', p'⟩) := hM5
        have HO5 : Hid ((put3 (w3.alloc (.cells #[.slice aU' nU' cU', .int .i64 lo', .slice (some ⟨gP, 0, none⟩) nP' cP'] 29)) wq.heap.size (.slice aU' nU' cU') (.int .i64 lo') (.slice (some ⟨gP, 0, none⟩) nP' cP')).ownsRow (w.heap.size + 3) 2 1 u7 (toldL C N.u N.p k).length (intL (toldL C N.u N.p k))) := hO5
        have HkX5 : Hid ((put3 (w3.alloc (.cells #[.slice aU' nU' cU', .int .i64 lo', .slice (some ⟨gP, 0, none⟩) nP' cP'] 29)) wq.heap.size (.slice aU' nU' cU') (.int .i64 lo') (.slice (some ⟨gP, 0, none⟩) nP' cP')).heap[wq.heap.size]? = some (.cells #[.slice aU' nU' cU', .int .i64 lo', .slice (some ⟨gP, 0, none⟩) nP' cP'] 29 (0, 0))) := kX5
        have Hub : Hid (w.heap.size + 3 ≤ wr.heap.size) := hub
        have Hn' : Hid (nP' = N.nU) := hnP'
        have HMl : Hid (∀ x ∈ rowsT ⟨aU', nU', cU', u', lo', some ⟨gP, 0, none⟩, nP', cP', p'⟩, wr.heap.size ≤ x ∧ x < w3.heap.size) := hMl
        have Hw3 : Hid (w3.heap.size ≤ (put3 (w3.alloc (.cells #[.slice aU' nU' cU', .int .i64 lo', .slice (some ⟨gP, 0, none⟩) nP' cP'] 29)) wq.heap.size (.slice aU' nU' cU') (.int .i64 lo') (.slice (some ⟨gP, 0, none⟩) nP' cP')).heap.size) := Nat.le_trans hA.size ht.size
        have hk1 : (k : Int) < nP' := by omega
        have hk2 : (nP' : Int) ≤ 1048576 := by omega
        have e1 : IntKind.i64.wrap (2 * (k : Int)) = 2 * (k : Int) := wrapC _ (by omega) (by omega)
        have e2 : IntKind.i64.wrap (2 * (k : Int) + 1) = 2 * (k : Int) + 1 := wrapC _ (by omega) (by omega)
        have HlT : Hid ((toldL C N.u N.p k).length ≤ k) := toldL_len _ _ _ _
        clear hM' hb3 hA3 hwr3 hMl kX3 hO3 hB3 hub hnP' hrP hgP hq hA kN4 kX4 hO4 hB4 hM4 rP4 ht hM5 kX5 hO5 hB5 rP5 cb cX
        unfold put3 at *
        dsimp only [Cnt.cells]
        by_cases hqe : pauseAt C (N.u k) (N.p k) = N.p k
        · have HLn : Hid (toldL C N.u N.p (k + 1) = toldL C N.u N.p k) := by rw [Hid, toldL, if_pos hqe, List.append_nil]
          rw [show (!(pauseAt C (N.u k) (N.p k) == N.p k)) = false by simp [hqe]]
          have HAn : Hid (∀ x, u7.ownBlock = some x → x ∉ rowsT ⟨aU', nU', cU', u', lo', some ⟨gP, 0, none⟩, nP', cP', p'⟩) := fun x hx hy => by
            have h1 := ownB_lt HSt.out.t hx
            have := (HMl.out x hy).1
            omega
          clear hqe cP5
          go_wp2_with fail
          go_roundw
          case rel => exact ⟨k + 1, ⟨aU', nU', cU', u', lo', some ⟨gP, 0, none⟩, nP', cP', p'⟩, by omega, by go_num, ⟨HkX5.out, HM5.out.mono Hub.out, HA4.out, by rw [HLn.out]; exact HO5.out, HAn.out, HB5.out⟩⟩
          case measure => simp [intOf]; omega
        · rw [show (!(pauseAt C (N.u k) (N.p k) == N.p k)) = true by simpa using hqe]
          have HLn : Hid (toldL C N.u N.p (k + 1) = toldL C N.u N.p k ++ [sigW k (pauseAt C (N.u k) (N.p k))]) := by rw [Hid, toldL, if_neg hqe]
          clear hqe
          cases hv : pauseAt C (N.u k) (N.p k)
          · rw [hv] at cP5 HLn
            generalize hws : ((((w3.alloc (.cells #[.slice aU' nU' cU', .int .i64 lo', .slice (some ⟨gP, 0, none⟩) nP' cP'] 29)).setCell ⟨wq.heap.size, 0, none⟩ (.slice aU' nU' cU')).setCell ⟨wq.heap.size, 1, none⟩ (.int .i64 lo')).setCell ⟨wq.heap.size, 2, none⟩ (.slice (some ⟨gP, 0, none⟩) nP' cP')) = ws at HB5 HM5 HO5 HkX5 Hw3 cX5 cP5 cb5
            have hsg : sigW k false = 2 * (k : Int) := by simp [sigW]
            have hws' := hws
            clear hws
            go_upto_region 13 with fail
            try rw [hws']
            clear hws' cP5 cX4 fX4 cN4 cX5 cb5
            go_wp2_with (at_builtin; refine wpList_append_own_at _ rfl (.tmp 48) (.tmp 51) 26 rfl (w.heap.size + 3) 2 i0 (.int .i64 0) 1 8 Try.underlying26 hi hz0 hz1 hz2 rfl (by decide) _ (toldL C N.u N.p k).length _ rfl (HO5.out.alloc _) ⟨ws.heap.size, 0, none⟩ 1 1 [.int .i64 (2 * (k : Int))] rfl rfl (cell_one_new _ _ _) (lone_int _) (by have := HlT.out; unfold maxLen; omega) (by have := HlT.out; omega) (by have := upper3 HB5.out; simp; omega) ?_; intro v' w' hown' hgrow' hnil' hblk'; obtain ⟨g2, cap2, rfl, o2, B2⟩ := own_nextC (upper3 HB5.out) HB5.out HO5.out hown' hgrow')
            have HAn : Hid (∀ x, (Value.slice (some ⟨g2, 0, none⟩) ((toldL C N.u N.p k).length + 1) cap2).ownBlock = some x → x ∉ rowsT ⟨aU', nU', cU', u', lo', some ⟨gP, 0, none⟩, nP', cP', p'⟩) := fun x hx hy => by
              have h1 := HMl.out x hy
              rcases hblk' with h2 | h2
              · rw [h2] at hx
                have := ownB_lt HSt.out.t hx
                omega
              · rw [h2] at hx
                simp at hx
                have := Hw3.out
                omega
            have hM6 := HM5.out.grow hgrow' (fun x hx e => by
              have := ownB_lt HSt.out.t e
              have := (HMl.out x hx).1
              omega)
            have kX6 := (hgrow'.block wq.heap.size (by have := blk_lt HkX5.out; simp; omega) (fun e => own_neC HO5.out HkX5.out (by decide) e.symm)).trans ((blk_old _ (blk_lt HkX5.out)).trans HkX5.out)
            have HSn : Hid (SigSt C N (w.heap.size + 3) (((w.alloc (.cells #[.int .i64 C.p, .int .i64 C.c, .int .i64 C.xo, .int .i64 C.xn, .int .i64 C.hd, .int .i64 C.lo, .int .i64 C.dl] 25)).alloc (.cells #[.slice N.aU N.nU N.cU, .int .i64 N.lo, .slice N.aP N.nP N.cP] 29)).alloc (.cells #[.slice none 0 0, .int .i64 0, .slice none 0 0] 29)) w' wq.heap.size (k + 1) ⟨aU', nU', cU', u', lo', some ⟨gP, 0, none⟩, nP', cP', p'⟩ (.slice (some ⟨g2, 0, none⟩) ((toldL C N.u N.p k).length + 1) cap2)) := by
              refine ⟨kX6, hM6.mono Hub.out, HA4.out, ?_, HAn.out, B2⟩
              rw [HLn.out, List.length_append, hsg]
              simpa [intL] using o2
            clear hown' hgrow' hnil' hblk' hM6 kX6
            go_roundw
            case rel => exact ⟨k + 1, ⟨aU', nU', cU', u', lo', some ⟨gP, 0, none⟩, nP', cP', p'⟩, by omega, by go_num, HSn.out⟩
            case measure => simp [intOf]; omega
          · rw [hv] at cP5 HLn
            generalize hws : ((((w3.alloc (.cells #[.slice aU' nU' cU', .int .i64 lo', .slice (some ⟨gP, 0, none⟩) nP' cP'] 29)).setCell ⟨wq.heap.size, 0, none⟩ (.slice aU' nU' cU')).setCell ⟨wq.heap.size, 1, none⟩ (.int .i64 lo')).setCell ⟨wq.heap.size, 2, none⟩ (.slice (some ⟨gP, 0, none⟩) nP' cP')) = ws at HB5 HM5 HO5 HkX5 Hw3 cX5 cP5 cb5
            have hsg : sigW k true = 2 * (k : Int) + 1 := by simp [sigW]
            have hws' := hws
            clear hws
            go_upto_region 11 with fail
            try rw [hws']
            clear hws' cP5 cX4 fX4 cN4 cX5 cb5
            go_wp2_with (at_builtin; refine wpList_append_own_at _ rfl (.tmp 41) (.tmp 45) 26 rfl (w.heap.size + 3) 2 i0 (.int .i64 0) 1 8 Try.underlying26 hi hz0 hz1 hz2 rfl (by decide) _ (toldL C N.u N.p k).length _ rfl (HO5.out.alloc _) ⟨ws.heap.size, 0, none⟩ 1 1 [.int .i64 (2 * (k : Int) + 1)] rfl rfl (cell_one_new _ _ _) (lone_int _) (by have := HlT.out; unfold maxLen; omega) (by have := HlT.out; omega) (by have := upper3 HB5.out; simp; omega) ?_; intro v' w' hown' hgrow' hnil' hblk'; obtain ⟨g2, cap2, rfl, o2, B2⟩ := own_nextC (upper3 HB5.out) HB5.out HO5.out hown' hgrow')
            have HAn : Hid (∀ x, (Value.slice (some ⟨g2, 0, none⟩) ((toldL C N.u N.p k).length + 1) cap2).ownBlock = some x → x ∉ rowsT ⟨aU', nU', cU', u', lo', some ⟨gP, 0, none⟩, nP', cP', p'⟩) := fun x hx hy => by
              have h1 := HMl.out x hy
              rcases hblk' with h2 | h2
              · rw [h2] at hx
                have := ownB_lt HSt.out.t hx
                omega
              · rw [h2] at hx
                simp at hx
                have := Hw3.out
                omega
            have hM6 := HM5.out.grow hgrow' (fun x hx e => by
              have := ownB_lt HSt.out.t e
              have := (HMl.out x hx).1
              omega)
            have kX6 := (hgrow'.block wq.heap.size (by have := blk_lt HkX5.out; simp; omega) (fun e => own_neC HO5.out HkX5.out (by decide) e.symm)).trans ((blk_old _ (blk_lt HkX5.out)).trans HkX5.out)
            have HSn : Hid (SigSt C N (w.heap.size + 3) (((w.alloc (.cells #[.int .i64 C.p, .int .i64 C.c, .int .i64 C.xo, .int .i64 C.xn, .int .i64 C.hd, .int .i64 C.lo, .int .i64 C.dl] 25)).alloc (.cells #[.slice N.aU N.nU N.cU, .int .i64 N.lo, .slice N.aP N.nP N.cP] 29)).alloc (.cells #[.slice none 0 0, .int .i64 0, .slice none 0 0] 29)) w' wq.heap.size (k + 1) ⟨aU', nU', cU', u', lo', some ⟨gP, 0, none⟩, nP', cP', p'⟩ (.slice (some ⟨g2, 0, none⟩) ((toldL C N.u N.p k).length + 1) cap2)) := by
              refine ⟨kX6, hM6.mono Hub.out, HA4.out, ?_, HAn.out, B2⟩
              rw [HLn.out, List.length_append, hsg]
              simpa [intL] using o2
            clear hown' hgrow' hnil' hblk' hM6 kX6
            go_roundw
            case rel => exact ⟨k + 1, ⟨aU', nU', cU', u', lo', some ⟨gP, 0, none⟩, nP', cP', p'⟩, by omega, by go_num, HSn.out⟩
            case measure => simp [intOf]; omega
      · obtain rfl : k = N.nU := by omega
        have hlt' : ¬ (N.nU : Int) < C.p := by have := HPn.out; omega
        obtain ⟨kC, kN, kR⟩ := laid3 HSt.out.b
        have hOw := HSt.out.t
        rw [intL_vals] at hOw
        obtain ⟨aT, cT, ev, hVT⟩ := own_vt hOw
        have hap := HSt.out.ap
        have ht := put3_touch wr (w.heap.size + 1 + 1) (.slice M.aU M.nU M.cU) (.int .i64 M.lo) (.slice M.aP M.nP M.cP)
        have hAl : AlikeC (sigN C N) { M with p := fun i => pauseAt C (N.u i) (N.p i) } := sigK_all HSt.out.a
        have hO : OwnCn wr (w.heap.size + 3) { M with p := fun i => pauseAt C (N.u i) (N.p i) } := ⟨HSt.out.o.u, by
          have e : M.p = (sigK C N N.nU).p := HSt.out.a.p
          have en : M.nP = N.nU := by have h1 : M.nP = N.nP := HSt.out.a.nP; have := hnP.out; omega
          rcases HSt.out.o.p with h0 | ⟨g, ea, hg, hr⟩
          · exact .inl h0
          · refine .inr ⟨g, ea, hg, hr.extC (fun j hj => ?_)⟩
            rw [e]
            show Value.bool (if j < N.nU then _ else _) = _
            rw [if_pos (by omega)]⟩
        have HSA : Hid (SigAns w (put3 wr (w.heap.size + 1 + 1) (.slice M.aU M.nU M.cU) (.int .i64 M.lo) (.slice M.aP M.nP M.cP)) (sigM C N true) { M with p := fun i => pauseAt C (N.u i) (N.p i) } aT (toldL C N.u N.p N.nU).length (fun i => (toldL C N.u N.p N.nU).getD i 0)) := by
          refine ⟨(touch3 hO kR).mono (by omega), (hVT.touchS ht (fun x hx hy => by have := List.mem_singleton.1 hy; have := (hVT.blk x hx).1; omega)).mono (by omega), fun x hx hy => ?_, (under3 HSt.out.b).trans (ht.below (under3 HSt.out.b).size (fun x hx => by have := List.mem_singleton.1 hx; omega)), hAl⟩
          refine hap x ?_ hy
          rw [ev]
          unfold blkV at hx
          split at hx
          · simp at hx
          · cases aT with
            | none => simp at hx
            | some ad =>
              simp at hx
              simp [Value.ownBlock, hx]
        have cX := blk_cell HSt.out.kX
        have cR := blk_cell kR
        have fR := blk_free kR
        have cB := blk_cell (put3_blk kR (.slice M.aU M.nU M.cU) (.int .i64 M.lo) (.slice M.aP M.nP M.cP))
        unfold Cnt.cells at cX
        clear kC kN kR hOw hVT hap ht hAl hO HSt
        subst ev
        unfold put3 at cB
        go_wp2_with fail
        refine bodyPost_ret (v := .tuple #[.agg #[.slice M.aU M.nU M.cU, .int .i64 M.lo, .slice M.aP M.nP M.cP], .slice aT (toldL C N.u N.p N.nU).length cT]) (by simp [results, Try.results15, go_sem, cB]) rfl ?_
        first | exact ⟨{ M with p := fun i => pauseAt C (N.u i) (N.p i) }, aT, cT, rfl, HSA.out⟩ | exact ⟨{ M with p := fun i => pauseAt C (N.u i) (N.p i) }, aT, ⟨cT, rfl⟩, HSA.out⟩
end Go.Proofs.Ytpldaohflojkmaa
