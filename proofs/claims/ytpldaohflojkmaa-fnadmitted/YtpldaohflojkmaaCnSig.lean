/- Who is told to pause or to resume: the model, and the program. -/
import Derived.Test.YtpldaohflojkmaaCnLaw
namespace Go.Proofs.Ytpldaohflojkmaa
open Go.RowKit
set_option linter.unusedVariables false
set_option linter.unusedSimpArgs false

def pauseAt (C : Cfg) (u : Int) (p : Bool) : Bool := if p then decide (C.xn < u) else decide (C.xo ≤ u)
def sigN (C : Cfg) (N : Cnt) : Cnt := { N with p := fun i => pauseAt C (N.u i) (N.p i) }
/-- the first k ports told, the others as they were -/
def sigK (C : Cfg) (N : Cnt) (k : Nat) : Cnt := { N with p := fun i => if i < k then pauseAt C (N.u i) (N.p i) else N.p i }
def sigW (i : Nat) (b : Bool) : Int := 2 * (i : Int) + (if b then 1 else 0)
def toldL (C : Cfg) (u : Nat → Int) (p : Nat → Bool) : Nat → List Int
  | 0 => []
  | k + 1 => toldL C u p k ++ (if pauseAt C (u k) (p k) = p k then [] else [sigW k (pauseAt C (u k) (p k))])
theorem toldL_len (C : Cfg) (u : Nat → Int) (p : Nat → Bool) (k : Nat) : (toldL C u p k).length ≤ k := by
  induction k with
  | zero => simp [toldL]
  | succ k ih =>
    simp only [toldL, List.length_append]
    split <;> simp <;> omega
def intL (L : List Int) : List Value := L.map (.int .i64)
theorem intL_vals (L : List Int) : intL L = valsV L.length (fun i => .int .i64 (L.getD i 0)) := by
  apply List.ext_getElem?
  intro j
  by_cases hj : j < L.length
  · rw [valsV_at hj]
    simp [intL, hj]
  · have h1 : (intL L)[j]? = none := by simp [intL]; omega
    have h2 : (valsV L.length (fun i => Value.int .i64 (L.getD i 0)))[j]? = none := List.getElem?_eq_none (by rw [valsV_len]; omega)
    rw [h1, h2]
theorem mustPause_any (C : Cfg) (u : Int) (p : Bool) (w : World) :
    Calls Try.prog 34 #[.agg C.cells, .int .i64 u, .bool p] w fun e w' => e = .returned (.bool (pauseAt C u p)) ∧ Below w.heap.size w w' := by
  have HA : Hid (∀ o, Below w.heap.size w (w.alloc o)) := fun o => (Below.refl _ _).alloc (Nat.le_refl _) _
  unfold Cfg.cells
  cases p
  · go_enter Try.func34, Try.ntmps34
    go_wp2_with fail
    go_ret
    exact ⟨ret_bool (by simp [pauseAt]), HA.out _⟩
  · go_enter Try.func34, Try.ntmps34
    go_wp2_with fail
    go_ret
    exact ⟨ret_bool (by simp [pauseAt]), HA.out _⟩
theorem signalOf_any (i : Nat) (b : Bool) (w : World) (h : i ≤ 1000) :
    Calls Try.prog 35 #[.int .i64 (i : Int), .bool b] w fun e w' => e = .returned (.int .i64 (sigW i b)) ∧ w' = w := by
  have e1 : IntKind.i64.wrap (2 * (i : Int)) = 2 * (i : Int) := wrapC _ (by omega) (by omega)
  have e2 : IntKind.i64.wrap (2 * (i : Int) + 1) = 2 * (i : Int) + 1 := wrapC _ (by omega) (by omega)
  cases b
  · go_enter Try.func35, Try.ntmps35
    go_wp2_with fail
    go_ret
    exact ⟨ret_int (by simp [sigW]), rfl⟩
  · go_enter Try.func35, Try.ntmps35
    go_wp2_with fail
    go_ret
    exact ⟨ret_int (by simp [sigW]), rfl⟩
/-- the answer of Signals: counts, and what was told, each with rows of its own -/
structure SigAns (w w' : World) (M L : Cnt) (aT : Option Addr) (nT : Nat) (f : Nat → Int) : Prop where
  o : OwnCn w' w.heap.size L
  t : VT 2 w' w.heap.size aT nT (fun i => .int .i64 (f i))
  ap : ∀ x ∈ blkV aT nT, x ∉ rowsT L
  b : Below w.heap.size w w'
  a : AlikeC M L
def toldC (C : Cfg) (N : Cnt) (ok : Bool) : List Int := if ok then toldL C N.u N.p N.nU else []
def sigM (C : Cfg) (N : Cnt) (ok : Bool) : Cnt := if ok then sigN C N else zeroC
theorem lone_int (x : Int) : ∀ u ∈ ([.int .i64 x] : List Value), u.oneCell' = true := by simp [Value.oneCell']
theorem ownB_ge {w : World} {base n x : Nat} {e : TypeId} {v : Value} {xs : List Value} (h : w.ownsRow base e 1 v n xs) (hv : v.ownBlock = some x) : base ≤ x := by
  rcases h.2 with ⟨rfl, _⟩ | ⟨g, cap, cur, rfl, hge, _⟩
  · cases hv
  · simp only [Value.ownBlock, Option.some.injEq] at hv
    omega
theorem own_keepC {w w' : World} {base n : Nat} {e : TypeId} {v : Value} {xs : List Value} (h : w.ownsRow base e 1 v n xs) (hk : ∀ g, base ≤ g → w'.heap[g]? = w.heap[g]?) : w'.ownsRow base e 1 v n xs := by
  obtain ⟨hl, h | ⟨g, cap, cur, hv, hg, hblk, hr⟩⟩ := h
  · exact ⟨hl, .inl h⟩
  · exact ⟨hl, .inr ⟨g, cap, cur, hv, hg, (hk g hg).trans hblk, hr⟩⟩
/-- one more told: the row is the call's own -/
theorem told_next {B : Nat} {w wr w' : World} {S : List Nat} {k : Nat} {xs ys : List Value} {v v' : Value} {o : Obj} (hz : B ≤ wr.heap.size) (hT : Touch S w wr) (hS : w.heap.size = B) (hown : wr.ownsRow B 2 1 v k xs) (hown' : w'.ownsRow B 2 1 v' (k + 1) ys) (hg : (wr.alloc o).grownBy w' v.ownBlock) :
    ∃ g2 cap2, v' = .slice (some ⟨g2, 0, none⟩) (k + 1) cap2 ∧ w'.ownsRow B 2 1 v' (k + 1) ys ∧ Touch S w w' := by
  rcases own_formsC hown' with ⟨_, h0⟩ | ⟨g2, cap2, rfl⟩
  · omega
  refine ⟨g2, cap2, rfl, hown', ?_⟩
  have hb : Below B wr w' := ((Below.refl _ _).alloc hz o).grown hg (by simp; omega) (fun j hj => by
    rcases hown.2 with ⟨rfl, _⟩ | ⟨g, cap, cur, rfl, hge, _⟩
    · cases hj
    · simp only [Value.ownBlock, Option.some.injEq] at hj
      omega)
  exact ⟨hb.os.trans hT.os, hb.tape.trans hT.tape, hb.output.trans hT.output, Nat.le_trans hT.size hb.size, fun i hi hn => (hb.block i (by omega)).trans (hT.block i hi hn)⟩
set_option maxRecDepth 100000 in
set_option maxHeartbeats 8000000 in
theorem iSignals_any (C : Cfg) (N : Cnt) (w : World) (hf : N.Fit) (h : RdCnt w N) (ok : Bool) (hok : ok = true ↔ Cnt.Ok C N) :
    Calls Try.prog 14 #[.agg C.cells, .agg N.cells] w fun e w' => ∃ L aT cT, e = .returned (.tuple #[.agg L.cells, .slice aT (toldC C N ok).length cT]) ∧ SigAns w w' (sigM C N ok) L aT (toldC C N ok).length (fun i => (toldC C N ok).getD i 0) := by
  cases ok
  · have HO : Hid (false = true ↔ Cnt.Ok C N) := hok
    have HR : Hid (RdCnt w N) := h
    have HF : Hid N.Fit := hf
    have HB0 : Hid (Below (w.heap.size + 3) (((w.alloc (.cells C.cells 25)).alloc (.cells N.cells 29)).alloc (.cells #[.slice none 0 0, .int .i64 0, .slice none 0 0] 29)) (((w.alloc (.cells C.cells 25)).alloc (.cells N.cells 29)).alloc (.cells #[.slice none 0 0, .int .i64 0, .slice none 0 0] 29))) := Below.refl _ _
    clear hok h hf
    rw [show toldC C N false = [] from rfl]
    unfold Cfg.cells Cnt.cells at *
    go_enter Try.func14, Try.ntmps14
    go_wp2_with fail
    refine (iCountsOk_any C N _ HF.out (HR.out.up (under3 HB0.out)) false HO.out).mono ?_
    rintro e w1 ⟨rfl, hb⟩
    have hB := next3 HB0.out hb
    obtain ⟨kC, kN, kR⟩ := laid3 hB
    have ht := put3_touch w1 (w.heap.size + 1 + 1) (.slice none 0 0) (.int .i64 0) (.slice none 0 0)
    have HB : Hid (Below w.heap.size w (put3 w1 (w.heap.size + 1 + 1) (.slice none 0 0) (.int .i64 0) (.slice none 0 0))) := (under3 hB).trans (ht.below (under3 hB).size (fun x hx => by simp at hx; omega))
    have cB := blk_cell (put3_blk kR (.slice none 0 0) (.int .i64 0) (.slice none 0 0))
    have cR := blk_cell kR
    have fR := blk_free kR
    clear ht kC kN kR hB hb
    unfold put3 at cB
    go_wp2_with fail
    exact bodyPost_ret (v := .tuple #[.agg #[.slice none 0 0, .int .i64 0, .slice none 0 0], .slice none 0 0]) (by simp [results, Try.results14, go_sem, cB]) rfl ⟨zeroC, none, 0, rfl, zeroC_own _ _, .inl rfl, fun x hx => by simp [blkV] at hx, HB.out, AlikeC.refl _⟩
  · have hC := hok.1 rfl
    have hfa := hC.facts
    obtain ⟨aU, nU, cU, u, lo, aP, nP, cP, p⟩ := N
    obtain ⟨n, hn2, hn4, hnU, hnP⟩ : ∃ n : Nat, 2 ≤ n ∧ n ≤ 4 ∧ n = nU ∧ n = nP := by
      have h1 : (nU : Int) = C.p := hC.nU
      have h2 : (nP : Int) = C.p := hC.nP
      have h3 : 2 ≤ nU ∧ nU ≤ 4 := hfa.u
      exact ⟨nU, h3.1, h3.2, rfl, by omega⟩
    subst hnU hnP
    obtain ⟨gu, qu, ea, hcU⟩ := rd_some h.u (by show 0 < n; omega)
    obtain ⟨gp, qp, eb, hcP⟩ := rd_some h.p (by show 0 < n; omega)
    dsimp only at ea eb hcU hcP
    subst ea eb
    have HC : Hid (Cnt.Ok C (⟨some ⟨gu, qu, none⟩, n, cU, u, lo, some ⟨gp, qp, none⟩, n, cP, p⟩ : Cnt)) := hC
    have HR : Hid (RdCnt w (⟨some ⟨gu, qu, none⟩, n, cU, u, lo, some ⟨gp, qp, none⟩, n, cP, p⟩ : Cnt)) := h
    have HFt : Hid (Cnt.Fit (⟨some ⟨gu, qu, none⟩, n, cU, u, lo, some ⟨gp, qp, none⟩, n, cP, p⟩ : Cnt)) := hf
    have HSm : Hid (Cnt.Small (⟨some ⟨gu, qu, none⟩, n, cU, u, lo, some ⟨gp, qp, none⟩, n, cP, p⟩ : Cnt)) := hfa.small
    have HcU : Hid (∀ i, i < n → w.cell? ⟨gu, qu + i, none⟩ = some (.int .i64 (u i))) := hcU
    have HcP : Hid (∀ i, i < n → w.cell? ⟨gp, qp + i, none⟩ = some (.bool (p i))) := hcP
    have HB0 : Hid (Below (w.heap.size + 3) (((w.alloc (.cells #[.int .i64 C.p, .int .i64 C.c, .int .i64 C.xo, .int .i64 C.xn, .int .i64 C.hd, .int .i64 C.lo, .int .i64 C.dl] 25)).alloc (.cells #[.slice (some ⟨gu, qu, none⟩) n cU, .int .i64 lo, .slice (some ⟨gp, qp, none⟩) n cP] 29)).alloc (.cells #[.slice none 0 0, .int .i64 0, .slice none 0 0] 29)) (((w.alloc (.cells #[.int .i64 C.p, .int .i64 C.c, .int .i64 C.xo, .int .i64 C.xn, .int .i64 C.hd, .int .i64 C.lo, .int .i64 C.dl] 25)).alloc (.cells #[.slice (some ⟨gu, qu, none⟩) n cU, .int .i64 lo, .slice (some ⟨gp, qp, none⟩) n cP] 29)).alloc (.cells #[.slice none 0 0, .int .i64 0, .slice none 0 0] 29))) := Below.refl _ _
    clear hok h hf hC hfa hcU hcP
    rw [show toldC C (⟨some ⟨gu, qu, none⟩, n, cU, u, lo, some ⟨gp, qp, none⟩, n, cP, p⟩ : Cnt) true = toldL C u p n from rfl]
    unfold Cfg.cells
    rw [show Cnt.cells (⟨some ⟨gu, qu, none⟩, n, cU, u, lo, some ⟨gp, qp, none⟩, n, cP, p⟩ : Cnt) = #[.slice (some ⟨gu, qu, none⟩) n cU, .int .i64 lo, .slice (some ⟨gp, qp, none⟩) n cP] from rfl]
    go_enter Try.func14, Try.ntmps14
    go_wp2_with fail
    refine (iCountsOk_any C (⟨some ⟨gu, qu, none⟩, n, cU, u, lo, some ⟨gp, qp, none⟩, n, cP, p⟩ : Cnt) _ HFt.out (HR.out.up (under3 HB0.out)) true ⟨fun _ => HC.out, fun _ => rfl⟩).mono ?_
    rintro e w1 ⟨rfl, hb⟩
    have hB := next3 HB0.out hb
    have cn := blk_cell (laid3 hB).2.1
    clear hb
    go_wp2_with fail
    refine (copyCounts_any (⟨some ⟨gu, qu, none⟩, n, cU, u, lo, some ⟨gp, qp, none⟩, n, cP, p⟩ : Cnt) _ (by show 0 < n; omega) (by show 0 < n; omega) HSm.out (HR.out.up (under3 hB))).mono ?_
    rintro e wq ⟨M, rfl, hM, hb1, hAM⟩
    have HMb : Hid (w.heap.size + 3 ≤ w1.heap.size) := upper3 hB
    replace hB := next3 hB hb1
    obtain ⟨aU, nU', mU, u', lo', aP, nP', mP, p'⟩ := M
    obtain ⟨h1, h2, h3, h4, h5⟩ := hAM
    dsimp only at h1 h2 h3 h4 h5
    subst nU'
    subst u'
    subst lo'
    subst nP'
    subst p'
    obtain ⟨hMu, hMp⟩ := hM
    dsimp only at hMu hMp
    rcases hMu with h0 | ⟨gU, rfl, hgU, hrU⟩
    · omega
    rcases hMp with h0 | ⟨gP, rfl, hgP, hrP⟩
    · omega
    clear hb1
    have hA := (Below.refl wq.heap.size wq).alloc (Nat.le_refl _) (.cells #[.slice (some ⟨gU, 0, none⟩) n mU, .int .i64 lo, .slice (some ⟨gP, 0, none⟩) n mP] 29)
    have kX := blk_new wq (.cells #[.slice (some ⟨gU, 0, none⟩) n mU, .int .i64 lo, .slice (some ⟨gP, 0, none⟩) n mP] 29)
    have lU := hrU.lt
    have lP := hrP.lt
    have hUP : gU ≠ gP := by
      rintro rfl
      obtain ⟨a1, b1, _⟩ := hrU
      obtain ⟨a2, b2, _⟩ := hrP
      rw [b1] at b2
      simp at b2
    have HrP : Hid (RowTo gP 4 n (fun i => .bool (p i)) n (wq.alloc (.cells #[.slice (some ⟨gU, 0, none⟩) n mU, .int .i64 lo, .slice (some ⟨gP, 0, none⟩) n mP] 29))) := hrP.keep (hA.block _ hrP.lt)
    have hrU2 := hrU.keep (hA.block _ hrU.lt)
    have hB2 := next3 hB hA
    have z2 : (wq.alloc (.cells #[.slice (some ⟨gU, 0, none⟩) n mU, .int .i64 lo, .slice (some ⟨gP, 0, none⟩) n mP] 29)).heap.size = wq.heap.size + 1 := by simp
    have HF : Hid (∀ W, Touch [gP] (wq.alloc (.cells #[.slice (some ⟨gU, 0, none⟩) n mU, .int .i64 lo, .slice (some ⟨gP, 0, none⟩) n mP] 29)) W → W.heap[w.heap.size]? = some (.cells #[.int .i64 C.p, .int .i64 C.c, .int .i64 C.xo, .int .i64 C.xn, .int .i64 C.hd, .int .i64 C.lo, .int .i64 C.dl] 25 (0, 0)) ∧ W.heap[w.heap.size + 1]? = some (.cells #[.slice (some ⟨gu, qu, none⟩) n cU, .int .i64 lo, .slice (some ⟨gp, qp, none⟩) n cP] 29 (0, 0)) ∧ W.heap[w.heap.size + 1 + 1]? = some (.cells #[.slice none 0 0, .int .i64 0, .slice none 0 0] 29 (0, 0)) ∧ W.heap[wq.heap.size]? = some (.cells #[.slice (some ⟨gU, 0, none⟩) n mU, .int .i64 lo, .slice (some ⟨gP, 0, none⟩) n mP] 29 (0, 0)) ∧ RowTo gU 2 n (fun i => .int .i64 (u i)) n W ∧ Below w.heap.size w W) := fun W hT => by
      have hm := HMb.out
      obtain ⟨k1, k2, k3⟩ := laid3 hB2
      exact ⟨(hT.block _ (blk_lt k1) (fun hx => by have := List.mem_singleton.1 hx; omega)).trans k1, (hT.block _ (blk_lt k2) (fun hx => by have := List.mem_singleton.1 hx; omega)).trans k2, (hT.block _ (blk_lt k3) (fun hx => by have := List.mem_singleton.1 hx; omega)).trans k3, (hT.block _ (blk_lt kX) (fun hx => by have := List.mem_singleton.1 hx; omega)).trans kX, hrU2.keep (hT.block _ hrU2.lt (fun hx => hUP (List.mem_singleton.1 hx))), (under3 hB2).trans (hT.below (under3 hB2).size (fun x hx => by have := List.mem_singleton.1 hx; omega))⟩
    have HL : Hid (w.heap.size + 3 ≤ gU ∧ w.heap.size + 3 ≤ gP ∧ gU < (wq.alloc (.cells #[.slice (some ⟨gU, 0, none⟩) n mU, .int .i64 lo, .slice (some ⟨gP, 0, none⟩) n mP] 29)).heap.size ∧ gP < (wq.alloc (.cells #[.slice (some ⟨gU, 0, none⟩) n mU, .int .i64 lo, .slice (some ⟨gP, 0, none⟩) n mP] 29)).heap.size ∧ w.heap.size + 3 ≤ (wq.alloc (.cells #[.slice (some ⟨gU, 0, none⟩) n mU, .int .i64 lo, .slice (some ⟨gP, 0, none⟩) n mP] 29)).heap.size) := by
      have hm := HMb.out
      have h9 := upper3 hB2
      exact ⟨by omega, by omega, by omega, by omega, h9⟩
    have cn := blk_cell (laid3 hB2).2.1
    clear hA kX lU lP hUP hrU2 hrU hrP hB z2
    dsimp only [Cnt.cells]
    have mk2 : (n : Int) ≤ 1048576 := by omega
    go_wp2_with fail
    generalize wq.alloc (.cells #[.slice (some ⟨gU, 0, none⟩) n mU, .int .i64 lo, .slice (some ⟨gP, 0, none⟩) n mP] 29) = w2 at *
    clear cn hB2
    obtain ⟨i0, hi, hz0, hz1, hz2⟩ := info_parts info2
    go_loopw [7, 21] (fun v i wr => ∃ (k : Nat) (vv : Value), k ≤ n ∧ i = .int .i64 k ∧ v = vv ∧ wr.ownsRow w2.heap.size 2 1 vv (toldL C u p k).length (intL (toldL C u p k)) ∧ RowTo gP 4 n (fun j => .bool (if j < k then pauseAt C (u j) (p j) else p j)) n wr ∧ Touch [gP] w2 wr) (fun _ i _ => n - (intOf i).toNat)
    case atStart => exact ⟨0, _, Nat.zero_le _, rfl, rfl, World.ownsRow_nil _ _ _ _, HrP.out.extC (fun j _ => by simp), Touch.refl _ _⟩
    case round =>
      obtain ⟨k, v, hk, rfl, rfl, hown, hrow, hT⟩ := hrel
      have HOwn : Hid (wr.ownsRow w2.heap.size 2 1 u7 (toldL C u p k).length (intL (toldL C u p k))) := hown
      have HRow : Hid (RowTo gP 4 n (fun j => .bool (if j < k then pauseAt C (u j) (p j) else p j)) n wr) := hrow
      have HT : Hid (Touch [gP] w2 wr) := hT
      clear hown hrow hT
      by_cases hlt : k < n
      · have hlt' : (k : Int) < n := by omega
        obtain ⟨kC, kN, kR, kX, rU, rB⟩ := HF.out wr HT.out
        have cp0 := HcP.out k hlt
        have cu0 := HcU.out k hlt
        have cb := blk_cell kC
        have cn := blk_cell kN
        have cu := (rB.cell (p := ⟨gu, qu + k, none⟩) (cellLt cu0)).trans cu0
        have cp := (rB.cell (p := ⟨gp, qp + k, none⟩) (cellLt cp0)).trans cp0
        clear kC kN kR kX rU cu0
        go_wp2_with fail
        clear cu
        refine wp_region_held_drew (S := fun w' => (∀ o, w'.cell? ⟨w.heap.size, o, none⟩ = (#[.int .i64 C.p, .int .i64 C.c, .int .i64 C.xo, .int .i64 C.xn, .int .i64 C.hd, .int .i64 C.lo, .int .i64 C.dl] : Array Value)[o]?) ∧ (∀ o, w'.cell? ⟨w.heap.size + 1, o, none⟩ = (#[.slice (some ⟨gu, qu, none⟩) n cU, .int .i64 lo, .slice (some ⟨gp, qp, none⟩) n cP] : Array Value)[o]?) ∧ w'.cell? ⟨gp, qp + k, none⟩ = some (.bool (p k))) (by kernel_rfl) ⟨cb, cn, cp⟩ (fun hHeld => ?_)
        refine takeD (i := 0) (some 26) (v := ?_) rfl rfl (by kernel_rfl) (by kernel_rfl) (by kernel_rfl) (fun _ _ _ h => h) (by kernel_rfl) ?_ (by assumption) ?_
        rotate_left
        · intro wx hSw
          obtain ⟨hS1, hS2, hS3⟩ := hSw
          go_simp
          try (with_reducible rfl)
        try simp only [Act.put, List.setIfInBounds_toArray, List.set_cons_zero, List.set_cons_succ]
        refine takeD (i := 1) (some 27) (v := ?_) rfl rfl (by kernel_rfl) (by kernel_rfl) (by kernel_rfl) (fun _ _ _ h => h) (by kernel_rfl) ?_ (by assumption) ?_
        rotate_left
        · intro wx hSw
          obtain ⟨hS1, hS2, hS3⟩ := hSw
          go_simp
          try (with_reducible rfl)
        try simp only [Act.put, List.setIfInBounds_toArray, List.set_cons_zero, List.set_cons_succ]
        refine takeD (i := 2) (some 28) (v := ?_) rfl rfl (by kernel_rfl) (by kernel_rfl) (by kernel_rfl) (fun _ _ _ h => h) (by kernel_rfl) ?_ (by assumption) ?_
        rotate_left
        · intro wx hSw
          obtain ⟨hS1, hS2, hS3⟩ := hSw
          go_simp
          try (with_reducible rfl)
        try simp only [Act.put, List.setIfInBounds_toArray, List.set_cons_zero, List.set_cons_succ]
        refine takeD (i := 3) (some 29) (v := ?_) rfl rfl (by kernel_rfl) (by kernel_rfl) (by kernel_rfl) (fun _ _ _ h => h) (by kernel_rfl) ?_ (by assumption) ?_
        rotate_left
        · intro wx hSw
          obtain ⟨hS1, hS2, hS3⟩ := hSw
          go_simp
          try (with_reducible rfl)
        try simp only [Act.put, List.setIfInBounds_toArray, List.set_cons_zero, List.set_cons_succ]
        refine takeD (i := 4) (some 30) (v := ?_) rfl rfl (by kernel_rfl) (by kernel_rfl) (by kernel_rfl) (fun _ _ _ h => h) (by kernel_rfl) ?_ (by assumption) ?_
        rotate_left
        · intro wx hSw
          obtain ⟨hS1, hS2, hS3⟩ := hSw
          go_simp
          try (with_reducible rfl)
        try simp only [Act.put, List.setIfInBounds_toArray, List.set_cons_zero, List.set_cons_succ]
        refine takeD (i := 5) (some 31) (v := ?_) rfl rfl (by kernel_rfl) (by kernel_rfl) (by kernel_rfl) (fun _ _ _ h => h) (by kernel_rfl) ?_ (by assumption) ?_
        rotate_left
        · intro wx hSw
          obtain ⟨hS1, hS2, hS3⟩ := hSw
          go_simp
          try (with_reducible rfl)
        try simp only [Act.put, List.setIfInBounds_toArray, List.set_cons_zero, List.set_cons_succ]
        refine takeD (i := 6) (some 32) (v := ?_) rfl rfl (by kernel_rfl) (by kernel_rfl) (by kernel_rfl) (fun _ _ _ h => h) (by kernel_rfl) ?_ (by assumption) ?_
        rotate_left
        · intro wx hSw
          obtain ⟨hS1, hS2, hS3⟩ := hSw
          go_simp
          try (with_reducible rfl)
        try simp only [Act.put, List.setIfInBounds_toArray, List.set_cons_zero, List.set_cons_succ]
        refine wpAnyH_ready (rs := [7]) (by kernel_rfl) (by simp) ?_
        refine AllReadyH.cons rfl (fun K hK => ?_) AllReadyH.nil
        go_simp
        have HTd : Hid (Touch [gP] w2 wr.drew) := ⟨HT.out.os, HT.out.tape, HT.out.output, HT.out.size, HT.out.block⟩
        refine (mustPause_any C _ _ _).mono ?_
        rintro e wm ⟨rfl, hbm⟩
        have HTm : Hid (Touch [gP] w2 wm) := HTd.out.trans (Touch.ofBelow hbm)
        have HRowm : Hid (RowTo gP 4 n (fun j => .bool (if j < k then pauseAt C (u j) (p j) else p j)) n wm) := HRow.out.keep (hbm.block _ HRow.out.lt)
        have HOm : Hid (wm.ownsRow w2.heap.size 2 1 u7 (toldL C u p k).length (intL (toldL C u p k))) := own_below (World.ownsRow.drew HOwn.out) hbm (Nat.le_refl _)
        obtain ⟨kC, kN, kR, kX, rU, rB⟩ := HF.out wm HTm.out
        have cb := blk_cell kC
        have cn := blk_cell kN
        have cp := (rB.cell (p := ⟨gp, qp + k, none⟩) (cellLt cp0)).trans cp0
        go_wp2_with fail
        refine hK.out _ _ ⟨cb, cn, cp⟩ (fun hHeld => ?_)
        clear hK K
        try simp only [Act.put, List.setIfInBounds_toArray, List.set_cons_zero, List.set_cons_succ]
        refine wpAnyH_ready (rs := [8]) (by kernel_rfl) (by simp) ?_
        refine AllReadyH.cons rfl (fun K hK => ?_) AllReadyH.nil
        go_simp
        refine hK.out _ _ ⟨cb, cn, cp⟩ (fun hHeld => ?_)
        clear hK K
        try simp only [Act.put, List.setIfInBounds_toArray, List.set_cons_zero, List.set_cons_succ]
        refine wpAnyH_done (by kernel_rfl) ?_ _
        clear hHeld
        by_cases hfl : pauseAt C (u k) (p k) = p k
        · have hq : (pauseAt C (u k) (p k) != p k) = false := by simp [hfl]
          have HOn : Hid (wm.ownsRow w2.heap.size 2 1 u7 (toldL C u p (k + 1)).length (intL (toldL C u p (k + 1)))) := by
            rw [Hid, toldL, if_pos hfl, List.append_nil]
            exact HOm.out
          have HRn : Hid (RowTo gP 4 n (fun j => .bool (if j < k + 1 then pauseAt C (u j) (p j) else p j)) n wm) := HRowm.out.extC (fun j _ => by
            by_cases e : j = k
            · subst e
              rw [if_neg (by omega), if_pos (by omega), hfl]
            · by_cases e2 : j < k
              · rw [if_pos e2, if_pos (by omega)]
              · rw [if_neg e2, if_neg (by omega)])
          clear hq
          generalize pauseAt C (u k) (p k) = pk at *
          subst hfl
          go_wp2_with fail
          go_roundw
          case rel => exact ⟨k + 1, _, by omega, by go_num, rfl, HOn.out, HRn.out, HTm.out⟩
          case measure => simp [intOf]; omega
        · have hq : (!(pauseAt C (u k) (p k) == p k)) = true := by simpa using hfl
          obtain ⟨v0, hv0⟩ := HRowm.out.there k hlt
          have f0 := HRowm.out.free k
          have cX := blk_cell kX
          have hTs : Touch [gP] w2 (wm.setCell ⟨gP, k, none⟩ (.bool (pauseAt C (u k) (p k)))) := HTm.out.set (by simp) k _
          have HRn : Hid (RowTo gP 4 n (fun j => .bool (if j < k + 1 then pauseAt C (u j) (p j) else p j)) n (wm.setCell ⟨gP, k, none⟩ (.bool (pauseAt C (u k) (p k))))) := (HRowm.out.setAtC k (.bool (pauseAt C (u k) (p k))) hlt).extC (fun j _ => by
            by_cases e : j = k
            · subst e
              rw [if_pos rfl, if_pos (by omega)]
            · rw [if_neg e]
              by_cases e2 : j < k
              · rw [if_pos e2, if_pos (by omega)]
              · rw [if_neg e2, if_neg (by omega)])
          have hOs : (wm.setCell ⟨gP, k, none⟩ (.bool (pauseAt C (u k) (p k)))).ownsRow w2.heap.size 2 1 u7 (toldL C u p k).length (intL (toldL C u p k)) := own_keepC HOm.out (fun g hg => blk_set_ne (by have := HL.out.2.2.2.1; omega) _)
          have HOs : Hid ((wm.setCell ⟨gP, k, none⟩ (.bool (pauseAt C (u k) (p k)))).ownsRow w2.heap.size 2 1 u7 (toldL C u p k).length (intL (toldL C u p k))) := hOs
          have HTs : Hid (Touch [gP] w2 (wm.setCell ⟨gP, k, none⟩ (.bool (pauseAt C (u k) (p k))))) := hTs
          have HLn : Hid (toldL C u p (k + 1) = toldL C u p k ++ [sigW k (pauseAt C (u k) (p k))]) := by rw [Hid, toldL, if_neg hfl]
          have HlT : Hid ((toldL C u p k).length ≤ k) := toldL_len _ _ _ _
          clear hTs hOs kC kN kR kX rU rB
          generalize pauseAt C (u k) (p k) = pk at *
          go_wp2_with fail
          refine (signalOf_any k pk _ (by omega)).mono ?_
          rintro e w' ⟨rfl, hw⟩
          rw [hw]
          clear hw w'
          generalize hws : wm.setCell ⟨gP, k, none⟩ (.bool pk) = ws at *
          clear hws cb cn cp cX hv0 f0
          generalize hTl : toldL C u p k = Tl at *
          go_wp2_with (at_builtin; refine wpList_append_own _ rfl (.tmp 46) (.tmp 50) 26 rfl w2.heap.size 2 i0 (.int .i64 0) 1 8 Try.underlying26 hi hz0 hz1 hz2 rfl (by decide) _ Tl.length _ rfl (HOs.out.alloc _) ⟨ws.heap.size, 0, none⟩ 1 1 [.int .i64 (sigW k pk)] rfl rfl (cell_one_new _ _ _) (lone_int _) (by have := HlT.out; unfold maxLen; omega) (by have := HlT.out; omega) (by have := HTs.out.size; simp; omega) ?_; intro v' w' hown' hgrow' hnil'; obtain ⟨g2, cap2, rfl, o2, T2⟩ := told_next HTs.out.size HTs.out rfl HOs.out hown' hgrow')
          have HR2 : Hid (RowTo gP 4 n (fun j => .bool (if j < k + 1 then pauseAt C (u j) (p j) else p j)) n w') := HRn.out.keep ((hgrow'.block gP (by have := HRn.out.lt; simp; omega) (fun e => by
            have h8 := HL.out.2.2.2.1
            have h9 := ownB_ge HOs.out (by first | exact e | exact e.symm)
            omega)).trans (blk_old _ HRn.out.lt))
          clear hown' hgrow' hnil'
          go_roundw
          case rel => exact ⟨k + 1, _, by omega, by go_num, rfl, by rw [HLn.out, List.length_append]; simpa [intL] using o2, HR2.out, T2⟩
          case measure => simp [intOf]; omega
      · obtain rfl : k = n := by omega
        obtain ⟨kC, kN, kR, kX, rU, rB⟩ := HF.out wr HT.out
        have hOw := HOwn.out
        rw [intL_vals] at hOw
        obtain ⟨aT, cT, rfl, hVT⟩ := own_vt hOw
        have hl := HL.out
        have ht := put3_touch wr (w.heap.size + 1 + 1) (.slice (some ⟨gU, 0, none⟩) k mU) (.int .i64 lo) (.slice (some ⟨gP, 0, none⟩) k mP)
        have hO : OwnCn wr w.heap.size ⟨some ⟨gU, 0, none⟩, k, mU, u, lo, some ⟨gP, 0, none⟩, k, mP, fun i => pauseAt C (u i) (p i)⟩ := ⟨VT.of (by omega) rU, VT.of (by omega) (HRow.out.extC (fun j hj => by rw [if_pos hj]))⟩
        have HSA : Hid (SigAns w (put3 wr (w.heap.size + 1 + 1) (.slice (some ⟨gU, 0, none⟩) k mU) (.int .i64 lo) (.slice (some ⟨gP, 0, none⟩) k mP)) (sigM C ⟨some ⟨gu, qu, none⟩, k, cU, u, lo, some ⟨gp, qp, none⟩, k, cP, p⟩ true) ⟨some ⟨gU, 0, none⟩, k, mU, u, lo, some ⟨gP, 0, none⟩, k, mP, fun i => pauseAt C (u i) (p i)⟩ aT (toldL C u p k).length (fun i => (toldL C u p k).getD i 0)) := by
          refine ⟨touch3 hO kR, (hVT.touchS ht (fun x hx hy => by have := List.mem_singleton.1 hy; have := (hVT.blk x hx).1; omega)).mono (by omega), fun x hx hy => ?_, rB.trans (ht.below rB.size (fun x hx => by have := List.mem_singleton.1 hx; omega)), ⟨rfl, rfl, rfl, rfl, rfl⟩⟩
          have h1 := (hVT.blk x hx).1
          unfold rowsT blkV at hy
          split at hy
          · simp at hy
          · simp at hy
            rcases hy with hy | hy <;> omega
        have cX := blk_cell kX
        have cR := blk_cell kR
        have fR := blk_free kR
        have cB := blk_cell (put3_blk kR (.slice (some ⟨gU, 0, none⟩) k mU) (.int .i64 lo) (.slice (some ⟨gP, 0, none⟩) k mP))
        clear kC kN kR kX rU rB hl ht hO hVT hOw HOwn
        unfold put3 at cB
        go_wp2_with fail
        exact bodyPost_ret (v := .tuple #[.agg #[.slice (some ⟨gU, 0, none⟩) k mU, .int .i64 lo, .slice (some ⟨gP, 0, none⟩) k mP], .slice aT (toldL C u p k).length cT]) (by simp [results, Try.results14, go_sem, cB]) rfl ⟨_, aT, cT, rfl, HSA.out⟩
end Go.Proofs.Ytpldaohflojkmaa
