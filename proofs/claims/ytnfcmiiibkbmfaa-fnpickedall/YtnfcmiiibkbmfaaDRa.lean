/- A round, as the reader draws it: what holds between two steps. -/
import Derived.Test.YtnfcmiiibkbmfaaPaS
import Derived.Test.YtnfcmiiibkbmfaaRnWaitS
import Derived.Test.YtnfcmiiibkbmfaaRd2
namespace Go.Proofs.Ytnfcmiiibkbmfaa
open Go.RowKit
set_option linter.unusedVariables false
set_option linter.unusedSimpArgs false

theorem Kept.touchD {g : Nat} {a b c : World} {S : List Nat} (h : Kept g a b) (ht : Touch S b c) (hS : ∀ x ∈ S, a.heap.size ≤ x) : Kept g a c :=
  ⟨ht.os.trans h.os, ht.tape.trans h.tape, ht.output.trans h.output, Nat.le_trans h.size ht.size, fun k hk hn => (ht.block k (Nat.lt_of_lt_of_le hk h.size) (fun hx => by have := hS k hx; omega)).trans (h.block k hk hn)⟩
theorem Rd.touchD {g : Nat} {cv : Value} {w w' : World} {S : List Nat} (h : Rd g cv w) (ht : Touch S w w') (hS : ∀ x ∈ S, g < x) : Rd g cv w' :=
  h.keep (fun k hk => ht.block k (by have := h.lt; omega) (fun hx => by have := hS k hx; omega))
theorem Kept.asTouch {g : Nat} {w w' : World} (h : Kept g w w') : Touch [g] w w' := ⟨h.os, h.tape, h.output, h.size, fun k hk hn => h.block k hk (by simpa using hn)⟩
theorem Rd.drewD {g : Nat} {cv : Value} {w : World} (h : Rd g cv w) : Rd g cv w.drew := h.keep (fun _ _ => rfl)
theorem Kept.drewD {g : Nat} {a b : World} (h : Kept g a b) : Kept g a b.drew := ⟨h.os, h.tape, h.output, h.size, h.block⟩
theorem map_intsV (cs : List Int) : cs.map (Value.int .i64) = intsV cs.length (fun i => cs.getD i 0) := by
  refine List.ext_getElem? fun i => ?_
  by_cases hi : i < cs.length
  · rw [intsV_at hi]
    simp [hi]
  · rw [List.getElem?_eq_none (by simpa using hi), List.getElem?_eq_none (by rw [intsV_len]; omega)]
theorem own_viA {w : World} {base c : Nat} {a : Option Addr} {cs : List Int} (h : w.ownsRow base 2 1 (.slice a cs.length c) cs.length (cs.map (.int .i64))) : VI w base a cs.length (fun i => cs.getD i 0) := by
  rw [map_intsV] at h
  obtain ⟨a', c', e, hv⟩ := own_vi h
  cases e
  exact hv
/-- the quanta, while they are drawn -/
structure DQ (g : Nat) (cv : Value) (w : World) (v : Value) (cs : List Int) (wr : World) : Prop where
  rd : Rd g cv wr
  kept : Kept g w wr
  own : wr.ownsRow (w.heap.size + 1) 2 1 v cs.length (cs.map (.int .i64))
  qs : ∀ c ∈ cs, 1 ≤ c ∧ c ≤ 6
  res : wr.heap[w.heap.size]? = some (.cells #[.slice none 0 0, .slice none 0 0, .int .i64 0, .bool false, .slice none 0 0] 27 (0, 0))
theorem DQ.keptBy {g : Nat} {cv : Value} {w wr wr' : World} {v : Value} {cs : List Int} (h : DQ g cv w v cs wr) (hg : g < w.heap.size) (hR : Rd g cv wr') (hK : Kept g wr wr') : DQ g cv w v cs wr' :=
  ⟨hR, h.kept.trans hK, own_keepA h.own (fun b hb hlt => hK.block b hlt (by omega)), h.qs, kblk hK h.res (by omega)⟩
theorem DQ.start {g : Nat} {cv : Value} {w : World} (h : Rd g cv w) : DQ g cv w (.slice (some ⟨w.heap.size + 1, 0, none⟩) 0 0) [] ((w.alloc (.cells #[.slice none 0 0, .slice none 0 0, .int .i64 0, .bool false, .slice none 0 0] 27)).alloc (.cells #[] 2)) := by
  have e1 : (w.alloc (.cells #[.slice none 0 0, .slice none 0 0, .int .i64 0, .bool false, .slice none 0 0] 27)).heap.size = w.heap.size + 1 := by simp
  refine ⟨(h.alloc _).alloc _, ((Kept.refl g w).alloc _).alloc _, ?_, fun c hc => by simp at hc, (blk_old _ (by omega)).trans (blk_new _ _)⟩
  have hb := blk_new (w.alloc (.cells #[.slice none 0 0, .slice none 0 0, .int .i64 0, .bool false, .slice none 0 0] 27)) (.cells #[] 2)
  rw [e1] at hb
  exact ⟨by simp, .inr ⟨_, _, #[], rfl, by omega, hb, by simp, by unfold maxLen; omega, by simp, by simp⟩⟩
theorem DQ.app {g : Nat} {cv : Value} {w wr : World} {v : Value} {cs : List Int} (h : DQ g cv w v cs wr) (hg : g < w.heap.size) (c : Int) (hl : cs.length ≤ 1000) (hc : 1 ≤ c ∧ c ≤ 6) :
    ∃ a' c' W', (Builtin.append_ #[24, 24] 24 #[v, .slice (some ⟨wr.heap.size, 0, none⟩) 1 1]).run Try.prog (wr.alloc (.cells #[.int .i64 c] 2)) = .ok (.slice a' (cs.length + 1) c') W' ∧ DQ g cv w (.slice a' (cs.length + 1) c') (cs ++ [c]) W' := by
  obtain ⟨v', W', hrun, hown, ⟨a', c', rfl⟩, ⟨S, hT, hS1, hS2⟩, _⟩ := app_one h.own c hl (by have := blk_lt h.res; omega)
  have eL : (cs ++ [c]).length = cs.length + 1 := by simp
  rw [eL] at hrun
  refine ⟨a', c', W', hrun, h.rd.touchD hT (fun x hx => by have := hS1 x hx; omega), h.kept.touchD hT (fun x hx => by have := hS1 x hx; omega), by rw [eL] at hown ⊢; exact hown, fun d hd => ?_, (hT.block _ (blk_lt h.res) (fun hx => by have := hS1 _ hx; omega)).trans h.res⟩
  rcases List.mem_append.1 hd with hd | hd
  · exact h.qs d hd
  · simp at hd
    rw [hd]
    exact hc
/-- quanta of which a round can be made -/
theorem new_ok {n : Nat} {f : Nat → Int} (hn : 1 ≤ n ∧ n ≤ 4) (hq : ∀ i, i < n → 1 ≤ f i ∧ f i ≤ 10) : (newR n f none 0 0 0).Ok :=
  ⟨hn, rfl, rfl, ⟨Int.le_refl _, by show (0 : Int) < (n : Int); omega⟩, fun i hi => ⟨hq i hi, ⟨Nat.zero_le _, fun j hj => absurd hj (Nat.not_lt_zero j)⟩, by show defP _ 0 0 _; unfold defP; rw [if_pos rfl]⟩⟩
theorem DQ.ok {g : Nat} {cv : Value} {w wr : World} {v : Value} {cs : List Int} (h : DQ g cv w v cs wr) (hn : 1 ≤ cs.length ∧ cs.length ≤ 4) : (newR cs.length (fun i => cs.getD i 0) none 0 0 0).Ok :=
  new_ok hn (fun i hi => by
    have hm : cs.getD i 0 ∈ cs := by
      rw [List.getD_eq_getElem?_getD, List.getElem?_eq_getElem hi]
      exact List.getElem_mem hi
    have := h.qs _ hm
    omega)
theorem waitsM_okP {R : Rnd} {c s : Int} (h : waitsP R c s) : (waitsM R c s true).Ok := by
  obtain ⟨ho, hc, hs, hl⟩ := h
  refine ⟨ho.n, ho.d, ho.s, ho.t, fun i hi => ?_⟩
  obtain ⟨h1, h2, h3⟩ := ho.c i hi
  show clsP (R.q i) (R.d i) (if i = c.toNat then R.L c.toNat + 1 else R.L i) (fun j => if i = c.toNat then pushZ (R.L c.toNat) s (R.z c.toNat) j else R.z i j) (R.begun i)
  by_cases e : i = c.toNat
  · subst e
    simp only [if_true]
    refine ⟨h1, ⟨by omega, fun j hj => ?_⟩, ?_⟩
    · show 1 ≤ pushZ _ s _ j ∧ pushZ _ s _ j ≤ 5
      unfold pushZ
      split
      · exact hs
      · exact h2.2 j (by omega)
    · unfold defP at h3 ⊢
      rw [if_neg (by omega)]
      split at h3
      · rw [h3]
        refine ⟨Int.le_refl _, ?_⟩
        split <;> omega
      · exact h3
  · simp only [if_neg e]
    exact ⟨h1, h2, h3⟩
/-- no block of a round is a box of a round -/
theorem OwnRn.notBox {w : World} {base : Nat} {R : Rnd} (h : OwnRn w base R) {g : Nat} {arr : Array Value} (hg : w.heap[g]? = some (.cells arr 27 (0, 0))) : ∀ x ∈ rBlk R, x ∉ [g] := by
  intro x hx hx2
  simp at hx2
  subst hx2
  unfold rBlk at hx
  rcases List.mem_append.1 hx with hx | hx
  · rcases List.mem_append.1 hx with hx | hx
    · rcases List.mem_append.1 hx with hx | hx
      · exact notInI h.q (by decide) hg hx
      · exact notInI h.d (by decide) hg hx
    · rcases h.s with h0 | ⟨g', e, hb, arr', h1, _⟩
      · unfold blkI at hx; rw [if_pos h0] at hx; simp at hx
      · rw [e] at hx
        unfold blkI at hx
        split at hx
        · simp at hx
        · have hx' : x = g' := by simpa using hx
          rw [← hx', hg] at h1
          simp at h1
  · obtain ⟨i, hi, hx⟩ := zBlk_mem.1 hx
    exact notInI (h.z i hi) (by decide) hg hx
/-- the round, while it is drawn -/
structure DR (g : Nat) (cv : Value) (w : World) (N bx : Nat) (X : Rnd) (wr : World) : Prop where
  rd : Rd g cv wr
  kept : Kept g w wr
  box : wr.heap[bx]? = some (.cells X.cells 27 (0, 0))
  own : OwnRn wr (w.heap.size + 1) X
  ok : X.Ok
  n : X.nQ = N
  res : wr.heap[w.heap.size]? = some (.cells #[.slice none 0 0, .slice none 0 0, .int .i64 0, .bool false, .slice none 0 0] 27 (0, 0))
  lo : w.heap.size < bx
section
variable {g : Nat} {cv : Value} {w wr wr' : World} {N bx : Nat} {X : Rnd}
theorem DR.keptBy (h : DR g cv w N bx X wr) (hg : g < w.heap.size) (hR : Rd g cv wr') (hK : Kept g wr wr') : DR g cv w N bx X wr' :=
  ⟨hR, h.kept.trans hK, kblk hK h.box (by have := h.lo; omega), h.own.touch hK.asTouch (fun x hx => by simp at hx; omega), h.ok, h.n, kblk hK h.res (by omega), h.lo⟩
theorem DR.below (h : DR g cv w N bx X wr) (hb : Below wr.heap.size wr wr') : DR g cv w N bx X wr' :=
  ⟨h.rd.below hb, h.kept.trans (Kept.ofBelow hb), (hb.block _ (blk_lt h.box)).trans h.box, h.own.up hb, h.ok, h.n, (hb.block _ (blk_lt h.res)).trans h.res, h.lo⟩
/-- another round laid into the box -/
theorem DR.lay (h : DR g cv w N bx X wr) (hg : g < w.heap.size) {Y : Rnd} (hO : OwnRn wr (w.heap.size + 1) Y) (hok : Y.Ok) (hn : Y.nQ = N) :
    DR g cv w N bx Y (put5 wr bx (.slice Y.aQ Y.nQ Y.cQ) (.slice Y.aD Y.nD Y.cD) (.int .i64 Y.turn) (.bool Y.fresh) (.slice Y.aS Y.nS Y.cS)) := by
  have ht := put5_touch wr bx (.slice Y.aQ Y.nQ Y.cQ) (.slice Y.aD Y.nD Y.cD) (.int .i64 Y.turn) (.bool Y.fresh) (.slice Y.aS Y.nS Y.cS)
  have hl := h.lo
  exact ⟨h.rd.touchD ht (fun x hx => by simp at hx; omega), h.kept.touchD ht (fun x hx => by simp at hx; omega), put5_blk h.box _ _ _ _ _, hO.touchB ht (hO.notBox h.box), hok, hn, (ht.block _ (blk_lt h.res) (by simp; omega)).trans h.res, h.lo⟩
/-- another box written -/
theorem DR.other (h : DR g cv w N bx X wr) (hg : g < w.heap.size) {bN : Nat} (hl : w.heap.size < bN) (hne : bN ≠ bx) {arr : Array Value} (hb : wr.heap[bN]? = some (.cells arr 27 (0, 0))) (v0 v1 v2 v3 v4 : Value) : DR g cv w N bx X (put5 wr bN v0 v1 v2 v3 v4) := by
  have ht := put5_touch wr bN v0 v1 v2 v3 v4
  exact ⟨h.rd.touchD ht (fun x hx => by simp at hx; omega), h.kept.touchD ht (fun x hx => by simp at hx; omega), (ht.block _ (blk_lt h.box) (by simp; omega)).trans h.box, h.own.touchB ht (h.own.notBox hb), h.ok, h.n, (ht.block _ (blk_lt h.res) (by simp; omega)).trans h.res, h.lo⟩
end
/-- behind a wait: the answer in a box of its own -/
def WaitSt (g : Nat) (cv : Value) (w : World) (N bx : Nat) (X : Rnd) (s8 s9 : Value) (wc : World) : Prop :=
  ∃ (bN : Nat) (Y : Rnd) (ok : Bool), s8 = .pointer (some ⟨bN, 0, none⟩) ∧ s9 = .bool ok ∧ DR g cv w N bx X wc ∧ bN ≠ bx ∧ wc.heap[bN]? = some (.cells Y.cells 27 (0, 0)) ∧ OwnRn wc (w.heap.size + 1) Y ∧ (ok = true → Y.Ok ∧ Y.nQ = N)
theorem waitSt_mk {g : Nat} {cv : Value} {w wr : World} {N bx bN : Nat} {X Y : Rnd} {ok : Bool} (h : DR g cv w N bx X wr) (hg : g < w.heap.size) (hl : w.heap.size < bN) (hne : bN ≠ bx) (hb : wr.heap[bN]? = some (.cells #[.slice none 0 0, .slice none 0 0, .int .i64 0, .bool false, .slice none 0 0] 27 (0, 0))) (hO : OwnRn wr (w.heap.size + 1) Y) (hok : ok = true → Y.Ok ∧ Y.nQ = N) :
    WaitSt g cv w N bx X (.pointer (some ⟨bN, 0, none⟩)) (.bool ok) (put5 wr bN (.slice Y.aQ Y.nQ Y.cQ) (.slice Y.aD Y.nD Y.cD) (.int .i64 Y.turn) (.bool Y.fresh) (.slice Y.aS Y.nS Y.cS)) :=
  ⟨bN, Y, ok, rfl, rfl, h.other hg hl hne hb _ _ _ _ _, hne, put5_blk hb _ _ _ _ _, hO.touchB (put5_touch _ _ _ _ _ _ _) (hO.notBox hb), hok⟩
theorem pickM_okD {R M : Rnd} {x s : Int} (h : PickM R M x s) (ho : R.Ok) : M.Ok ∧ M.nQ = R.nQ := by
  rcases h with ⟨hn, _⟩ | ⟨_, _, rfl, _⟩ | ⟨_, _, k, c, hp, _⟩
  · exact absurd ho hn
  · exact ⟨ho, rfl⟩
  · exact ⟨(hp.ok ho).1, (hp.ok ho).2.1⟩
/-- the round, drawn -/
structure DF (g : Nat) (cv : Value) (w : World) (bx : Nat) (X : Rnd) (wr : World) : Prop where
  rd : Rd g cv wr
  kept : Kept g w wr
  box : wr.heap[bx]? = some (.cells X.cells 27 (0, 0))
  own : OwnRn wr (w.heap.size + 1) X
  small : X.Small
  res : wr.heap[w.heap.size]? = some (.cells #[.slice none 0 0, .slice none 0 0, .int .i64 0, .bool false, .slice none 0 0] 27 (0, 0))
  lo : w.heap.size < bx
section
variable {g : Nat} {cv : Value} {w wr : World} {N bx : Nat} {X : Rnd}
theorem DR.df (h : DR g cv w N bx X wr) : DF g cv w bx X wr := ⟨h.rd, h.kept, h.box, h.own, ok_smallA h.ok, h.res, h.lo⟩
theorem DF.turn (h : DF g cv w bx X wr) (hg : g < w.heap.size) (t : Int) : DF g cv w bx { X with turn := t } (wr.setCell ⟨bx, 2, none⟩ (.int .i64 t)) := by
  have ht : Touch [bx] wr (wr.setCell ⟨bx, 2, none⟩ (.int .i64 t)) := (Touch.refl _ _).set (by simp) _ _
  have hl := h.lo
  have ho := h.own.touchB ht (h.own.notBox h.box)
  have hb := blk_set (i := 2) h.box (.int .i64 t)
  exact ⟨h.rd.touchD ht (fun x hx => by simp at hx; omega), h.kept.touchD ht (fun x hx => by simp at hx; omega), hb, ⟨ho.q, ho.d, ho.s, ho.z, ho.qd, ho.qz, ho.dz, ho.zz⟩, ⟨h.small.q, h.small.d, h.small.s, h.small.l⟩, (ht.block _ (blk_lt h.res) (by simp; omega)).trans h.res, hl⟩
theorem DF.def_ (h : DF g cv w bx X wr) (hg : g < w.heap.size) {gd y : Nat} (ha : X.aD = some ⟨gd, 0, none⟩) (hy : y < X.nD) (t : Int) :
    (∃ u, wr.cell? ⟨gd, y, none⟩ = some u) ∧ wr.frozen? ⟨gd, y, none⟩ = false ∧ DF g cv w bx { X with d := fun i => if i = y then t else X.d i } (wr.setCell ⟨gd, y, none⟩ (.int .i64 t)) := by
  have hd := h.own.d
  obtain ⟨hgd, arr, hb, hn, hc⟩ : w.heap.size + 1 ≤ gd ∧ RowTo gd 2 X.nD (fun i => .int .i64 (X.d i)) X.nD wr := by
    rcases hd with h0 | ⟨g', e, hg', hr⟩
    · omega
    · rw [ha] at e
      cases e
      exact ⟨hg', hr⟩
  have ht : Touch [gd] wr (wr.setCell ⟨gd, y, none⟩ (.int .i64 t)) := (Touch.refl _ _).set (by simp) _ _
  have hin : gd ∈ blkI X.aD X.nD := by rw [ha]; exact blkI_mem (by omega)
  have nin : ∀ {a : Option Addr} {n : Nat}, apartI X.aD X.nD a n → ∀ x ∈ blkI a n, x ∉ [gd] := fun hp x hx hx2 => by
    simp at hx2
    rw [hx2] at hx
    exact hp _ hin hx
  have hne : gd ≠ bx := fun e => by
    rw [e, h.box] at hb
    simp at hb
  have hne2 : gd ≠ w.heap.size := by omega
  refine ⟨⟨_, (blk_cell hb y).trans (hc y hy)⟩, blk_free hb y, h.rd.touchD ht (fun x hx => by simp at hx; omega), h.kept.touchD ht (fun x hx => by simp at hx; omega), (ht.block _ (blk_lt h.box) (by simp; omega)).trans h.box, ⟨h.own.q.touchS ht (nin h.own.qd.symm), ?_, ?_, fun i hi => (h.own.z i hi).touchS ht (nin (h.own.dz i hi)), h.own.qd, h.own.qz, h.own.dz, h.own.zz⟩, ⟨h.small.q, h.small.d, h.small.s, h.small.l⟩, (ht.block _ (blk_lt h.res) (by simp; omega)).trans h.res, h.lo⟩
  · refine .inr ⟨gd, ha, hgd, _, blk_set hb _, by simpa using hn, fun i hi => ?_⟩
    dsimp only
    by_cases e : i = y
    · subst e
      rw [Array.getElem?_setIfInBounds_self_of_lt (by omega), if_pos rfl]
    · rw [Array.getElem?_setIfInBounds_ne (by omega), if_neg e]
      exact hc i hi
  · rcases h.own.s with h0 | ⟨g', e, hg', arr', h1, h2⟩
    · exact .inl h0
    · refine .inr ⟨g', e, hg', arr', (ht.block g' (blk_lt h1) (fun hx => ?_)).trans h1, h2⟩
      simp at hx
      rw [hx, hb] at h1
      simp at h1
/-- laid into the place of the answer -/
theorem DF.fin (h : DF g cv w bx X wr) (hg : g < w.heap.size) :
    (∀ o, (put5 wr w.heap.size (.slice X.aQ X.nQ X.cQ) (.slice X.aD X.nD X.cD) (.int .i64 X.turn) (.bool X.fresh) (.slice X.aS X.nS X.cS)).cell? ⟨w.heap.size, o, none⟩ = (#[.slice X.aQ X.nQ X.cQ, .slice X.aD X.nD X.cD, .int .i64 X.turn, .bool X.fresh, .slice X.aS X.nS X.cS] : Array Value)[o]?) ∧
    OwnRn (put5 wr w.heap.size (.slice X.aQ X.nQ X.cQ) (.slice X.aD X.nD X.cD) (.int .i64 X.turn) (.bool X.fresh) (.slice X.aS X.nS X.cS)) w.heap.size X ∧
    Rd g cv (put5 wr w.heap.size (.slice X.aQ X.nQ X.cQ) (.slice X.aD X.nD X.cD) (.int .i64 X.turn) (.bool X.fresh) (.slice X.aS X.nS X.cS)) ∧
    Kept g w (put5 wr w.heap.size (.slice X.aQ X.nQ X.cQ) (.slice X.aD X.nD X.cD) (.int .i64 X.turn) (.bool X.fresh) (.slice X.aS X.nS X.cS)) := by
  have ht := put5_touch wr w.heap.size (.slice X.aQ X.nQ X.cQ) (.slice X.aD X.nD X.cD) (.int .i64 X.turn) (.bool X.fresh) (.slice X.aS X.nS X.cS)
  exact ⟨blk_cell (put5_blk h.res _ _ _ _ _), (h.own.touch ht (fun x hx => by simp at hx; omega)).mono (by omega), h.rd.touchD ht (fun x hx => by simp at hx; omega), h.kept.touchD ht (fun x hx => by simp at hx; omega)⟩
end
end Go.Proofs.Ytnfcmiiibkbmfaa
