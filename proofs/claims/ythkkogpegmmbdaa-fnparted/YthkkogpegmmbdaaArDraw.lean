/- The arenas that the laws draw. -/
import Derived.Test.YthkkogpegmmbdaaArPath3
import Derived.Test.YthkkogpegmmbdaaArSGive
import Derived.Maps.AppendAt
import Derived.Test.YthkkogpegmmbdaaArNewP
namespace Go.Proofs.Ythkkogpegmmbdaa
open Go.RowKit
set_option linter.unusedVariables false
set_option linter.unusedSimpArgs false

theorem VRow.kept {t : TypeId} {w w' : World} {g base n : Nat} {v : Value} {f : Nat → Value} (h : VRow t w base v n f) (hg : g < base) (hK : Kept g w w') : VRow t w' base v n f :=
  h.keep (fun b hb => hK.block b (h.lt b hb).1 (by have := (h.lt b hb).2; omega))
theorem own_keep {w w' : World} {base size n : Nat} {e : TypeId} {v : Value} {xs : List Value} (h : w.ownsRow base e size v n xs) (hk : ∀ b, base ≤ b → b < w.heap.size → w'.heap[b]? = w.heap[b]?) : w'.ownsRow base e size v n xs := by
  obtain ⟨hl, h | ⟨g', cap', cur, hv, hg, hblk, hr⟩⟩ := h
  · exact ⟨hl, .inl h⟩
  · exact ⟨hl, .inr ⟨g', cap', cur, hv, hg, (hk g' hg (blk_lt hblk)).trans hblk, hr⟩⟩
theorem vrow_form {t : TypeId} {w : World} {base n : Nat} {v : Value} {f : Nat → Value} (h : VRow t w base v n f) : ∃ a c, v = .slice a n c := by
  obtain ⟨a, c, e, _⟩ := h
  exact ⟨a, c, e⟩
theorem VRow.neBox {t tA : TypeId} {w : World} {base n b : Nat} {v : Value} {f : Nat → Value} {cs : Array Value} {fz : Nat × Nat} (h : VRow t w base v n f) (hb : w.heap[b]? = some (.cells cs tA fz)) (ht : t ≠ tA) : ∀ x ∈ bl v, x ≠ b := by
  obtain ⟨a, cap, rfl, ⟨rfl, rfl⟩ | ⟨g, rfl, hg, arr, hR, _⟩⟩ := h
  · simp [bl]
  · simp only [bl, List.mem_singleton]
    rintro x rfl rfl
    rw [hR] at hb
    cases hb
    exact ht rfl
/-- behind some rounds: the arena a is right, and chains begin at the heads -/
structure Drawn (g : Nat) (cv : Value) (w wr : World) (bA : Nat) (v1 v2 : Value) (fr : Int) (n : Nat) (F : Nat → Int) (U : Nat → ByteArray) (L H : List Int) (vh : Value) : Prop where
  rd : Rd g cv wr
  kept : Kept g w wr
  res : wr.heap[w.heap.size]? = some (.cells #[.slice none 0 0, .slice none 0 0, .int .i64 0] 27 (0, 0))
  bx : wr.heap[bA]? = some (.cells #[v1, v2, .int .i64 fr] 27 (0, 0))
  row1 : VRow 2 wr (w.heap.size + 1) v1 n (fun i => .int .i64 (F i))
  row2 : VRow 9 wr (w.heap.size + 1) v2 n (fun i => .string (U i))
  own : wr.ownsRow (w.heap.size + 1) 2 1 vh H.length (H.map (.int .i64))
  ok : Right n F U fr L
  heads : ∀ c ∈ H, headP n F U c
  nd : H.Nodup
  ap : ∀ b ∈ bl v1, vh.ownBlock ≠ some b
theorem Drawn.below {g : Nat} {cv : Value} {w wr wr' : World} {bA : Nat} {v1 v2 vh : Value} {fr : Int} {n : Nat} {F : Nat → Int} {U : Nat → ByteArray} {L H : List Int} (d : Drawn g cv w wr bA v1 v2 fr n F U L H vh) (hb : Below wr.heap.size wr wr') : Drawn g cv w wr' bA v1 v2 fr n F U L H vh :=
  ⟨d.rd.below hb, d.kept.trans (Kept.ofBelow hb), (hb.block _ (blk_lt d.res)).trans d.res, (hb.block _ (blk_lt d.bx)).trans d.bx, d.row1.up hb, d.row2.up hb, own_keep d.own (fun b _ hl => hb.block b hl), d.ok, d.heads, d.nd, d.ap⟩
theorem Drawn.keptBy {g : Nat} {cv : Value} {w wr wr' : World} {bA : Nat} {v1 v2 vh : Value} {fr : Int} {n : Nat} {F : Nat → Int} {U : Nat → ByteArray} {L H : List Int} (d : Drawn g cv w wr bA v1 v2 fr n F U L H vh) (hg : g < w.heap.size) (hA : w.heap.size < bA) (hR : Rd g cv wr') (hK : Kept g wr wr') : Drawn g cv w wr' bA v1 v2 fr n F U L H vh :=
  ⟨hR, d.kept.trans hK, (hK.block _ (blk_lt d.res) (by omega)).trans d.res, (hK.block _ (blk_lt d.bx) (by omega)).trans d.bx, d.row1.kept (by omega) hK, d.row2.kept (by omega) hK, own_keep d.own (fun b hb hl => hK.block b hl (by omega)), d.ok, d.heads, d.nd, d.ap⟩
theorem Drawn.few {g : Nat} {cv : Value} {w wr : World} {bA : Nat} {v1 v2 vh : Value} {fr : Int} {n : Nat} {F : Nat → Int} {U : Nat → ByteArray} {L H : List Int} (d : Drawn g cv w wr bA v1 v2 fr n F U L H vh) : H.length ≤ n :=
  pigeon n H d.nd (fun c hc => ⟨(d.heads c hc).1, (d.heads c hc).2.1⟩)

theorem Drawn.store {g : Nat} {cv : Value} {w wr : World} {bA : Nat} {v1 v2 vh u1 u2 : Value} {fr fr' : Int} {n : Nat} {F F' : Nat → Int} {U U' : Nat → ByteArray} {L L' H : List Int} (d : Drawn g cv w wr bA v1 v2 fr n F U L H vh) (hg : g < w.heap.size) (hA : w.heap.size < bA)
    (r1 : VRow 2 wr (w.heap.size + 1) u1 n (fun i => .int .i64 (F' i))) (r2 : VRow 9 wr (w.heap.size + 1) u2 n (fun i => .string (U' i))) (hr : Right n F' U' fr' L') (hh : ∀ c ∈ H, headP n F' U' c) (hap : ∀ b ∈ bl u1, vh.ownBlock ≠ some b) :
    Drawn g cv w (((wr.setCell ⟨bA, 0, none⟩ u1).setCell ⟨bA, 1, none⟩ u2).setCell ⟨bA, 2, none⟩ (.int .i64 fr')) bA u1 u2 fr' n F' U' L' H vh := by
  have hne : ∀ b, b ≠ bA → (((wr.setCell ⟨bA, 0, none⟩ u1).setCell ⟨bA, 1, none⟩ u2).setCell ⟨bA, 2, none⟩ (.int .i64 fr')).heap[b]? = wr.heap[b]? := fun b hb => by
    rw [blk_set_ne hb, blk_set_ne hb, blk_set_ne hb]
  have hx : ∀ x ∈ bl u1, x ≠ bA := r1.neBox d.bx (by decide)
  have hy : ∀ x ∈ bl u2, x ≠ bA := r2.neBox d.bx (by decide)
  refine ⟨d.rd.keep (fun k hk => hne k (by omega)), ((d.kept.setNew (by omega) _ _).setNew (by omega) _ _).setNew (by omega) _ _, (hne _ (by omega)).trans d.res, ?_, r1.keep (fun x hm => hne x (hx x hm)), r2.keep (fun x hm => hne x (hy x hm)), ?_, hr, hh, d.nd, hap⟩
  · have b1 := blk_set (i := 0) d.bx u1
    have b2 := blk_set (i := 1) b1 u2
    have b3 := blk_set (i := 2) b2 (.int .i64 fr')
    exact b3
  · have ho := own_ne d.own d.bx (by decide)
    obtain ⟨hl, h | ⟨g', cap', cur, hv, hgg, hblk, hr'⟩⟩ := d.own
    · exact ⟨hl, .inl h⟩
    · refine ⟨hl, .inr ⟨g', cap', cur, hv, hgg, (hne g' (fun e => ho ?_)).trans hblk, hr'⟩⟩
      subst hv
      show some g' = some bA
      rw [e]
theorem Drawn.ownStore {g : Nat} {cv : Value} {w wr : World} {bA : Nat} {v1 v2 vh : Value} {fr : Int} {n : Nat} {F : Nat → Int} {U : Nat → ByteArray} {L H : List Int} (d : Drawn g cv w wr bA v1 v2 fr n F U L H vh) (u1 u2 u3 : Value) :
    (((wr.setCell ⟨bA, 0, none⟩ u1).setCell ⟨bA, 1, none⟩ u2).setCell ⟨bA, 2, none⟩ u3).ownsRow (w.heap.size + 1) 2 1 vh H.length (H.map (.int .i64)) := by
  have ho := own_ne d.own d.bx (by decide)
  obtain ⟨hl, h | ⟨g', cap', cur, hv, hgg, hblk, hr'⟩⟩ := d.own
  · exact ⟨hl, .inl h⟩
  · have hb : g' ≠ bA := fun e => ho (by subst hv; show some g' = some bA; rw [e])
    exact ⟨hl, .inr ⟨g', cap', cur, hv, hgg, ((blk_set_ne hb _).trans ((blk_set_ne hb _).trans (blk_set_ne hb _))).trans hblk, hr'⟩⟩
theorem rest_heads {H : List Int} (hn : H.Nodup) {j : Nat} (hj : j < H.length) : (∀ c ∈ H.take j ++ H.drop (j + 1), c ∈ H ∧ c ≠ H[j]) ∧ (H.take j ++ H.drop (j + 1)).Nodup := by
  constructor
  · intro c hc
    rcases List.mem_append.1 hc with hc | hc
    · refine ⟨List.mem_of_mem_take hc, fun e => ?_⟩
      rw [List.mem_take_iff_getElem] at hc
      obtain ⟨i, hi, ei⟩ := hc
      have := nodup_at hn (i := i) (j := j) (by omega) hj (by rw [ei, e])
      omega
    · refine ⟨List.mem_of_mem_drop hc, fun e => ?_⟩
      rw [List.mem_drop_iff_getElem] at hc
      obtain ⟨i, hi, ei⟩ := hc
      have := nodup_at hn (i := j + 1 + i) (j := j) (by omega) hj (by rw [ei, e])
      omega
  · rw [← List.eraseIdx_eq_take_drop_succ]
    exact List.Nodup.sublist (List.eraseIdx_sublist H j) hn
theorem Drawn.noHeads {g : Nat} {cv : Value} {w wr : World} {bA : Nat} {v1 v2 vh : Value} {fr : Int} {n : Nat} {F : Nat → Int} {U : Nat → ByteArray} {L H : List Int} (d : Drawn g cv w wr bA v1 v2 fr n F U L H vh) : Drawn g cv w wr bA v1 v2 fr n F U L [] (.slice none 0 0) :=
  ⟨d.rd, d.kept, d.res, d.bx, d.row1, d.row2, ⟨by simp, .inl ⟨rfl, rfl⟩⟩, d.ok, by simp, by simp, fun b _ => by simp [Value.ownBlock]⟩
theorem Drawn.heads' {g : Nat} {cv : Value} {w wr : World} {bA : Nat} {v1 v2 vh vh' : Value} {fr : Int} {n : Nat} {F : Nat → Int} {U : Nat → ByteArray} {L H H' : List Int} (d : Drawn g cv w wr bA v1 v2 fr n F U L H vh) (ho : wr.ownsRow (w.heap.size + 1) 2 1 vh' H'.length (H'.map (.int .i64))) (hh : ∀ c ∈ H', headP n F U c) (hn : H'.Nodup) (hap : ∀ b ∈ bl v1, vh'.ownBlock ≠ some b) : Drawn g cv w wr bA v1 v2 fr n F U L H' vh' :=
  ⟨d.rd, d.kept, d.res, d.bx, d.row1, d.row2, ho, d.ok, hh, hn, hap⟩

theorem Drawn.other {g : Nat} {cv : Value} {w wr : World} {bA bN : Nat} {v1 v2 vh : Value} {fr : Int} {n : Nat} {F : Nat → Int} {U : Nat → ByteArray} {L H : List Int} {cs : Array Value} {fz : Nat × Nat} (d : Drawn g cv w wr bA v1 v2 fr n F U L H vh) (hg : g < w.heap.size) (hA : w.heap.size < bA) (hN : w.heap.size < bN) (hne : bN ≠ bA) (kN : wr.heap[bN]? = some (.cells cs 27 fz)) (u1 u2 u3 : Value) :
    Drawn g cv w (((wr.setCell ⟨bN, 0, none⟩ u1).setCell ⟨bN, 1, none⟩ u2).setCell ⟨bN, 2, none⟩ u3) bA v1 v2 fr n F U L H vh := by
  have hk : ∀ b, b ≠ bN → (((wr.setCell ⟨bN, 0, none⟩ u1).setCell ⟨bN, 1, none⟩ u2).setCell ⟨bN, 2, none⟩ u3).heap[b]? = wr.heap[b]? := fun b hb => by
    rw [blk_set_ne hb, blk_set_ne hb, blk_set_ne hb]
  have hx := d.row1.neBox kN (by decide)
  have hy := d.row2.neBox kN (by decide)
  have ho := own_ne d.own kN (by decide)
  refine ⟨d.rd.keep (fun k hk' => hk k (by omega)), ((d.kept.setNew (by omega) _ _).setNew (by omega) _ _).setNew (by omega) _ _, (hk _ (by omega)).trans d.res, (hk _ (fun e => hne e.symm)).trans d.bx, d.row1.keep (fun x hm => hk x (hx x hm)), d.row2.keep (fun x hm => hk x (hy x hm)), ?_, d.ok, d.heads, d.nd, d.ap⟩
  obtain ⟨hl, h | ⟨g', cap', cur, hv, hgg, hblk, hr'⟩⟩ := d.own
  · exact ⟨hl, .inl h⟩
  · have hb : g' ≠ bN := fun e => ho (by subst hv; show some g' = some bN; rw [e])
    exact ⟨hl, .inr ⟨g', cap', cur, hv, hgg, (hk g' hb).trans hblk, hr'⟩⟩
theorem Drawn.ownLt {g : Nat} {cv : Value} {w wr : World} {bA : Nat} {v1 v2 vh : Value} {fr : Int} {n : Nat} {F : Nat → Int} {U : Nat → ByteArray} {L H : List Int} (d : Drawn g cv w wr bA v1 v2 fr n F U L H vh) {b : Nat} (hb : wr.heap.size ≤ b) : vh.ownBlock ≠ some b := fun e => by
  rcases d.own.2 with ⟨rfl, _⟩ | ⟨g', cap', cur, rfl, hge, hblk, _⟩
  · cases e
  · simp only [Value.ownBlock, Option.some.injEq] at e
    have := blk_lt hblk
    omega
theorem Drawn.ownGe {g : Nat} {cv : Value} {w wr : World} {bA : Nat} {v1 v2 vh : Value} {fr : Int} {n : Nat} {F : Nat → Int} {U : Nat → ByteArray} {L H : List Int} (d : Drawn g cv w wr bA v1 v2 fr n F U L H vh) {b : Nat} (e : vh.ownBlock = some b) : w.heap.size + 1 ≤ b := by
  rcases d.own.2 with ⟨rfl, _⟩ | ⟨g', cap', cur, rfl, hge, hblk, _⟩
  · cases e
  · simp only [Value.ownBlock, Option.some.injEq] at e
    omega
theorem Drawn.grown {g : Nat} {cv : Value} {w wr wr' : World} {bA : Nat} {v1 v2 vh vh' : Value} {fr : Int} {n : Nat} {F : Nat → Int} {U : Nat → ByteArray} {L H H' : List Int} (d : Drawn g cv w wr bA v1 v2 fr n F U L H vh) (hg : g < w.heap.size) (hgr : wr.grownBy wr' vh.ownBlock)
    (ho : wr'.ownsRow (w.heap.size + 1) 2 1 vh' H'.length (H'.map (.int .i64))) (hh : ∀ c ∈ H', headP n F U c) (hn : H'.Nodup) (hap : ∀ b ∈ bl v1, vh'.ownBlock ≠ some b) : Drawn g cv w wr' bA v1 v2 fr n F U L H' vh' := by
  have hne2 := own_ne d.own d.bx (by decide)
  have hk : ∀ b, b < wr.heap.size → vh.ownBlock ≠ some b → wr'.heap[b]? = wr.heap[b]? := fun b hb hne => hgr.block b hb (fun e => hne e.symm)
  refine ⟨d.rd.keep (fun k hk' => hk k (by have := d.rd.lt; omega) (fun e => by have := d.ownGe e; omega)), ⟨hgr.os.trans d.kept.os, hgr.tape.trans d.kept.tape, hgr.output.trans d.kept.output, Nat.le_trans d.kept.size hgr.size, fun k hk1 hk2 => (hk k (Nat.lt_of_lt_of_le hk1 d.kept.size) (fun e => by have := d.ownGe e; omega)).trans (d.kept.block k hk1 hk2)⟩, (hk _ (blk_lt d.res) (fun e => by have := d.ownGe e; omega)).trans d.res, (hk _ (blk_lt d.bx) hne2).trans d.bx, d.row1.keep (fun b hb => hk b (d.row1.lt b hb).1 (d.ap b hb)), d.row2.keep (fun b hb => hk b (d.row2.lt b hb).1 (fun e => ?_)), ho, d.ok, hh, hn, hap⟩
  obtain ⟨a, cap, rfl, ⟨rfl, rfl⟩ | ⟨g2, rfl, hg2, arr, hR, _⟩⟩ := d.row2
  · simp [bl] at hb
  · simp only [bl, List.mem_singleton] at hb
    subst hb
    exact own_ne d.own hR (by decide) e
/-- behind Taken: what it answered lies in a box of its own -/
def TakenSt (g : Nat) (cv : Value) (w : World) (bA : Nat) (v1 v2 : Value) (fr : Int) (n : Nat) (F : Nat → Int) (U : Nat → ByteArray) (L H : List Int) (vh s9 s10 s11 : Value) (wc : World) : Prop :=
  ∃ (bN : Nat) (a1 a2 : Option Addr) (c1 c2 : Nat) (s : ByteArray) (b : Bool), s9 = .pointer (some ⟨bN, 0, none⟩) ∧ s10 = .int .i64 (tHd b (walkL F n fr)) ∧ s11 = .bool b ∧ 1 ≤ s.size ∧ (b = true ↔ takeP n n F U fr s) ∧ Drawn g cv w wc bA v1 v2 fr n F U L H vh ∧ bN ≠ bA ∧
    wc.heap[bN]? = some (.cells #[.slice a1 (gK b n) c1, .slice a2 (gK b n) c2, .int .i64 (tFr b F (walkL F n fr) s)] 27 (0, 0)) ∧ VRow 2 wc (w.heap.size + 1) (.slice a1 (gK b n) c1) (gK b n) (fun i => .int .i64 (tNx F (walkL F n fr) s i)) ∧ VRow 9 wc (w.heap.size + 1) (.slice a2 (gK b n) c2) (gK b n) (fun i => .string (tD (walkL F n fr) s U (needS s) i)) ∧ ∀ x ∈ bl (.slice a1 (gK b n) c1), vh.ownBlock ≠ some x

/-- what is handed over at the end: the answer's box is written, nothing else -/
theorem drawn_close {g : Nat} {cv : Value} {w wz : World} {v1 v2 vh : Value} {n : Nat} {f u : Nat → Value} {H : List Int} (hg : g < w.heap.size) (rd : Rd g cv wz) (kept : Kept g w wz) (r1 : VRow 2 wz (w.heap.size + 1) v1 n f) (r2 : VRow 9 wz (w.heap.size + 1) v2 n u) (ho : wz.ownsRow (w.heap.size + 1) 2 1 vh H.length (H.map (.int .i64))) (u1 u2 u3 : Value) :
    VRow 2 (((wz.setCell ⟨w.heap.size, 0, none⟩ u1).setCell ⟨w.heap.size, 1, none⟩ u2).setCell ⟨w.heap.size, 2, none⟩ u3) w.heap.size v1 n f ∧ VRow 9 (((wz.setCell ⟨w.heap.size, 0, none⟩ u1).setCell ⟨w.heap.size, 1, none⟩ u2).setCell ⟨w.heap.size, 2, none⟩ u3) w.heap.size v2 n u ∧ VRow 2 (((wz.setCell ⟨w.heap.size, 0, none⟩ u1).setCell ⟨w.heap.size, 1, none⟩ u2).setCell ⟨w.heap.size, 2, none⟩ u3) w.heap.size vh H.length (intsOf H) ∧
    Rd g cv (((wz.setCell ⟨w.heap.size, 0, none⟩ u1).setCell ⟨w.heap.size, 1, none⟩ u2).setCell ⟨w.heap.size, 2, none⟩ u3) ∧ Kept g w (((wz.setCell ⟨w.heap.size, 0, none⟩ u1).setCell ⟨w.heap.size, 1, none⟩ u2).setCell ⟨w.heap.size, 2, none⟩ u3) := by
  have hk : ∀ b, b ≠ w.heap.size → (((wz.setCell ⟨w.heap.size, 0, none⟩ u1).setCell ⟨w.heap.size, 1, none⟩ u2).setCell ⟨w.heap.size, 2, none⟩ u3).heap[b]? = wz.heap[b]? := fun b hb => by
    rw [blk_set_ne hb, blk_set_ne hb, blk_set_ne hb]
  have rh := (own_vrow ho).2
  exact ⟨(r1.keep (fun b hb => hk b (by have := (r1.lt b hb).2; omega))).low (by omega), (r2.keep (fun b hb => hk b (by have := (r2.lt b hb).2; omega))).low (by omega), (rh.keep (fun b hb => hk b (by have := (rh.lt b hb).2; omega))).low (by omega), rd.keep (fun k hk' => hk k (by omega)), ((kept.setNew (Nat.le_refl _) _ _).setNew (Nat.le_refl _) _ _).setNew (Nat.le_refl _) _ _⟩

/-- one cell of a block is written that is neither the reader's nor the heads' nor the second row's -/
theorem Drawn.cellSet {g : Nat} {cv : Value} {w wr : World} {bA : Nat} {v1 v2 vh : Value} {fr : Int} {n : Nat} {F : Nat → Int} {U : Nat → ByteArray} {L H : List Int} (d : Drawn g cv w wr bA v1 v2 fr n F U L H vh) (hg : g < w.heap.size) {b : Nat} (hb : w.heap.size < b) (h2 : ∀ x ∈ bl v2, x ≠ b) (hh : vh.ownBlock ≠ some b) (i : Nat) (u : Value) :
    Rd g cv (wr.setCell ⟨b, i, none⟩ u) ∧ Kept g w (wr.setCell ⟨b, i, none⟩ u) ∧ VRow 9 (wr.setCell ⟨b, i, none⟩ u) (w.heap.size + 1) v2 n (fun i => .string (U i)) ∧ World.ownsRow (wr.setCell ⟨b, i, none⟩ u) (w.heap.size + 1) 2 1 vh H.length (H.map (.int .i64)) ∧ (wr.setCell ⟨b, i, none⟩ u).heap[w.heap.size]? = some (.cells #[.slice none 0 0, .slice none 0 0, .int .i64 0] 27 (0, 0)) := by
  have hk : ∀ x, x ≠ b → (wr.setCell ⟨b, i, none⟩ u).heap[x]? = wr.heap[x]? := fun x hx => blk_set_ne hx u
  refine ⟨d.rd.keep (fun k hk' => hk k (by omega)), d.kept.setNew (by omega) _ _, d.row2.keep (fun x hx => hk x (h2 x hx)), ?_, (hk _ (by omega)).trans d.res⟩
  obtain ⟨hl, h | ⟨g', cap', cur, hv, hgg, hblk, hr'⟩⟩ := d.own
  · exact ⟨hl, .inl h⟩
  · have hb : g' ≠ b := fun e => hh (by subst hv; show some g' = some b; rw [e])
    exact ⟨hl, .inr ⟨g', cap', cur, hv, hgg, (hk g' hb).trans hblk, hr'⟩⟩

set_option maxHeartbeats 2000000 in
theorem arena_any (g : Nat) (cv : Value) (w : World) (h : Rd g cv w) :
    Calls Try.prog 24 #[.pointer (some ⟨g, 0, none⟩)] w fun e w' => (∃ (v1 v2 vh : Value) (fr : Int) (n : Nat) (F : Nat → Int) (U : Nat → ByteArray) (H : List Int), e = .returned (.tuple #[.agg #[v1, v2, .int .i64 fr], vh]) ∧ VRow 2 w' w.heap.size v1 n (fun i => .int .i64 (F i)) ∧ VRow 9 w' w.heap.size v2 n (fun i => .string (U i)) ∧ VRow 2 w' w.heap.size vh H.length (intsOf H) ∧ 1 ≤ n ∧ n ≤ 60 ∧ H.length ≤ 60 ∧ ∀ i, i < n → (U i).size ≤ 10) ∧ Rd g cv w' ∧ Kept g w w' := by
  have hg := h.lt
  go_enter Try.func24, Try.ntmps24
  go_wp2_with fail
  refine (below_any _ _ _ _ (h.alloc _) (by omega) (by omega)).mono ?_
  rintro e w1 ⟨x, hx, rfl, hR, hK⟩
  have kR := kblk hK (blk_new w (.cells #[.slice none 0 0, .slice none 0 0, .int .i64 0] 27)) (by omega)
  replace hK := kept_alloc hK
  have z1 : w.heap.size + 1 ≤ w1.heap.size := blk_lt kR
  go_wp2_with fail
  rw [show (1 : Int) + x = ((1 + x : Nat) : Int) by omega]
  refine (sNew_yes (1 + x) _ (by omega) (by omega)).mono ?_
  rintro e w2 ⟨sN, sD, cN, rfl, hsN, hsD, rN, rD, hb⟩
  replace hR := hR.below hb
  replace hK := hK.trans (Kept.ofBelow hb)
  replace kR := (hb.block _ (blk_lt kR)).trans kR
  have z2 := hb.size
  clear hb
  go_wp2_with fail
  have hbX : Below w2.heap.size w2 (w2.alloc (.cells #[.slice (some ⟨sN, 0, none⟩) (1 + x) cN, .slice (some ⟨sD, 0, none⟩) (1 + x) (1 + x), .int .i64 0] 27)) := (Below.refl _ _).alloc (Nat.le_refl _) _
  have kX := blk_new w2 (.cells #[.slice (some ⟨sN, 0, none⟩) (1 + x) cN, .slice (some ⟨sD, 0, none⟩) (1 + x) (1 + x), .int .i64 0] 27)
  have v1 := (VRow.of (cap := cN) (base := w.heap.size + 1) rN (by omega)).up hbX
  have v2 := (VRow.of (cap := 1 + x) (base := w.heap.size + 1) rD (by omega)).up hbX
  replace hR := hR.below hbX
  replace hK := hK.trans (Kept.ofBelow hbX)
  replace kR := (hbX.block _ (blk_lt kR)).trans kR
  have eX : (w2.alloc (.cells #[.slice (some ⟨sN, 0, none⟩) (1 + x) cN, .slice (some ⟨sD, 0, none⟩) (1 + x) (1 + x), .int .i64 0] 27)).heap.size = w2.heap.size + 1 := by simp
  have rNlt := rN.lt
  clear hbX rN rD
  generalize w2.alloc (.cells #[.slice (some ⟨sN, 0, none⟩) (1 + x) cN, .slice (some ⟨sD, 0, none⟩) (1 + x) (1 + x), .int .i64 0] 27) = w3 at *
  have hbY : Below w3.heap.size w3 (w3.alloc (.cells #[] 2)) := (Below.refl _ _).alloc (Nat.le_refl _) _
  have kY := blk_new w3 (.cells #[] 2)
  have D0 : Drawn g cv w (w3.alloc (.cells #[] 2)) w2.heap.size _ _ 0 (1 + x) (newNext (1 + x)) (fun _ => ⟨#[]⟩) (upL 0 (1 + x)) [] (.slice (some ⟨w3.heap.size, 0, none⟩) 0 0) :=
    ⟨hR.below hbY, hK.trans (Kept.ofBelow hbY), (hbY.block _ (blk_lt kR)).trans kR, (hbY.block _ (blk_lt kX)).trans kX, v1.up hbY, v2.up hbY, ⟨by simp, .inr ⟨_, _, #[], rfl, by omega, kY, by simp, by unfold maxLen; omega, by simp, by simp⟩⟩, new_right (by omega) (by omega), by simp, by simp, fun b hb => by
      have := rNlt
      simp only [bl, List.mem_singleton] at hb
      simp only [Value.ownBlock, ne_eq, Option.some.injEq]
      omega⟩
  have D1 : ∃ (v1 v2 vh : Value) (fr : Int) (F : Nat → Int) (U : Nat → ByteArray) (L H : List Int), Value.slice (some ⟨w3.heap.size, 0, none⟩) 0 0 = vh ∧ Drawn g cv w (w3.alloc (.cells #[] 2)) w2.heap.size v1 v2 fr (1 + x) F U L H vh := ⟨_, _, _, _, _, _, _, _, rfl, D0⟩
  have HD : Hid (Drawn g cv w (w3.alloc (.cells #[] 2)) w2.heap.size _ _ 0 (1 + x) (newNext (1 + x)) (fun _ => ⟨#[]⟩) (upL 0 (1 + x)) [] (.slice (some ⟨w3.heap.size, 0, none⟩) 0 0)) := D0
  have hA : w.heap.size < w2.heap.size := by omega
  clear hR hK kR kX kY v1 v2 hbY D0 D1 hsN hsD rNlt
  refine (below_any _ _ _ _ HD.out.rd (by omega) (by omega)).mono ?_
  rintro e w4 ⟨i0, hi0, rfl, hR, hK⟩
  have HE : Hid (Drawn g cv w w4 w2.heap.size _ _ 0 (1 + x) (newNext (1 + x)) (fun _ => ⟨#[]⟩) (upL 0 (1 + x)) [] (.slice (some ⟨w3.heap.size, 0, none⟩) 0 0)) := HD.out.keptBy hg hA hR hK
  clear HD hR hK
  go_wp2_with fail
  rw [eX] at HE
  generalize hbA : w2.heap.size = bA at *
  obtain ⟨nn, hnn⟩ : ∃ nn, nn = 1 + x := ⟨_, rfl⟩
  rw [← hnn] at HE
  have hn1 : 1 ≤ nn := by omega
  have hn2 : nn ≤ 60 := by omega
  clear hnn hx h
  go_loopw [6, 7] (fun sh i wr => ∃ (k : Nat) (vh v1 v2 : Value) (fr : Int) (F : Nat → Int) (U : Nat → ByteArray) (L H : List Int), k ≤ 9 ∧ i = .int .i64 k ∧ vh = sh ∧ Drawn g cv w wr bA v1 v2 fr nn F U L H vh) (fun _ i _ => (intOf i).toNat)
  case atStart => exact ⟨i0, _, _, _, _, _, _, _, _, by omega, rfl, rfl, HE.out⟩
  case round =>
    obtain ⟨k, vh, v1, v2, fr, F, U, L, H, hk, rfl, hvh, D⟩ := hrel
    subst hvh
    clear HE
    have HD : Hid (Drawn g cv w wr bA v1 v2 fr nn F U L H vh) := D
    have hfew := D.few
    obtain ⟨q1, x1, rfl⟩ : ∃ a c, v1 = .slice a nn c := by obtain ⟨a, c, e, _⟩ := D.row1; exact ⟨a, c, e⟩
    obtain ⟨q2, x2, rfl⟩ : ∃ a c, v2 = .slice a nn c := by obtain ⟨a, c, e, _⟩ := D.row2; exact ⟨a, c, e⟩
    obtain ⟨qh, xh, rfl⟩ : ∃ a c, vh = .slice a H.length c := by
      rcases own_forms D.own with ⟨rfl, e0⟩ | ⟨gh, ch, rfl⟩
      · exact ⟨none, 0, by rw [e0]⟩
      · exact ⟨_, _, rfl⟩
    clear D
    by_cases hk0 : 0 < k
    · have hk0' : (0 : Int) < k := by omega
      have HTAKE : Hid True := True.intro
      by_cases hH : 0 < H.length
      · have hH' : (0 : Int) < H.length := by omega
        go_wp2_with fail
        refine (once_any _ _ _ _ HD.out.rd (by omega) (by omega)).mono ?_
        rintro e w5 ⟨y, rfl, hR, hK⟩
        replace HD : Hid (Drawn g cv w w5 bA _ _ fr nn F U L H _) := HD.out.keptBy hg hA hR hK
        clear hR hK
        cases y
        · go_wp2_with fail
          go_cut [9, 10, 11] (fun s9 s10 s11 wc => TakenSt g cv w bA (.slice q1 nn x1) (.slice q2 nn x2) fr nn F U L H (.slice qh H.length xh) s9 s10 s11 wc)
          case first =>
            replace HD : Hid (Drawn g cv w w5.drew bA (.slice q1 nn x1) (.slice q2 nn x2) fr nn F U L H (.slice qh H.length xh)) := HD.out.below ((Below.refl _ _).drew)
            have cA : ∀ o, w5.drew.cell? ⟨bA, o, none⟩ = (#[.slice q1 nn x1, .slice q2 nn x2, .int .i64 fr] : Array Value)[o]? := blk_cell HD.out.bx
            refine wp_region_held_drew (S := fun w' => ∀ o, w'.cell? ⟨bA, o, none⟩ = (#[.slice q1 nn x1, .slice q2 nn x2, .int .i64 fr] : Array Value)[o]?) (by kernel_rfl) cA (fun hHeld => ?_)
            generalize w5.drew = V at *
            refine wpAnyH_take (i := 0) (v := ?_) rfl (by kernel_rfl) (by kernel_rfl) (by kernel_rfl) (fun _ _ _ h => h) (Or.inl ⟨by rfl, ?_⟩) (by assumption) ?_
            rotate_left
            · intro wx hSw
              try dsimp only at hSw
              go_simp
              try (with_reducible rfl)
            try simp only [Act.put, List.setIfInBounds_toArray, List.set_cons_zero, List.set_cons_succ]
            refine wpAnyH_take (i := 1) (v := ?_) rfl (by kernel_rfl) (by kernel_rfl) (by kernel_rfl) (fun _ _ _ h => h) (Or.inl ⟨by rfl, ?_⟩) (by assumption) ?_
            rotate_left
            · intro wx hSw
              try dsimp only at hSw
              go_simp
              try (with_reducible rfl)
            try simp only [Act.put, List.setIfInBounds_toArray, List.set_cons_zero, List.set_cons_succ]
            clear hHeld
            refine wpAnyH_ready (rs := [2, 9]) (by kernel_rfl) (by simp) ?_
            refine AllReadyH.cons rfl (fun K hK => ?_) (AllReadyH.cons rfl (fun K hK => ?_) AllReadyH.nil)
            · go_simp
              refine (body_any _ _ _ HD.out.rd).mono ?_
              rintro e V1 ⟨bt, hbt, rfl, hR, hK2⟩
              replace HD : Hid (Drawn g cv w V1 bA (.slice q1 nn x1) (.slice q2 nn x2) fr nn F U L H (.slice qh H.length xh)) := HD.out.keptBy hg hA hR hK2
              clear hR hK2 cA
              have cA : ∀ o, V1.cell? ⟨bA, o, none⟩ = (#[.slice q1 nn x1, .slice q2 nn x2, .int .i64 fr] : Array Value)[o]? := blk_cell HD.out.bx
              have hcat : ¬ (9223372036854775807 < bt.size + 1) := by omega
              go_wp2_with fail
              refine hK.out _ _ cA (fun hHeld => ?_)
              clear hK K
              try simp only [Act.put, List.setIfInBounds_toArray, List.set_cons_zero, List.set_cons_succ]
              refine wpAnyH_take (i := 3) (v := ?_) rfl (by kernel_rfl) (by kernel_rfl) (by kernel_rfl) (fun _ _ _ h => h) (Or.inl ⟨by rfl, ?_⟩) (by assumption) ?_
              rotate_left
              · intro wx hSw
                try dsimp only at hSw
                go_simp
                try (with_reducible rfl)
              try simp only [Act.put, List.setIfInBounds_toArray, List.set_cons_zero, List.set_cons_succ]
              have hsz : (bt ++ (⟨#[33]⟩ : ByteArray)).size = bt.size + 1 := by rw [ByteArray.size_append]; rfl
              clear hcat hHeld
              refine wpAnyH_ready (rs := [4, 9]) (by kernel_rfl) (by simp) ?_
              refine AllReadyH.cons rfl (fun K hK => ?_) (AllReadyH.cons rfl (fun K hK => ?_) AllReadyH.nil)
              · go_simp
                obtain ⟨qa, qb, eq1, rd1⟩ := HD.out.row1.read
                obtain ⟨qc, qd, eq2, rd2⟩ := HD.out.row2.read
                cases eq1
                cases eq2
                have HU : Hid (∀ i, i < nn → (U i).size ≤ maxLen) := fun i hi => Nat.le_trans (HD.out.ok.data i hi).2 (by unfold maxLen; omega)
                obtain ⟨bb, hbb⟩ : ∃ b : Bool, b = true ↔ takeP nn nn F U fr (bt ++ (⟨#[33]⟩ : ByteArray)) := by
                  by_cases h : takeP nn nn F U fr (bt ++ (⟨#[33]⟩ : ByteArray))
                  · exact ⟨true, by simp [h]⟩
                  · exact ⟨false, by simp [h]⟩
                have HBB : Hid (bb = true ↔ takeP nn nn F U fr (bt ++ (⟨#[33]⟩ : ByteArray))) := hbb
                refine (sTaken_any _ _ nn nn _ _ fr (bt ++ (⟨#[33]⟩ : ByteArray)) F U _ (by omega) (by omega) (by omega) HU.out rd1 rd2 bb hbb).mono ?_
                clear rd1 rd2 hbb
                rintro e V2 ⟨⟨u1, u2, rfl, vT1, vT2⟩, hb⟩
                have HAP : Hid (∀ x ∈ bl u1, (Value.slice qh H.length xh).ownBlock ≠ some x) := fun x hx => HD.out.ownLt (vT1.lt x hx).2
                have zT : w.heap.size + 1 ≤ V1.heap.size := blk_lt HD.out.res
                replace HD : Hid (Drawn g cv w V2 bA (.slice q1 nn x1) (.slice q2 nn x2) fr nn F U L H (.slice qh H.length xh)) := HD.out.below hb
                clear cA
                have cA : ∀ o, V2.cell? ⟨bA, o, none⟩ = (#[.slice q1 nn x1, .slice q2 nn x2, .int .i64 fr] : Array Value)[o]? := blk_cell HD.out.bx
                replace vT1 := vT1.low zT
                replace vT2 := vT2.low zT
                obtain ⟨q3, x3, rfl⟩ := vrow_form vT1
                obtain ⟨q4, x4, rfl⟩ := vrow_form vT2
                clear hb
                go_wp2_with fail
                refine hK.out _ _ cA (fun hHeld => ?_)
                clear hK K
                try simp only [Act.put, List.setIfInBounds_toArray, List.set_cons_zero, List.set_cons_succ]
                refine wpAnyH_take (i := 5) (v := ?_) rfl (by kernel_rfl) (by kernel_rfl) (by kernel_rfl) (fun _ _ _ h => h) (Or.inl ⟨by rfl, ?_⟩) (by assumption) ?_
                rotate_left
                · intro wx hSw
                  try dsimp only at hSw
                  go_simp
                  try (with_reducible rfl)
                try simp only [Act.put, List.setIfInBounds_toArray, List.set_cons_zero, List.set_cons_succ]
                refine wpAnyH_take (i := 6) (v := ?_) rfl (by kernel_rfl) (by kernel_rfl) (by kernel_rfl) (fun _ _ _ h => h) (Or.inl ⟨by rfl, ?_⟩) (by assumption) ?_
                rotate_left
                · intro wx hSw
                  try dsimp only at hSw
                  go_simp
                  try (with_reducible rfl)
                try simp only [Act.put, List.setIfInBounds_toArray, List.set_cons_zero, List.set_cons_succ]
                refine wpAnyH_take (i := 7) (v := ?_) rfl (by kernel_rfl) (by kernel_rfl) (by kernel_rfl) (fun _ _ _ h => h) (Or.inl ⟨by rfl, ?_⟩) (by assumption) ?_
                rotate_left
                · intro wx hSw
                  try dsimp only at hSw
                  go_simp
                  try (with_reducible rfl)
                try simp only [Act.put, List.setIfInBounds_toArray, List.set_cons_zero, List.set_cons_succ]
                refine wpAnyH_take (i := 8) (v := ?_) rfl (by kernel_rfl) (by kernel_rfl) (by kernel_rfl) (fun _ _ _ h => h) (Or.inl ⟨by rfl, ?_⟩) (by assumption) ?_
                rotate_left
                · intro wx hSw
                  try dsimp only at hSw
                  go_simp
                  try (with_reducible rfl)
                try simp only [Act.put, List.setIfInBounds_toArray, List.set_cons_zero, List.set_cons_succ]
                clear hHeld
                refine wpAnyH_ready (rs := [9]) (by kernel_rfl) (by simp) ?_
                refine AllReadyH.cons rfl (fun K hK => ?_) AllReadyH.nil
                go_simp
                have hbX : Below V2.heap.size V2 (V2.alloc (.cells #[.slice none 0 0, .slice none 0 0, .int .i64 0] 27)) := (Below.refl _ _).alloc (Nat.le_refl _) _
                have kN := blk_new V2 (.cells #[.slice none 0 0, .slice none 0 0, .int .i64 0] 27)
                have hN1 : w.heap.size < V2.heap.size := by have := blk_lt HD.out.res; omega
                have hN2 : V2.heap.size ≠ bA := by have := blk_lt HD.out.bx; omega
                replace HD : Hid (Drawn g cv w (V2.alloc (.cells #[.slice none 0 0, .slice none 0 0, .int .i64 0] 27)) bA (.slice q1 nn x1) (.slice q2 nn x2) fr nn F U L H (.slice qh H.length xh)) := HD.out.below hbX
                clear cA
                replace vT1 := vT1.up hbX
                replace vT2 := vT2.up hbX
                generalize hbN : V2.heap.size = bN at *
                generalize V2.alloc (.cells #[.slice none 0 0, .slice none 0 0, .int .i64 0] 27) = V3 at *
                clear hbX
                have cA : ∀ o, V3.cell? ⟨bA, o, none⟩ = (#[.slice q1 nn x1, .slice q2 nn x2, .int .i64 fr] : Array Value)[o]? := blk_cell HD.out.bx
                refine hK.out _ _ cA (fun hHeld => ?_)
                clear hK K
                try simp only [Act.put, List.setIfInBounds_toArray, List.set_cons_zero, List.set_cons_succ]
                clear hHeld
                have cN := blk_cell kN
                have fN := blk_free kN
                refine wpAnyH_ready (rs := [10]) (by kernel_rfl) (by simp) ?_
                refine AllReadyH.cons rfl (fun K hK => ?_) AllReadyH.nil
                go_simp
                have HST : Hid (TakenSt g cv w bA (.slice q1 nn x1) (.slice q2 nn x2) fr nn F U L H (.slice qh H.length xh) (.pointer (some ⟨bN, 0, none⟩)) (.int .i64 (tHd bb (walkL F nn fr))) (.bool bb) (((V3.setCell ⟨bN, 0, none⟩ (.slice q3 (gK bb nn) x3)).setCell ⟨bN, 1, none⟩ (.slice q4 (gK bb nn) x4)).setCell ⟨bN, 2, none⟩ (.int .i64 (tFr bb F (walkL F nn fr) (bt ++ (⟨#[33]⟩ : ByteArray)))))) := by
                  have hk : ∀ b, b ≠ bN → (((V3.setCell ⟨bN, 0, none⟩ (.slice q3 (gK bb nn) x3)).setCell ⟨bN, 1, none⟩ (.slice q4 (gK bb nn) x4)).setCell ⟨bN, 2, none⟩ (.int .i64 (tFr bb F (walkL F nn fr) (bt ++ (⟨#[33]⟩ : ByteArray))))).heap[b]? = V3.heap[b]? := fun b hb => by
                    rw [blk_set_ne hb, blk_set_ne hb, blk_set_ne hb]
                  have hx := vT1.neBox kN (by decide)
                  have hy := vT2.neBox kN (by decide)
                  refine ⟨bN, q3, q4, x3, x4, (bt ++ (⟨#[33]⟩ : ByteArray)), bb, rfl, rfl, rfl, by omega, HBB.out, HD.out.other hg hA hN1 hN2 kN _ _ _, hN2, ?_, vT1.keep (fun x hm => hk x (hx x hm)), vT2.keep (fun x hm => hk x (hy x hm)), HAP.out⟩
                  have b1 := blk_set (i := 0) kN (.slice q3 (gK bb nn) x3)
                  have b2 := blk_set (i := 1) b1 (.slice q4 (gK bb nn) x4)
                  have b3 := blk_set (i := 2) b2 (.int .i64 (tFr bb F (walkL F nn fr) (bt ++ (⟨#[33]⟩ : ByteArray))))
                  exact b3
                have cA2 : ∀ o, (((V3.setCell ⟨bN, 0, none⟩ (.slice q3 (gK bb nn) x3)).setCell ⟨bN, 1, none⟩ (.slice q4 (gK bb nn) x4)).setCell ⟨bN, 2, none⟩ (.int .i64 (tFr bb F (walkL F nn fr) (bt ++ (⟨#[33]⟩ : ByteArray))))).cell? ⟨bA, o, none⟩ = (#[.slice q1 nn x1, .slice q2 nn x2, .int .i64 fr] : Array Value)[o]? := by
                  obtain ⟨_, _, _, _, _, _, _, _, _, _, _, _, d, _⟩ := HST.out
                  exact blk_cell d.bx
                refine hK.out _ _ cA2 (fun hHeld => ?_)
                clear hK K
                try simp only [Act.put, List.setIfInBounds_toArray, List.set_cons_zero, List.set_cons_succ]
                refine wpAnyH_ready (rs := [11]) (by kernel_rfl) (by simp) ?_
                refine AllReadyH.cons rfl (fun K hK => ?_) AllReadyH.nil
                go_simp
                refine hK.out _ _ cA2 (fun hHeld => ?_)
                clear hK K
                try simp only [Act.put, List.setIfInBounds_toArray, List.set_cons_zero, List.set_cons_succ]
                refine wpAnyH_ready (rs := [12]) (by kernel_rfl) (by simp) ?_
                refine AllReadyH.cons rfl (fun K hK => ?_) AllReadyH.nil
                go_simp
                refine hK.out _ _ cA2 (fun hHeld => ?_)
                clear hK K
                try simp only [Act.put, List.setIfInBounds_toArray, List.set_cons_zero, List.set_cons_succ]
                refine wpAnyH_done (by kernel_rfl) ?_ _
                clear hHeld cA2
                go_wp2_with fail
                go_meet
                case rel => exact HST.out
              · go_simp
                have hbX : Below V1.heap.size V1 (V1.alloc (.cells #[.slice none 0 0, .slice none 0 0, .int .i64 0] 27)) := (Below.refl _ _).alloc (Nat.le_refl _) _
                have kN := blk_new V1 (.cells #[.slice none 0 0, .slice none 0 0, .int .i64 0] 27)
                have hN1 : w.heap.size < V1.heap.size := by have := blk_lt HD.out.res; omega
                have hN2 : V1.heap.size ≠ bA := by have := blk_lt HD.out.bx; omega
                replace HD : Hid (Drawn g cv w (V1.alloc (.cells #[.slice none 0 0, .slice none 0 0, .int .i64 0] 27)) bA (.slice q1 nn x1) (.slice q2 nn x2) fr nn F U L H (.slice qh H.length xh)) := HD.out.below hbX
                clear cA
                generalize hbN : V1.heap.size = bN at *
                generalize V1.alloc (.cells #[.slice none 0 0, .slice none 0 0, .int .i64 0] 27) = V2 at *
                clear hbX
                have cA : ∀ o, V2.cell? ⟨bA, o, none⟩ = (#[.slice q1 nn x1, .slice q2 nn x2, .int .i64 fr] : Array Value)[o]? := blk_cell HD.out.bx
                refine hK.out _ _ cA (fun hHeld => ?_)
                clear hK K
                try simp only [Act.put, List.setIfInBounds_toArray, List.set_cons_zero, List.set_cons_succ]
                clear hHeld
                refine wpAnyH_ready (rs := [4]) (by kernel_rfl) (by simp) ?_
                refine AllReadyH.cons rfl (fun K hK => ?_) AllReadyH.nil
                go_simp
                obtain ⟨qa, qb, eq1, rd1⟩ := HD.out.row1.read
                obtain ⟨qc, qd, eq2, rd2⟩ := HD.out.row2.read
                cases eq1
                cases eq2
                have HU : Hid (∀ i, i < nn → (U i).size ≤ maxLen) := fun i hi => Nat.le_trans (HD.out.ok.data i hi).2 (by unfold maxLen; omega)
                obtain ⟨bb, hbb⟩ : ∃ b : Bool, b = true ↔ takeP nn nn F U fr (bt ++ (⟨#[33]⟩ : ByteArray)) := by
                  by_cases h : takeP nn nn F U fr (bt ++ (⟨#[33]⟩ : ByteArray))
                  · exact ⟨true, by simp [h]⟩
                  · exact ⟨false, by simp [h]⟩
                have HBB : Hid (bb = true ↔ takeP nn nn F U fr (bt ++ (⟨#[33]⟩ : ByteArray))) := hbb
                refine (sTaken_any _ _ nn nn _ _ fr (bt ++ (⟨#[33]⟩ : ByteArray)) F U _ (by omega) (by omega) (by omega) HU.out rd1 rd2 bb hbb).mono ?_
                clear rd1 rd2 hbb
                rintro e V3 ⟨⟨u1, u2, rfl, vT1, vT2⟩, hb⟩
                have HAP : Hid (∀ x ∈ bl u1, (Value.slice qh H.length xh).ownBlock ≠ some x) := fun x hx => HD.out.ownLt (vT1.lt x hx).2
                have zT : w.heap.size + 1 ≤ V2.heap.size := blk_lt HD.out.res
                replace kN := (hb.block _ (blk_lt kN)).trans kN
                replace HD : Hid (Drawn g cv w V3 bA (.slice q1 nn x1) (.slice q2 nn x2) fr nn F U L H (.slice qh H.length xh)) := HD.out.below hb
                clear cA
                have cA : ∀ o, V3.cell? ⟨bA, o, none⟩ = (#[.slice q1 nn x1, .slice q2 nn x2, .int .i64 fr] : Array Value)[o]? := blk_cell HD.out.bx
                replace vT1 := vT1.low zT
                replace vT2 := vT2.low zT
                obtain ⟨q3, x3, rfl⟩ := vrow_form vT1
                obtain ⟨q4, x4, rfl⟩ := vrow_form vT2
                clear hb
                go_wp2_with fail
                refine hK.out _ _ cA (fun hHeld => ?_)
                clear hK K
                try simp only [Act.put, List.setIfInBounds_toArray, List.set_cons_zero, List.set_cons_succ]
                refine wpAnyH_take (i := 5) (v := ?_) rfl (by kernel_rfl) (by kernel_rfl) (by kernel_rfl) (fun _ _ _ h => h) (Or.inl ⟨by rfl, ?_⟩) (by assumption) ?_
                rotate_left
                · intro wx hSw
                  try dsimp only at hSw
                  go_simp
                  try (with_reducible rfl)
                try simp only [Act.put, List.setIfInBounds_toArray, List.set_cons_zero, List.set_cons_succ]
                refine wpAnyH_take (i := 6) (v := ?_) rfl (by kernel_rfl) (by kernel_rfl) (by kernel_rfl) (fun _ _ _ h => h) (Or.inl ⟨by rfl, ?_⟩) (by assumption) ?_
                rotate_left
                · intro wx hSw
                  try dsimp only at hSw
                  go_simp
                  try (with_reducible rfl)
                try simp only [Act.put, List.setIfInBounds_toArray, List.set_cons_zero, List.set_cons_succ]
                refine wpAnyH_take (i := 7) (v := ?_) rfl (by kernel_rfl) (by kernel_rfl) (by kernel_rfl) (fun _ _ _ h => h) (Or.inl ⟨by rfl, ?_⟩) (by assumption) ?_
                rotate_left
                · intro wx hSw
                  try dsimp only at hSw
                  go_simp
                  try (with_reducible rfl)
                try simp only [Act.put, List.setIfInBounds_toArray, List.set_cons_zero, List.set_cons_succ]
                refine wpAnyH_take (i := 8) (v := ?_) rfl (by kernel_rfl) (by kernel_rfl) (by kernel_rfl) (fun _ _ _ h => h) (Or.inl ⟨by rfl, ?_⟩) (by assumption) ?_
                rotate_left
                · intro wx hSw
                  try dsimp only at hSw
                  go_simp
                  try (with_reducible rfl)
                try simp only [Act.put, List.setIfInBounds_toArray, List.set_cons_zero, List.set_cons_succ]
                clear hHeld
                have cN := blk_cell kN
                have fN := blk_free kN
                refine wpAnyH_ready (rs := [10]) (by kernel_rfl) (by simp) ?_
                refine AllReadyH.cons rfl (fun K hK => ?_) AllReadyH.nil
                go_simp
                have HST : Hid (TakenSt g cv w bA (.slice q1 nn x1) (.slice q2 nn x2) fr nn F U L H (.slice qh H.length xh) (.pointer (some ⟨bN, 0, none⟩)) (.int .i64 (tHd bb (walkL F nn fr))) (.bool bb) (((V3.setCell ⟨bN, 0, none⟩ (.slice q3 (gK bb nn) x3)).setCell ⟨bN, 1, none⟩ (.slice q4 (gK bb nn) x4)).setCell ⟨bN, 2, none⟩ (.int .i64 (tFr bb F (walkL F nn fr) (bt ++ (⟨#[33]⟩ : ByteArray)))))) := by
                  have hk : ∀ b, b ≠ bN → (((V3.setCell ⟨bN, 0, none⟩ (.slice q3 (gK bb nn) x3)).setCell ⟨bN, 1, none⟩ (.slice q4 (gK bb nn) x4)).setCell ⟨bN, 2, none⟩ (.int .i64 (tFr bb F (walkL F nn fr) (bt ++ (⟨#[33]⟩ : ByteArray))))).heap[b]? = V3.heap[b]? := fun b hb => by
                    rw [blk_set_ne hb, blk_set_ne hb, blk_set_ne hb]
                  have hx := vT1.neBox kN (by decide)
                  have hy := vT2.neBox kN (by decide)
                  refine ⟨bN, q3, q4, x3, x4, (bt ++ (⟨#[33]⟩ : ByteArray)), bb, rfl, rfl, rfl, by omega, HBB.out, HD.out.other hg hA hN1 hN2 kN _ _ _, hN2, ?_, vT1.keep (fun x hm => hk x (hx x hm)), vT2.keep (fun x hm => hk x (hy x hm)), HAP.out⟩
                  have b1 := blk_set (i := 0) kN (.slice q3 (gK bb nn) x3)
                  have b2 := blk_set (i := 1) b1 (.slice q4 (gK bb nn) x4)
                  have b3 := blk_set (i := 2) b2 (.int .i64 (tFr bb F (walkL F nn fr) (bt ++ (⟨#[33]⟩ : ByteArray))))
                  exact b3
                have cA2 : ∀ o, (((V3.setCell ⟨bN, 0, none⟩ (.slice q3 (gK bb nn) x3)).setCell ⟨bN, 1, none⟩ (.slice q4 (gK bb nn) x4)).setCell ⟨bN, 2, none⟩ (.int .i64 (tFr bb F (walkL F nn fr) (bt ++ (⟨#[33]⟩ : ByteArray))))).cell? ⟨bA, o, none⟩ = (#[.slice q1 nn x1, .slice q2 nn x2, .int .i64 fr] : Array Value)[o]? := by
                  obtain ⟨_, _, _, _, _, _, _, _, _, _, _, _, d, _⟩ := HST.out
                  exact blk_cell d.bx
                refine hK.out _ _ cA2 (fun hHeld => ?_)
                clear hK K
                try simp only [Act.put, List.setIfInBounds_toArray, List.set_cons_zero, List.set_cons_succ]
                refine wpAnyH_ready (rs := [11]) (by kernel_rfl) (by simp) ?_
                refine AllReadyH.cons rfl (fun K hK => ?_) AllReadyH.nil
                go_simp
                refine hK.out _ _ cA2 (fun hHeld => ?_)
                clear hK K
                try simp only [Act.put, List.setIfInBounds_toArray, List.set_cons_zero, List.set_cons_succ]
                refine wpAnyH_ready (rs := [12]) (by kernel_rfl) (by simp) ?_
                refine AllReadyH.cons rfl (fun K hK => ?_) AllReadyH.nil
                go_simp
                refine hK.out _ _ cA2 (fun hHeld => ?_)
                clear hK K
                try simp only [Act.put, List.setIfInBounds_toArray, List.set_cons_zero, List.set_cons_succ]
                refine wpAnyH_done (by kernel_rfl) ?_ _
                clear hHeld cA2
                go_wp2_with fail
                go_meet
                case rel => exact HST.out
            · go_simp
              have hbX : Below V.heap.size V (V.alloc (.cells #[.slice none 0 0, .slice none 0 0, .int .i64 0] 27)) := (Below.refl _ _).alloc (Nat.le_refl _) _
              have kN := blk_new V (.cells #[.slice none 0 0, .slice none 0 0, .int .i64 0] 27)
              have hN1 : w.heap.size < V.heap.size := by have := blk_lt HD.out.res; omega
              have hN2 : V.heap.size ≠ bA := by have := blk_lt HD.out.bx; omega
              replace HD : Hid (Drawn g cv w (V.alloc (.cells #[.slice none 0 0, .slice none 0 0, .int .i64 0] 27)) bA (.slice q1 nn x1) (.slice q2 nn x2) fr nn F U L H (.slice qh H.length xh)) := HD.out.below hbX
              clear cA
              generalize hbN : V.heap.size = bN at *
              generalize V.alloc (.cells #[.slice none 0 0, .slice none 0 0, .int .i64 0] 27) = V1 at *
              clear hbX
              have cA : ∀ o, V1.cell? ⟨bA, o, none⟩ = (#[.slice q1 nn x1, .slice q2 nn x2, .int .i64 fr] : Array Value)[o]? := blk_cell HD.out.bx
              refine hK.out _ _ cA (fun hHeld => ?_)
              clear hK K
              try simp only [Act.put, List.setIfInBounds_toArray, List.set_cons_zero, List.set_cons_succ]
              clear hHeld
              refine wpAnyH_ready (rs := [2]) (by kernel_rfl) (by simp) ?_
              refine AllReadyH.cons rfl (fun K hK => ?_) AllReadyH.nil
              go_simp
              refine (body_any _ _ _ HD.out.rd).mono ?_
              rintro e V2 ⟨bt, hbt, rfl, hR, hK2⟩
              replace kN := (hK2.block _ (blk_lt kN) (by omega)).trans kN
              replace HD : Hid (Drawn g cv w V2 bA (.slice q1 nn x1) (.slice q2 nn x2) fr nn F U L H (.slice qh H.length xh)) := HD.out.keptBy hg hA hR hK2
              clear hR hK2 cA
              have cA : ∀ o, V2.cell? ⟨bA, o, none⟩ = (#[.slice q1 nn x1, .slice q2 nn x2, .int .i64 fr] : Array Value)[o]? := blk_cell HD.out.bx
              have hcat : ¬ (9223372036854775807 < bt.size + 1) := by omega
              go_wp2_with fail
              refine hK.out _ _ cA (fun hHeld => ?_)
              clear hK K
              try simp only [Act.put, List.setIfInBounds_toArray, List.set_cons_zero, List.set_cons_succ]
              refine wpAnyH_take (i := 3) (v := ?_) rfl (by kernel_rfl) (by kernel_rfl) (by kernel_rfl) (fun _ _ _ h => h) (Or.inl ⟨by rfl, ?_⟩) (by assumption) ?_
              rotate_left
              · intro wx hSw
                try dsimp only at hSw
                go_simp
                try (with_reducible rfl)
              try simp only [Act.put, List.setIfInBounds_toArray, List.set_cons_zero, List.set_cons_succ]
              have hsz : (bt ++ (⟨#[33]⟩ : ByteArray)).size = bt.size + 1 := by rw [ByteArray.size_append]; rfl
              clear hcat hHeld
              refine wpAnyH_ready (rs := [4]) (by kernel_rfl) (by simp) ?_
              refine AllReadyH.cons rfl (fun K hK => ?_) AllReadyH.nil
              go_simp
              obtain ⟨qa, qb, eq1, rd1⟩ := HD.out.row1.read
              obtain ⟨qc, qd, eq2, rd2⟩ := HD.out.row2.read
              cases eq1
              cases eq2
              have HU : Hid (∀ i, i < nn → (U i).size ≤ maxLen) := fun i hi => Nat.le_trans (HD.out.ok.data i hi).2 (by unfold maxLen; omega)
              obtain ⟨bb, hbb⟩ : ∃ b : Bool, b = true ↔ takeP nn nn F U fr (bt ++ (⟨#[33]⟩ : ByteArray)) := by
                by_cases h : takeP nn nn F U fr (bt ++ (⟨#[33]⟩ : ByteArray))
                · exact ⟨true, by simp [h]⟩
                · exact ⟨false, by simp [h]⟩
              have HBB : Hid (bb = true ↔ takeP nn nn F U fr (bt ++ (⟨#[33]⟩ : ByteArray))) := hbb
              refine (sTaken_any _ _ nn nn _ _ fr (bt ++ (⟨#[33]⟩ : ByteArray)) F U _ (by omega) (by omega) (by omega) HU.out rd1 rd2 bb hbb).mono ?_
              clear rd1 rd2 hbb
              rintro e V3 ⟨⟨u1, u2, rfl, vT1, vT2⟩, hb⟩
              have HAP : Hid (∀ x ∈ bl u1, (Value.slice qh H.length xh).ownBlock ≠ some x) := fun x hx => HD.out.ownLt (vT1.lt x hx).2
              have zT : w.heap.size + 1 ≤ V2.heap.size := blk_lt HD.out.res
              replace kN := (hb.block _ (blk_lt kN)).trans kN
              replace HD : Hid (Drawn g cv w V3 bA (.slice q1 nn x1) (.slice q2 nn x2) fr nn F U L H (.slice qh H.length xh)) := HD.out.below hb
              clear cA
              have cA : ∀ o, V3.cell? ⟨bA, o, none⟩ = (#[.slice q1 nn x1, .slice q2 nn x2, .int .i64 fr] : Array Value)[o]? := blk_cell HD.out.bx
              replace vT1 := vT1.low zT
              replace vT2 := vT2.low zT
              obtain ⟨q3, x3, rfl⟩ := vrow_form vT1
              obtain ⟨q4, x4, rfl⟩ := vrow_form vT2
              clear hb
              go_wp2_with fail
              refine hK.out _ _ cA (fun hHeld => ?_)
              clear hK K
              try simp only [Act.put, List.setIfInBounds_toArray, List.set_cons_zero, List.set_cons_succ]
              refine wpAnyH_take (i := 5) (v := ?_) rfl (by kernel_rfl) (by kernel_rfl) (by kernel_rfl) (fun _ _ _ h => h) (Or.inl ⟨by rfl, ?_⟩) (by assumption) ?_
              rotate_left
              · intro wx hSw
                try dsimp only at hSw
                go_simp
                try (with_reducible rfl)
              try simp only [Act.put, List.setIfInBounds_toArray, List.set_cons_zero, List.set_cons_succ]
              refine wpAnyH_take (i := 6) (v := ?_) rfl (by kernel_rfl) (by kernel_rfl) (by kernel_rfl) (fun _ _ _ h => h) (Or.inl ⟨by rfl, ?_⟩) (by assumption) ?_
              rotate_left
              · intro wx hSw
                try dsimp only at hSw
                go_simp
                try (with_reducible rfl)
              try simp only [Act.put, List.setIfInBounds_toArray, List.set_cons_zero, List.set_cons_succ]
              refine wpAnyH_take (i := 7) (v := ?_) rfl (by kernel_rfl) (by kernel_rfl) (by kernel_rfl) (fun _ _ _ h => h) (Or.inl ⟨by rfl, ?_⟩) (by assumption) ?_
              rotate_left
              · intro wx hSw
                try dsimp only at hSw
                go_simp
                try (with_reducible rfl)
              try simp only [Act.put, List.setIfInBounds_toArray, List.set_cons_zero, List.set_cons_succ]
              refine wpAnyH_take (i := 8) (v := ?_) rfl (by kernel_rfl) (by kernel_rfl) (by kernel_rfl) (fun _ _ _ h => h) (Or.inl ⟨by rfl, ?_⟩) (by assumption) ?_
              rotate_left
              · intro wx hSw
                try dsimp only at hSw
                go_simp
                try (with_reducible rfl)
              try simp only [Act.put, List.setIfInBounds_toArray, List.set_cons_zero, List.set_cons_succ]
              clear hHeld
              have cN := blk_cell kN
              have fN := blk_free kN
              refine wpAnyH_ready (rs := [10]) (by kernel_rfl) (by simp) ?_
              refine AllReadyH.cons rfl (fun K hK => ?_) AllReadyH.nil
              go_simp
              have HST : Hid (TakenSt g cv w bA (.slice q1 nn x1) (.slice q2 nn x2) fr nn F U L H (.slice qh H.length xh) (.pointer (some ⟨bN, 0, none⟩)) (.int .i64 (tHd bb (walkL F nn fr))) (.bool bb) (((V3.setCell ⟨bN, 0, none⟩ (.slice q3 (gK bb nn) x3)).setCell ⟨bN, 1, none⟩ (.slice q4 (gK bb nn) x4)).setCell ⟨bN, 2, none⟩ (.int .i64 (tFr bb F (walkL F nn fr) (bt ++ (⟨#[33]⟩ : ByteArray)))))) := by
                have hk : ∀ b, b ≠ bN → (((V3.setCell ⟨bN, 0, none⟩ (.slice q3 (gK bb nn) x3)).setCell ⟨bN, 1, none⟩ (.slice q4 (gK bb nn) x4)).setCell ⟨bN, 2, none⟩ (.int .i64 (tFr bb F (walkL F nn fr) (bt ++ (⟨#[33]⟩ : ByteArray))))).heap[b]? = V3.heap[b]? := fun b hb => by
                  rw [blk_set_ne hb, blk_set_ne hb, blk_set_ne hb]
                have hx := vT1.neBox kN (by decide)
                have hy := vT2.neBox kN (by decide)
                refine ⟨bN, q3, q4, x3, x4, (bt ++ (⟨#[33]⟩ : ByteArray)), bb, rfl, rfl, rfl, by omega, HBB.out, HD.out.other hg hA hN1 hN2 kN _ _ _, hN2, ?_, vT1.keep (fun x hm => hk x (hx x hm)), vT2.keep (fun x hm => hk x (hy x hm)), HAP.out⟩
                have b1 := blk_set (i := 0) kN (.slice q3 (gK bb nn) x3)
                have b2 := blk_set (i := 1) b1 (.slice q4 (gK bb nn) x4)
                have b3 := blk_set (i := 2) b2 (.int .i64 (tFr bb F (walkL F nn fr) (bt ++ (⟨#[33]⟩ : ByteArray))))
                exact b3
              have cA2 : ∀ o, (((V3.setCell ⟨bN, 0, none⟩ (.slice q3 (gK bb nn) x3)).setCell ⟨bN, 1, none⟩ (.slice q4 (gK bb nn) x4)).setCell ⟨bN, 2, none⟩ (.int .i64 (tFr bb F (walkL F nn fr) (bt ++ (⟨#[33]⟩ : ByteArray))))).cell? ⟨bA, o, none⟩ = (#[.slice q1 nn x1, .slice q2 nn x2, .int .i64 fr] : Array Value)[o]? := by
                obtain ⟨_, _, _, _, _, _, _, _, _, _, _, _, d, _⟩ := HST.out
                exact blk_cell d.bx
              refine hK.out _ _ cA2 (fun hHeld => ?_)
              clear hK K
              try simp only [Act.put, List.setIfInBounds_toArray, List.set_cons_zero, List.set_cons_succ]
              refine wpAnyH_ready (rs := [11]) (by kernel_rfl) (by simp) ?_
              refine AllReadyH.cons rfl (fun K hK => ?_) AllReadyH.nil
              go_simp
              refine hK.out _ _ cA2 (fun hHeld => ?_)
              clear hK K
              try simp only [Act.put, List.setIfInBounds_toArray, List.set_cons_zero, List.set_cons_succ]
              refine wpAnyH_ready (rs := [12]) (by kernel_rfl) (by simp) ?_
              refine AllReadyH.cons rfl (fun K hK => ?_) AllReadyH.nil
              go_simp
              refine hK.out _ _ cA2 (fun hHeld => ?_)
              clear hK K
              try simp only [Act.put, List.setIfInBounds_toArray, List.set_cons_zero, List.set_cons_succ]
              refine wpAnyH_done (by kernel_rfl) ?_ _
              clear hHeld cA2
              go_wp2_with fail
              go_meet
              case rel => exact HST.out
          case rest =>
            obtain ⟨bN, a1, a2, c1, c2, sB, bb, rfl, rfl, rfl, hs1, hbb, D, hNA, kN, t1, t2, hap⟩ := hcut
            clear HD
            have HD : Hid (Drawn g cv w wc bA (.slice q1 nn x1) (.slice q2 nn x2) fr nn F U L H (.slice qh H.length xh)) := D
            have HBB : Hid (bb = true ↔ takeP nn nn F U fr sB) := hbb
            clear D hbb
            cases bb
            · clear kN t1 t2 hap
              go_wp2_with fail
              go_roundw
              case rel => exact ⟨k - 1, _, _, _, _, _, _, _, _, by omega, by go_num, rfl, HD.out⟩
              case measure => simp [intOf]; omega
            · obtain ⟨hto, _, htn⟩ := HBB.out.1 rfl
              rw [show gK true nn = nn from rfl] at kN t1 t2 hap
              have hwl : walkL F nn fr = L := HD.out.ok.walk HD.out.ok.inj.f1 HD.out.ok.free
              rw [hwl] at kN t1 t2 htn
              try rw [hwl]
              have hn1' : 1 ≤ needS sB := by unfold needS; omega
              have HT : Hid (Right nn (tNx F L sB) (tD L sB U (needS sB)) (F (tL L sB).toNat) (L.drop (needS sB))) := HD.out.ok.taken hn1' htn
              have HHD : Hid (headP nn (tNx F L sB) (tD L sB U (needS sB)) fr) := HD.out.ok.takenHead hn1' htn
              have HEL : Hid (∀ c ∈ H, headP nn (tNx F L sB) (tD L sB U (needS sB)) c) := fun c hc => (HD.out.ok.takenElse hn1' htn (HD.out.heads c hc) (HD.out.ok.chain (HD.out.heads c hc))).1
              have HNEW : Hid (fr ∉ H) := fun hm => by
                have h1 := (HD.out.heads fr hm).notFree HD.out.ok
                obtain ⟨xs, e⟩ := HD.out.ok.free.first (HD.out.heads fr hm).1
                exact h1 (by rw [e]; simp)
              have hhd : tHd true L = fr := by
                unfold tHd
                rw [if_pos rfl]
                have h0 := HHD.out.1
                obtain ⟨xs, e⟩ := HD.out.ok.free.first h0
                rw [e]; rfl
              rw [hhd]
              have HST : Hid (Drawn g cv w (((wc.setCell ⟨bA, 0, none⟩ (.slice a1 nn c1)).setCell ⟨bA, 1, none⟩ (.slice a2 nn c2)).setCell ⟨bA, 2, none⟩ (.int .i64 (tFr true F L sB))) bA (.slice a1 nn c1) (.slice a2 nn c2) (tFr true F L sB) nn (tNx F L sB) (tD L sB U (needS sB)) (L.drop (needS sB)) H (.slice qh H.length xh)) := HD.out.store hg hA t1 t2 HT.out HEL.out hap
              have cN := blk_cell kN
              have cA := blk_cell HD.out.bx
              have fA := blk_free HD.out.bx
              clear kN t1 t2 hap htn hto HBB
              obtain ⟨ii, hi, hz0, hz1, hz2⟩ := info_parts info2
              have hsw : (((wc.setCell ⟨bA, 0, none⟩ (.slice a1 nn c1)).setCell ⟨bA, 1, none⟩ (.slice a2 nn c2)).setCell ⟨bA, 2, none⟩ (.int .i64 (tFr true F L sB))).heap.size = wc.heap.size := by simp [World.setCell]
              have HNW : Hid (∀ (j : Nat) (u : Value), [Value.int .i64 fr][j]? = some u → ((((wc.setCell ⟨bA, 0, none⟩ (.slice a1 nn c1)).setCell ⟨bA, 1, none⟩ (.slice a2 nn c2)).setCell ⟨bA, 2, none⟩ (.int .i64 (tFr true F L sB))).alloc (.cells #[.int .i64 fr] 2)).cell? ((⟨wc.heap.size, 0, none⟩ : Addr).add j) = some u) := by
                rw [← hsw]
                exact cell_one_new _ _ _
              have hzz : w.heap.size + 1 ≤ wc.heap.size := blk_lt HD.out.res
              have HFIN : Hid (∀ v' w', World.ownsRow w' (w.heap.size + 1) 2 1 v' (H.length + 1) (H.map (.int .i64) ++ [.int .i64 fr]) → World.grownBy ((((wc.setCell ⟨bA, 0, none⟩ (.slice a1 nn c1)).setCell ⟨bA, 1, none⟩ (.slice a2 nn c2)).setCell ⟨bA, 2, none⟩ (.int .i64 (tFr true F L sB))).alloc (.cells #[.int .i64 fr] 2)) w' (Value.slice qh H.length xh).ownBlock → (v'.ownBlock = (Value.slice qh H.length xh).ownBlock ∨ v'.ownBlock = some ((((wc.setCell ⟨bA, 0, none⟩ (.slice a1 nn c1)).setCell ⟨bA, 1, none⟩ (.slice a2 nn c2)).setCell ⟨bA, 2, none⟩ (.int .i64 (tFr true F L sB))).alloc (.cells #[.int .i64 fr] 2)).heap.size) → Drawn g cv w w' bA (.slice a1 nn c1) (.slice a2 nn c2) (tFr true F L sB) nn (tNx F L sB) (tD L sB U (needS sB)) (L.drop (needS sB)) (H ++ [fr]) v') := by
                intro v' w' ho hgr hbk
                have hal := HST.out.below ((Below.refl _ _).alloc (Nat.le_refl _) (.cells #[.int .i64 fr] 2))
                refine hal.grown hg hgr (by rw [List.length_append, List.map_append]; exact ho) (fun c hc => ?_) ?_ (fun b hb => ?_)
                · rcases List.mem_append.1 hc with hc | hc
                  · exact HEL.out c hc
                  · rw [List.mem_singleton] at hc
                    rw [hc]
                    exact HHD.out
                · rw [List.nodup_append]
                  refine ⟨HD.out.nd, by simp, fun c hc d hd e => ?_⟩
                  rw [List.mem_singleton] at hd
                  exact HNEW.out (by rw [← hd, ← e]; exact hc)
                · rcases hbk with e | e
                  · rw [e]
                    exact hal.ap b hb
                  · rw [e]
                    have := (hal.row1.lt b hb).1
                    simp only [ne_eq, Option.some.injEq]
                    omega
              have HOW : Hid (World.ownsRow ((((wc.setCell ⟨bA, 0, none⟩ (.slice a1 nn c1)).setCell ⟨bA, 1, none⟩ (.slice a2 nn c2)).setCell ⟨bA, 2, none⟩ (.int .i64 (tFr true F L sB))).alloc (.cells #[.int .i64 fr] 2)) (w.heap.size + 1) 2 1 (.slice qh H.length xh) H.length (H.map (.int .i64))) := HST.out.own.alloc _
              have hbs : w.heap.size + 1 ≤ ((((wc.setCell ⟨bA, 0, none⟩ (.slice a1 nn c1)).setCell ⟨bA, 1, none⟩ (.slice a2 nn c2)).setCell ⟨bA, 2, none⟩ (.int .i64 (tFr true F L sB))).alloc (.cells #[.int .i64 fr] 2)).heap.size := by simp; omega
              clear HNEW hhd hwl
              go_wp2_with (at_builtin; refine wpList_append_own_at _ rfl (.tmp 67) (.tmp 69) 24 rfl (w.heap.size + 1) 2 ii (.int .i64 0) 1 8 Try.underlying24 hi hz0 hz1 hz2 rfl (by decide) _ H.length _ rfl HOW.out ⟨wc.heap.size, 0, none⟩ 1 1 [.int .i64 fr] rfl rfl HNW.out (one_int _) (by unfold maxLen; omega) (by omega) hbs ?_; intro v' w' hown' hgrow' hnil' hblk'; have HFF := HFIN.out v' w' hown' hgrow' hblk'; clear hown' hgrow' hnil' hblk')
              go_roundw
              case rel => exact ⟨k - 1, _, _, _, _, _, _, _, _, by omega, by go_num, rfl, HFF⟩
              case measure => simp [intOf]; omega
        · go_wp2_with fail
          refine (below_any _ _ _ _ HD.out.rd (by omega) (by omega)).mono ?_
          rintro e w6 ⟨at0, hat, rfl, hR, hK⟩
          replace HD : Hid (Drawn g cv w w6 bA _ _ fr nn F U L H _) := HD.out.keptBy hg hA hR hK
          clear hR hK
          have hat' : at0 < H.length := by omega
          obtain ⟨gh, rfl⟩ : ∃ gh, qh = some ⟨gh, 0, none⟩ := by
            rcases own_forms HD.out.own with ⟨e0, e1⟩ | ⟨gh, ch, e0⟩
            · omega
            · cases e0; exact ⟨gh, rfl⟩
          have cA := blk_cell HD.out.bx
          have fA := blk_free HD.out.bx
          have ph : w6.cell? ⟨gh, at0, none⟩ = some (.int .i64 H[at0]) := by
            rw [own_cell HD.out.own at0 (by simpa using hat'), List.getElem?_map, List.getElem?_eq_getElem hat']; rfl
          go_wp2_with fail
          have HV : Hid (Drawn g cv w w6.drew bA (.slice q1 nn x1) (.slice q2 nn x2) fr nn F U L H (.slice (some ⟨gh, 0, none⟩) H.length xh)) := HD.out.below ((Below.refl _ _).drew)
          have pv : w6.drew.cell? ⟨gh, at0, none⟩ = some (.int .i64 H[at0]) := ph
          clear HD ph cA fA
          have HCH : Hid (headP nn F U H[at0]) := HV.out.heads _ (List.getElem_mem hat')
          have HU : Hid (∀ i, i < nn → (U i).size ≤ maxLen) := fun i hi => Nat.le_trans (HV.out.ok.data i hi).2 (by unfold maxLen; omega)
          refine wp_region_held_drew (S := fun w' => w'.cell? ⟨gh, at0, none⟩ = some (.int .i64 H[at0])) (by kernel_rfl) pv (fun hHeld => ?_)
          clear pv
          generalize w6.drew = V at *
          have cA := blk_cell HV.out.bx
          have fA := blk_free HV.out.bx
          refine wpAnyH_take (i := 1) (v := ?_) rfl (by kernel_rfl) (by kernel_rfl) (by kernel_rfl) (fun _ _ _ h => h) (Or.inl ⟨by rfl, ?_⟩) (by assumption) ?_
          rotate_left
          · intro wx hSw
            try dsimp only at hSw
            go_simp
            try (with_reducible rfl)
          try simp only [Act.put, List.setIfInBounds_toArray, List.set_cons_zero, List.set_cons_succ]
          refine wpAnyH_take (i := 2) (v := ?_) rfl (by kernel_rfl) (by kernel_rfl) (by kernel_rfl) (fun _ _ _ h => h) (Or.inl ⟨by rfl, ?_⟩) (by assumption) ?_
          rotate_left
          · intro wx hSw
            try dsimp only at hSw
            go_simp
            try (with_reducible rfl)
          try simp only [Act.put, List.setIfInBounds_toArray, List.set_cons_zero, List.set_cons_succ]
          refine wpAnyH_take (i := 3) (v := ?_) rfl (by kernel_rfl) (by kernel_rfl) (by kernel_rfl) (fun _ _ _ h => h) (Or.inl ⟨by rfl, ?_⟩) (by assumption) ?_
          rotate_left
          · intro wx hSw
            try dsimp only at hSw
            go_simp
            try (with_reducible rfl)
          try simp only [Act.put, List.setIfInBounds_toArray, List.set_cons_zero, List.set_cons_succ]
          refine wpAnyH_take (i := 4) (v := ?_) rfl (by kernel_rfl) (by kernel_rfl) (by kernel_rfl) (fun _ _ _ h => h) (Or.inl ⟨by rfl, ?_⟩) (by assumption) ?_
          rotate_left
          · intro wx hSw
            try dsimp only at hSw
            go_simp
            try (with_reducible rfl)
          try simp only [Act.put, List.setIfInBounds_toArray, List.set_cons_zero, List.set_cons_succ]
          refine wpAnyH_ready (rs := [0]) (by kernel_rfl) (by simp) ?_
          refine AllReadyH.cons rfl (fun K hK => ?_) AllReadyH.nil
          go_simp
          refine hK.out _ _ hHeld (fun hHeld => ?_)
          clear hK K
          try simp only [Act.put, List.setIfInBounds_toArray, List.set_cons_zero, List.set_cons_succ]
          refine wpAnyH_ready (rs := [5]) (by kernel_rfl) (by simp) ?_
          refine AllReadyH.cons rfl (fun K hK => ?_) AllReadyH.nil
          go_simp
          obtain ⟨qa, qb, eq1, rd1⟩ := HV.out.row1.read
          obtain ⟨qc, qd, eq2, rd2⟩ := HV.out.row2.read
          cases eq1
          cases eq2
          have HPC : Hid (Path F H[at0] (walkL F nn H[at0])) := HV.out.ok.chain HCH.out
          have hcall := sGiven_any _ _ nn nn x1 x2 fr _ F U _ (by omega) (by omega) HU.out rd1 rd2 true ⟨fun _ => ⟨HV.out.ok.ok, HCH.out⟩, fun _ => rfl⟩
          rw [show gK true nn = nn from rfl, show gFr true H[at0] = H[at0] from rfl] at hcall
          refine hcall.mono ?_
          clear rd1 rd2 hcall
          rintro e w7 ⟨⟨u1, u2, rfl, vG1, vG2⟩, hb⟩
          have h7 : w7.cell? ⟨gh, at0, none⟩ = some (.int .i64 H[at0]) := (hb.cell (p := ⟨gh, at0, none⟩) (cellLt hHeld)).trans hHeld
          have zV : w.heap.size + 1 ≤ V.heap.size := by have := blk_lt HV.out.res; omega
          have HW : Hid (Drawn g cv w w7 bA (.slice q1 nn x1) (.slice q2 nn x2) fr nn F U L H (.slice (some ⟨gh, 0, none⟩) H.length xh)) := HV.out.below hb
          obtain ⟨q3, x3, rfl⟩ := vrow_form vG1
          obtain ⟨q4, x4, rfl⟩ := vrow_form vG2
          have HG1 : Hid (VRow 2 w7 (w.heap.size + 1) (.slice q3 nn x3) nn (fun i => .int .i64 (gNx F (walkL F nn H[at0]) fr i))) := vG1.low zV
          have HG2 : Hid (VRow 9 w7 (w.heap.size + 1) (.slice q4 nn x4) nn (fun i => .string (gDt U (walkL F nn H[at0]) i))) := vG2.low zV
          clear vG1 vG2 hb HV cA fA hHeld HU
          have cA := blk_cell HW.out.bx
          have fA := blk_free HW.out.bx
          go_wp2_with fail
          refine hK.out _ _ h7 (fun hHeld => ?_)
          clear hK K
          try simp only [Act.put, List.setIfInBounds_toArray, List.set_cons_zero, List.set_cons_succ]
          refine wpAnyH_take (i := 6) (v := ?_) rfl (by kernel_rfl) (by kernel_rfl) (by kernel_rfl) (fun _ _ _ h => h) (Or.inl ⟨by rfl, ?_⟩) (by assumption) ?_
          rotate_left
          · intro wx hSw
            try dsimp only at hSw
            go_simp
            try (with_reducible rfl)
          try simp only [Act.put, List.setIfInBounds_toArray, List.set_cons_zero, List.set_cons_succ]
          refine wpAnyH_take (i := 7) (v := ?_) rfl (by kernel_rfl) (by kernel_rfl) (by kernel_rfl) (fun _ _ _ h => h) (Or.inl ⟨by rfl, ?_⟩) (by assumption) ?_
          rotate_left
          · intro wx hSw
            try dsimp only at hSw
            go_simp
            try (with_reducible rfl)
          try simp only [Act.put, List.setIfInBounds_toArray, List.set_cons_zero, List.set_cons_succ]
          refine wpAnyH_take (i := 8) (v := ?_) rfl (by kernel_rfl) (by kernel_rfl) (by kernel_rfl) (fun _ _ _ h => h) (Or.inl ⟨by rfl, ?_⟩) (by assumption) ?_
          rotate_left
          · intro wx hSw
            try dsimp only at hSw
            go_simp
            try (with_reducible rfl)
          try simp only [Act.put, List.setIfInBounds_toArray, List.set_cons_zero, List.set_cons_succ]
          refine wpAnyH_ready (rs := [9]) (by kernel_rfl) (by simp) ?_
          refine AllReadyH.cons rfl (fun K hK => ?_) AllReadyH.nil
          go_simp
          have nhA : bA ≠ gh := fun e => own_ne HW.out.own HW.out.bx (by decide) (by rw [e]; rfl)
          have h8 : (((w7.setCell ⟨bA, 0, none⟩ (.slice q3 nn x3)).setCell ⟨bA, 1, none⟩ (.slice q4 nn x4)).setCell ⟨bA, 2, none⟩ (.int .i64 H[at0])).cell? ⟨gh, at0, none⟩ = some (.int .i64 H[at0]) := by
            rw [World.cell?_setCell_far _ _ _ _ nhA, World.cell?_setCell_far _ _ _ _ nhA, World.cell?_setCell_far _ _ _ _ nhA]
            exact h7
          have HN : Hid (Drawn g cv w (((w7.setCell ⟨bA, 0, none⟩ (.slice q3 nn x3)).setCell ⟨bA, 1, none⟩ (.slice q4 nn x4)).setCell ⟨bA, 2, none⟩ (.int .i64 H[at0])) bA (.slice q3 nn x3) (.slice q4 nn x4) H[at0] nn (gNx F (walkL F nn H[at0]) fr) (gDt U (walkL F nn H[at0])) (walkL F nn H[at0] ++ L) [] (.slice none 0 0)) := HW.out.noHeads.store hg hA HG1.out HG2.out (HW.out.ok.given HCH.out HPC.out) (by simp) (fun b _ => by simp [Value.ownBlock])
          have HOWN : Hid ((((w7.setCell ⟨bA, 0, none⟩ (.slice q3 nn x3)).setCell ⟨bA, 1, none⟩ (.slice q4 nn x4)).setCell ⟨bA, 2, none⟩ (.int .i64 H[at0])).ownsRow (w.heap.size + 1) 2 1 (.slice (some ⟨gh, 0, none⟩) H.length xh) H.length (H.map (.int .i64))) := HW.out.ownStore _ _ _
          have HREST : Hid ((∀ c ∈ H.take at0 ++ H.drop (at0 + 1), headP nn (gNx F (walkL F nn H[at0]) fr) (gDt U (walkL F nn H[at0])) c) ∧ (H.take at0 ++ H.drop (at0 + 1)).Nodup) := by
            obtain ⟨r1, r2⟩ := rest_heads HW.out.nd hat'
            exact ⟨fun c hc => (HW.out.ok.givenElse HCH.out HPC.out (HW.out.heads c (r1 c hc).1) (r1 c hc).2 (HW.out.ok.chain (HW.out.heads c (r1 c hc).1))).1, r2⟩
          have hxh : H.length ≤ xh := own_cap HW.out.own
          have hgh : w.heap.size + 1 ≤ gh := own_ge HW.out.own
          clear HW HG1 HG2 h7 cA fA
          refine hK.out _ _ h8 (fun hHeld => ?_)
          clear hK K
          try simp only [Act.put, List.setIfInBounds_toArray, List.set_cons_zero, List.set_cons_succ]
          refine wpAnyH_done (by kernel_rfl) ?_ _
          clear hHeld
          generalize ((w7.setCell ⟨bA, 0, none⟩ (.slice q3 nn x3)).setCell ⟨bA, 1, none⟩ (.slice q4 nn x4)).setCell ⟨bA, 2, none⟩ (.int .i64 H[at0]) = W at *
          have hx0 : at0 ≤ xh := by omega
          have hx0' : (at0 : Int) ≤ xh := by omega
          have hx1 : (at0 : Int) + 1 ≤ H.length := by omega
          have hx2 : at0 + 1 ≤ H.length := by omega
          have hx3 : (0 : Int) ≤ (at0 : Int) + 1 := by omega
          have hwr : IntKind.i64.wrap ((at0 : Int) + 1) = (at0 : Int) + 1 := wrap_small _ (by omega) (by omega)
          go_wp2_with fail
          have HN2 : Hid (Drawn g cv w W.drew bA (.slice q3 nn x3) (.slice q4 nn x4) H[at0] nn (gNx F (walkL F nn H[at0]) fr) (gDt U (walkL F nn H[at0])) (walkL F nn H[at0] ++ L) [] (.slice none 0 0)) := HN.out.below ((Below.refl _ _).drew)
          have HOWN2 : Hid (W.drew.ownsRow (w.heap.size + 1) 2 1 (.slice (some ⟨gh, 0, none⟩) H.length xh) H.length (H.map (.int .i64))) := own_keep HOWN.out (fun _ _ _ => rfl)
          obtain ⟨o2, ho2⟩ : ∃ o2 : Nat, o2 = if xh = at0 + 1 then 0 else at0 + 1 := ⟨_, rfl⟩
          refine wp_region_held_drew (S := fun _ => True) (by kernel_rfl) True.intro (fun hHeld => ?_)
          clear HN HOWN
          generalize W.drew = V at *
          refine wpAnyH_take (i := 1) (v := ?_) rfl (by kernel_rfl) (by kernel_rfl) (by kernel_rfl) (fun _ _ _ h => h) (Or.inl ⟨by rfl, ?_⟩) (by assumption) ?_
          rotate_left
          · intro wx hSw
            try dsimp only at hSw
            go_simp
            try (with_reducible rfl)
          try simp only [Act.put, List.setIfInBounds_toArray, List.set_cons_zero, List.set_cons_succ]
          refine wpAnyH_take (i := 2) (v := ?_) rfl (by kernel_rfl) (by kernel_rfl) (by kernel_rfl) (fun _ _ _ h => h) (Or.inl ⟨by rfl, ?_⟩) (by assumption) ?_
          rotate_left
          · intro wx hSw
            try dsimp only at hSw
            go_simp
            try (with_reducible rfl)
          try simp only [Act.put, List.setIfInBounds_toArray, List.set_cons_zero, List.set_cons_succ]
          refine wpAnyH_take (i := 3) (v := ?_) rfl (by kernel_rfl) (by kernel_rfl) (by kernel_rfl) (fun _ _ _ h => h) (Or.inl ⟨by rfl, ?_⟩) (by assumption) ?_
          rotate_left
          · intro wx hSw
            try dsimp only at hSw
            go_simp
            try (with_reducible rfl)
          try simp only [Act.put, List.setIfInBounds_toArray, List.set_cons_zero, List.set_cons_succ]
          refine wpAnyH_take (i := 5) (v := ?_) rfl (by kernel_rfl) (by kernel_rfl) (by kernel_rfl) (fun _ _ _ h => h) (Or.inl ⟨by rfl, ?_⟩) (by assumption) ?_
          rotate_left
          · intro wx hSw
            try dsimp only at hSw
            go_simp
            try (with_reducible rfl)
          try simp only [Act.put, List.setIfInBounds_toArray, List.set_cons_zero, List.set_cons_succ]
          refine wpAnyH_take (i := 6) (v := ?_) rfl (by kernel_rfl) (by kernel_rfl) (by kernel_rfl) (fun _ _ _ h => h) (Or.inl ⟨by rfl, ?_⟩) (by assumption) ?_
          rotate_left
          · intro wx hSw
            try dsimp only at hSw
            go_simp
            try (with_reducible rfl)
          try simp only [Act.put, List.setIfInBounds_toArray, List.set_cons_zero, List.set_cons_succ]
          refine wpAnyH_take (i := 7) (v := ?_) rfl (by kernel_rfl) (by kernel_rfl) (by kernel_rfl) (fun _ _ _ h => h) (Or.inl ⟨by rfl, ?_⟩) (by assumption) ?_
          rotate_left
          · intro wx hSw
            try dsimp only at hSw
            go_simp
            try (with_reducible rfl)
          try simp only [Act.put, List.setIfInBounds_toArray, List.set_cons_zero, List.set_cons_succ]
          refine wpAnyH_take (i := 8) (v := .slice (some ⟨gh, o2, none⟩) (H.length - (at0 + 1)) (xh - (at0 + 1))) rfl (by kernel_rfl) (by kernel_rfl) (by kernel_rfl) (fun _ _ _ h => h) (Or.inl ⟨by rfl, ?_⟩) (by assumption) ?_
          · intro wx hSw
            subst ho2
            have htn : ((at0 : Int) + 1).toNat = at0 + 1 := by omega
            by_cases hxe : xh = at0 + 1
            · go_simp
            · go_simp
          try simp only [Act.put, List.setIfInBounds_toArray, List.set_cons_zero, List.set_cons_succ]
          refine wpAnyH_ready (rs := [0]) (by kernel_rfl) (by simp) ?_
          refine AllReadyH.cons rfl (fun K hK => ?_) AllReadyH.nil
          go_simp
          have hbX : Below V.heap.size V (V.alloc (.cells #[] 2)) := (Below.refl _ _).alloc (Nat.le_refl _) _
          have kX := blk_new V (.cells #[] 2)
          have eV : (V.alloc (.cells #[] 2)).heap.size = V.heap.size + 1 := by simp
          have zV2 : w.heap.size + 1 ≤ V.heap.size := blk_lt HN2.out.res
          have HCE : Hid (∀ j (hj : j < H.length), V.cell? ⟨gh, j, none⟩ = some (.int .i64 H[j])) := fun j hj => by
            rw [own_cell HOWN2.out j (by simpa using hj), List.getElem?_map, List.getElem?_eq_getElem hj]; rfl
          have hghV : gh < V.heap.size := cellLt (HCE.out at0 hat')
          have ho0 : (V.alloc (.cells #[] 2)).ownsRow V.heap.size 2 1 (.slice (some ⟨V.heap.size, 0, none⟩) 0 0) 0 [] := ⟨by simp, .inr ⟨_, _, #[], rfl, Nat.le_refl _, kX, by simp, by unfold maxLen; omega, by simp, by simp⟩⟩
          refine hK.out _ _ True.intro (fun hHeld => ?_)
          clear hK K
          try simp only [Act.put, List.setIfInBounds_toArray, List.set_cons_zero, List.set_cons_succ]
          generalize V.alloc (.cells #[] 2) = V1 at *
          clear kX hHeld
          obtain ⟨ii, hi, hz0, hz1, hz2⟩ := info_parts info2
          have hadd : ∀ (o j : Nat), (⟨gh, o, none⟩ : Addr).add j = ⟨gh, o + j, none⟩ := fun o j => by unfold Addr.add; split <;> simp_all
          obtain ⟨va, V2, hrun, hown, hgrow, _, _⟩ := run_append_own_at (P := Try.prog) (w := V1) V.heap.size 24 24 2 ii (.int .i64 0) 1 8 Try.underlying24 hi hz0 hz1 hz2 rfl (by decide) (.slice (some ⟨V.heap.size, 0, none⟩) 0 0) 0 [] ho0 ⟨gh, 0, none⟩ at0 xh ((H.take at0).map (.int .i64)) (by simp; omega) (fun j u hu => by
              rw [List.getElem?_map] at hu
              by_cases hj : j < at0
              · rw [List.getElem?_take_of_lt hj, List.getElem?_eq_getElem (by omega)] at hu
                rw [hadd, Nat.zero_add, hbX.cell (p := ⟨gh, j, none⟩) hghV, HCE.out j (by omega)]
                exact hu
              · rw [List.getElem?_eq_none (by rw [List.length_take]; omega)] at hu
                cases hu) (by intro u hu; rw [List.mem_map] at hu; obtain ⟨y, _, rfl⟩ := hu; rfl) (by unfold maxLen; omega) (by omega) (by omega)
          have hb2 : Below V.heap.size V V2 := hbX.grown hgrow (by omega) (fun k hk => by simp only [Value.ownBlock, Option.some.injEq] at hk; omega)
          have zz2 := hb2.size
          have hV12 : Below V1.heap.size V1 V1 := Below.refl _ _
          refine wpAnyH_ready (rs := [4]) (by kernel_rfl) (by simp) ?_
          refine AllReadyH.cons rfl (fun K hK => ?_) AllReadyH.nil
          refine wp_app (by kernel_rfl) (.tmp 46) (.tmp 49) 24 _ _ _ rfl rfl rfl rfl hrun ?_
          clear hrun ho0
          refine hK.out _ _ True.intro (fun hHeld => ?_)
          clear hK K
          try simp only [Act.put, List.setIfInBounds_toArray, List.set_cons_zero, List.set_cons_succ]
          clear hHeld
          have hadd2 := hadd
          obtain ⟨vb, V3, hrun, hown3, hgrow3, _, _⟩ := run_append_own_at (P := Try.prog) (w := V2) V.heap.size 24 24 2 ii (.int .i64 0) 1 8 Try.underlying24 hi hz0 hz1 hz2 rfl (by decide) va (0 + at0) ([] ++ (H.take at0).map (.int .i64)) hown ⟨gh, o2, none⟩ (H.length - (at0 + 1)) (xh - (at0 + 1)) ((H.drop (at0 + 1)).map (.int .i64)) (by simp) (fun j u hu => by
              rw [List.getElem?_map] at hu
              by_cases hj : j < H.length - (at0 + 1)
              · have ho2' : o2 = at0 + 1 := by rw [ho2, if_neg (by omega)]
                rw [List.getElem?_drop, List.getElem?_eq_getElem (by omega)] at hu
                rw [hadd, ho2', hb2.cell (p := ⟨gh, at0 + 1 + j, none⟩) hghV, HCE.out (at0 + 1 + j) (by omega)]
                exact hu
              · rw [List.getElem?_eq_none (by rw [List.length_drop]; omega)] at hu
                cases hu) (by intro u hu; rw [List.mem_map] at hu; obtain ⟨y, _, rfl⟩ := hu; rfl) (by unfold maxLen; omega) (by omega) (by omega)
          have hb3 : Below V.heap.size V V3 := hb2.grown hgrow3 (by omega) (fun k hk => by
            rcases hown.2 with ⟨rfl, _⟩ | ⟨g', cap', cur, rfl, hge, _⟩
            · cases hk
            · simp only [Value.ownBlock, Option.some.injEq] at hk
              omega)
          refine wpAnyH_ready (rs := [9]) (by kernel_rfl) (by simp) ?_
          refine AllReadyH.cons rfl (fun K hK => ?_) AllReadyH.nil
          refine wp_app (by kernel_rfl) (.tmp 50) (.tmp 54) 24 va (.slice (some ⟨gh, o2, none⟩) (H.length - (at0 + 1)) (xh - (at0 + 1))) vb rfl rfl rfl (by simp [Act.eval]) hrun ?_
          have hlen : 0 + at0 + (H.length - (at0 + 1)) = (H.take at0 ++ H.drop (at0 + 1)).length := by simp; omega
          have hown4 : V3.ownsRow (w.heap.size + 1) 2 1 vb (H.take at0 ++ H.drop (at0 + 1)).length ((H.take at0 ++ H.drop (at0 + 1)).map (.int .i64)) := by
            rw [← hlen, List.map_append]
            exact own_base (by simpa using hown3) zV2
          have HFIN : Hid (Drawn g cv w V3 bA (.slice q3 nn x3) (.slice q4 nn x4) H[at0] nn (gNx F (walkL F nn H[at0]) fr) (gDt U (walkL F nn H[at0])) (walkL F nn H[at0] ++ L) (H.take at0 ++ H.drop (at0 + 1)) vb) := (HN2.out.below hb3).heads' hown4 HREST.out.1 HREST.out.2 (fun b hb hk => by
            have hlt := (HN2.out.row1.lt b hb).1
            rcases hown3.2 with ⟨rfl, _⟩ | ⟨g', cap', cur, rfl, hge, _⟩
            · cases hk
            · simp only [Value.ownBlock, Option.some.injEq] at hk
              omega)
          clear hrun hown hown3 hown4 hb2 hb3 hgrow hgrow3 HN2 HOWN2 HCE hbX
          refine hK.out _ _ True.intro (fun hHeld => ?_)
          clear hK K
          try simp only [Act.put, List.setIfInBounds_toArray, List.set_cons_zero, List.set_cons_succ]
          refine wpAnyH_ready (rs := [10]) (by kernel_rfl) (by simp) ?_
          refine AllReadyH.cons rfl (fun K hK => ?_) AllReadyH.nil
          go_simp
          refine hK.out _ _ True.intro (fun hHeld => ?_)
          clear hK K
          try simp only [Act.put, List.setIfInBounds_toArray, List.set_cons_zero, List.set_cons_succ]
          refine wpAnyH_done (by kernel_rfl) ?_ _
          clear hHeld
          go_wp2_with fail
          go_roundw
          case rel => exact ⟨k - 1, _, _, _, _, _, _, _, _, by omega, by go_num, rfl, HFIN.out⟩
          case measure => simp [intOf]; omega
      · have hH0 : ¬ ((0 : Int) < (H.length : Int)) := by omega
        have HHH : Hid (¬ 0 < H.length) := hH
        clear hH
        go_wp2_with fail
        clear hH0
        go_cut [9, 10, 11] (fun s9 s10 s11 wc => TakenSt g cv w bA (.slice q1 nn x1) (.slice q2 nn x2) fr nn F U L H (.slice qh H.length xh) s9 s10 s11 wc)
        case first =>
          replace HD : Hid (Drawn g cv w wr.drew bA (.slice q1 nn x1) (.slice q2 nn x2) fr nn F U L H (.slice qh H.length xh)) := HD.out.below ((Below.refl _ _).drew)
          have cA : ∀ o, wr.drew.cell? ⟨bA, o, none⟩ = (#[.slice q1 nn x1, .slice q2 nn x2, .int .i64 fr] : Array Value)[o]? := blk_cell HD.out.bx
          refine wp_region_held_drew (S := fun w' => ∀ o, w'.cell? ⟨bA, o, none⟩ = (#[.slice q1 nn x1, .slice q2 nn x2, .int .i64 fr] : Array Value)[o]?) (by kernel_rfl) cA (fun hHeld => ?_)
          generalize wr.drew = V at *
          refine wpAnyH_take (i := 0) (v := ?_) rfl (by kernel_rfl) (by kernel_rfl) (by kernel_rfl) (fun _ _ _ h => h) (Or.inl ⟨by rfl, ?_⟩) (by assumption) ?_
          rotate_left
          · intro wx hSw
            try dsimp only at hSw
            go_simp
            try (with_reducible rfl)
          try simp only [Act.put, List.setIfInBounds_toArray, List.set_cons_zero, List.set_cons_succ]
          refine wpAnyH_take (i := 1) (v := ?_) rfl (by kernel_rfl) (by kernel_rfl) (by kernel_rfl) (fun _ _ _ h => h) (Or.inl ⟨by rfl, ?_⟩) (by assumption) ?_
          rotate_left
          · intro wx hSw
            try dsimp only at hSw
            go_simp
            try (with_reducible rfl)
          try simp only [Act.put, List.setIfInBounds_toArray, List.set_cons_zero, List.set_cons_succ]
          clear hHeld
          refine wpAnyH_ready (rs := [2, 9]) (by kernel_rfl) (by simp) ?_
          refine AllReadyH.cons rfl (fun K hK => ?_) (AllReadyH.cons rfl (fun K hK => ?_) AllReadyH.nil)
          · go_simp
            refine (body_any _ _ _ HD.out.rd).mono ?_
            rintro e V1 ⟨bt, hbt, rfl, hR, hK2⟩
            replace HD : Hid (Drawn g cv w V1 bA (.slice q1 nn x1) (.slice q2 nn x2) fr nn F U L H (.slice qh H.length xh)) := HD.out.keptBy hg hA hR hK2
            clear hR hK2 cA
            have cA : ∀ o, V1.cell? ⟨bA, o, none⟩ = (#[.slice q1 nn x1, .slice q2 nn x2, .int .i64 fr] : Array Value)[o]? := blk_cell HD.out.bx
            have hcat : ¬ (9223372036854775807 < bt.size + 1) := by omega
            go_wp2_with fail
            refine hK.out _ _ cA (fun hHeld => ?_)
            clear hK K
            try simp only [Act.put, List.setIfInBounds_toArray, List.set_cons_zero, List.set_cons_succ]
            refine wpAnyH_take (i := 3) (v := ?_) rfl (by kernel_rfl) (by kernel_rfl) (by kernel_rfl) (fun _ _ _ h => h) (Or.inl ⟨by rfl, ?_⟩) (by assumption) ?_
            rotate_left
            · intro wx hSw
              try dsimp only at hSw
              go_simp
              try (with_reducible rfl)
            try simp only [Act.put, List.setIfInBounds_toArray, List.set_cons_zero, List.set_cons_succ]
            have hsz : (bt ++ (⟨#[33]⟩ : ByteArray)).size = bt.size + 1 := by rw [ByteArray.size_append]; rfl
            clear hcat hHeld
            refine wpAnyH_ready (rs := [4, 9]) (by kernel_rfl) (by simp) ?_
            refine AllReadyH.cons rfl (fun K hK => ?_) (AllReadyH.cons rfl (fun K hK => ?_) AllReadyH.nil)
            · go_simp
              obtain ⟨qa, qb, eq1, rd1⟩ := HD.out.row1.read
              obtain ⟨qc, qd, eq2, rd2⟩ := HD.out.row2.read
              cases eq1
              cases eq2
              have HU : Hid (∀ i, i < nn → (U i).size ≤ maxLen) := fun i hi => Nat.le_trans (HD.out.ok.data i hi).2 (by unfold maxLen; omega)
              obtain ⟨bb, hbb⟩ : ∃ b : Bool, b = true ↔ takeP nn nn F U fr (bt ++ (⟨#[33]⟩ : ByteArray)) := by
                by_cases h : takeP nn nn F U fr (bt ++ (⟨#[33]⟩ : ByteArray))
                · exact ⟨true, by simp [h]⟩
                · exact ⟨false, by simp [h]⟩
              have HBB : Hid (bb = true ↔ takeP nn nn F U fr (bt ++ (⟨#[33]⟩ : ByteArray))) := hbb
              refine (sTaken_any _ _ nn nn _ _ fr (bt ++ (⟨#[33]⟩ : ByteArray)) F U _ (by omega) (by omega) (by omega) HU.out rd1 rd2 bb hbb).mono ?_
              clear rd1 rd2 hbb
              rintro e V2 ⟨⟨u1, u2, rfl, vT1, vT2⟩, hb⟩
              have HAP : Hid (∀ x ∈ bl u1, (Value.slice qh H.length xh).ownBlock ≠ some x) := fun x hx => HD.out.ownLt (vT1.lt x hx).2
              have zT : w.heap.size + 1 ≤ V1.heap.size := blk_lt HD.out.res
              replace HD : Hid (Drawn g cv w V2 bA (.slice q1 nn x1) (.slice q2 nn x2) fr nn F U L H (.slice qh H.length xh)) := HD.out.below hb
              clear cA
              have cA : ∀ o, V2.cell? ⟨bA, o, none⟩ = (#[.slice q1 nn x1, .slice q2 nn x2, .int .i64 fr] : Array Value)[o]? := blk_cell HD.out.bx
              replace vT1 := vT1.low zT
              replace vT2 := vT2.low zT
              obtain ⟨q3, x3, rfl⟩ := vrow_form vT1
              obtain ⟨q4, x4, rfl⟩ := vrow_form vT2
              clear hb
              go_wp2_with fail
              refine hK.out _ _ cA (fun hHeld => ?_)
              clear hK K
              try simp only [Act.put, List.setIfInBounds_toArray, List.set_cons_zero, List.set_cons_succ]
              refine wpAnyH_take (i := 5) (v := ?_) rfl (by kernel_rfl) (by kernel_rfl) (by kernel_rfl) (fun _ _ _ h => h) (Or.inl ⟨by rfl, ?_⟩) (by assumption) ?_
              rotate_left
              · intro wx hSw
                try dsimp only at hSw
                go_simp
                try (with_reducible rfl)
              try simp only [Act.put, List.setIfInBounds_toArray, List.set_cons_zero, List.set_cons_succ]
              refine wpAnyH_take (i := 6) (v := ?_) rfl (by kernel_rfl) (by kernel_rfl) (by kernel_rfl) (fun _ _ _ h => h) (Or.inl ⟨by rfl, ?_⟩) (by assumption) ?_
              rotate_left
              · intro wx hSw
                try dsimp only at hSw
                go_simp
                try (with_reducible rfl)
              try simp only [Act.put, List.setIfInBounds_toArray, List.set_cons_zero, List.set_cons_succ]
              refine wpAnyH_take (i := 7) (v := ?_) rfl (by kernel_rfl) (by kernel_rfl) (by kernel_rfl) (fun _ _ _ h => h) (Or.inl ⟨by rfl, ?_⟩) (by assumption) ?_
              rotate_left
              · intro wx hSw
                try dsimp only at hSw
                go_simp
                try (with_reducible rfl)
              try simp only [Act.put, List.setIfInBounds_toArray, List.set_cons_zero, List.set_cons_succ]
              refine wpAnyH_take (i := 8) (v := ?_) rfl (by kernel_rfl) (by kernel_rfl) (by kernel_rfl) (fun _ _ _ h => h) (Or.inl ⟨by rfl, ?_⟩) (by assumption) ?_
              rotate_left
              · intro wx hSw
                try dsimp only at hSw
                go_simp
                try (with_reducible rfl)
              try simp only [Act.put, List.setIfInBounds_toArray, List.set_cons_zero, List.set_cons_succ]
              clear hHeld
              refine wpAnyH_ready (rs := [9]) (by kernel_rfl) (by simp) ?_
              refine AllReadyH.cons rfl (fun K hK => ?_) AllReadyH.nil
              go_simp
              have hbX : Below V2.heap.size V2 (V2.alloc (.cells #[.slice none 0 0, .slice none 0 0, .int .i64 0] 27)) := (Below.refl _ _).alloc (Nat.le_refl _) _
              have kN := blk_new V2 (.cells #[.slice none 0 0, .slice none 0 0, .int .i64 0] 27)
              have hN1 : w.heap.size < V2.heap.size := by have := blk_lt HD.out.res; omega
              have hN2 : V2.heap.size ≠ bA := by have := blk_lt HD.out.bx; omega
              replace HD : Hid (Drawn g cv w (V2.alloc (.cells #[.slice none 0 0, .slice none 0 0, .int .i64 0] 27)) bA (.slice q1 nn x1) (.slice q2 nn x2) fr nn F U L H (.slice qh H.length xh)) := HD.out.below hbX
              clear cA
              replace vT1 := vT1.up hbX
              replace vT2 := vT2.up hbX
              generalize hbN : V2.heap.size = bN at *
              generalize V2.alloc (.cells #[.slice none 0 0, .slice none 0 0, .int .i64 0] 27) = V3 at *
              clear hbX
              have cA : ∀ o, V3.cell? ⟨bA, o, none⟩ = (#[.slice q1 nn x1, .slice q2 nn x2, .int .i64 fr] : Array Value)[o]? := blk_cell HD.out.bx
              refine hK.out _ _ cA (fun hHeld => ?_)
              clear hK K
              try simp only [Act.put, List.setIfInBounds_toArray, List.set_cons_zero, List.set_cons_succ]
              clear hHeld
              have cN := blk_cell kN
              have fN := blk_free kN
              refine wpAnyH_ready (rs := [10]) (by kernel_rfl) (by simp) ?_
              refine AllReadyH.cons rfl (fun K hK => ?_) AllReadyH.nil
              go_simp
              have HST : Hid (TakenSt g cv w bA (.slice q1 nn x1) (.slice q2 nn x2) fr nn F U L H (.slice qh H.length xh) (.pointer (some ⟨bN, 0, none⟩)) (.int .i64 (tHd bb (walkL F nn fr))) (.bool bb) (((V3.setCell ⟨bN, 0, none⟩ (.slice q3 (gK bb nn) x3)).setCell ⟨bN, 1, none⟩ (.slice q4 (gK bb nn) x4)).setCell ⟨bN, 2, none⟩ (.int .i64 (tFr bb F (walkL F nn fr) (bt ++ (⟨#[33]⟩ : ByteArray)))))) := by
                have hk : ∀ b, b ≠ bN → (((V3.setCell ⟨bN, 0, none⟩ (.slice q3 (gK bb nn) x3)).setCell ⟨bN, 1, none⟩ (.slice q4 (gK bb nn) x4)).setCell ⟨bN, 2, none⟩ (.int .i64 (tFr bb F (walkL F nn fr) (bt ++ (⟨#[33]⟩ : ByteArray))))).heap[b]? = V3.heap[b]? := fun b hb => by
                  rw [blk_set_ne hb, blk_set_ne hb, blk_set_ne hb]
                have hx := vT1.neBox kN (by decide)
                have hy := vT2.neBox kN (by decide)
                refine ⟨bN, q3, q4, x3, x4, (bt ++ (⟨#[33]⟩ : ByteArray)), bb, rfl, rfl, rfl, by omega, HBB.out, HD.out.other hg hA hN1 hN2 kN _ _ _, hN2, ?_, vT1.keep (fun x hm => hk x (hx x hm)), vT2.keep (fun x hm => hk x (hy x hm)), HAP.out⟩
                have b1 := blk_set (i := 0) kN (.slice q3 (gK bb nn) x3)
                have b2 := blk_set (i := 1) b1 (.slice q4 (gK bb nn) x4)
                have b3 := blk_set (i := 2) b2 (.int .i64 (tFr bb F (walkL F nn fr) (bt ++ (⟨#[33]⟩ : ByteArray))))
                exact b3
              have cA2 : ∀ o, (((V3.setCell ⟨bN, 0, none⟩ (.slice q3 (gK bb nn) x3)).setCell ⟨bN, 1, none⟩ (.slice q4 (gK bb nn) x4)).setCell ⟨bN, 2, none⟩ (.int .i64 (tFr bb F (walkL F nn fr) (bt ++ (⟨#[33]⟩ : ByteArray))))).cell? ⟨bA, o, none⟩ = (#[.slice q1 nn x1, .slice q2 nn x2, .int .i64 fr] : Array Value)[o]? := by
                obtain ⟨_, _, _, _, _, _, _, _, _, _, _, _, d, _⟩ := HST.out
                exact blk_cell d.bx
              refine hK.out _ _ cA2 (fun hHeld => ?_)
              clear hK K
              try simp only [Act.put, List.setIfInBounds_toArray, List.set_cons_zero, List.set_cons_succ]
              refine wpAnyH_ready (rs := [11]) (by kernel_rfl) (by simp) ?_
              refine AllReadyH.cons rfl (fun K hK => ?_) AllReadyH.nil
              go_simp
              refine hK.out _ _ cA2 (fun hHeld => ?_)
              clear hK K
              try simp only [Act.put, List.setIfInBounds_toArray, List.set_cons_zero, List.set_cons_succ]
              refine wpAnyH_ready (rs := [12]) (by kernel_rfl) (by simp) ?_
              refine AllReadyH.cons rfl (fun K hK => ?_) AllReadyH.nil
              go_simp
              refine hK.out _ _ cA2 (fun hHeld => ?_)
              clear hK K
              try simp only [Act.put, List.setIfInBounds_toArray, List.set_cons_zero, List.set_cons_succ]
              refine wpAnyH_done (by kernel_rfl) ?_ _
              clear hHeld cA2
              go_wp2_with fail
              go_meet
              case rel => exact HST.out
            · go_simp
              have hbX : Below V1.heap.size V1 (V1.alloc (.cells #[.slice none 0 0, .slice none 0 0, .int .i64 0] 27)) := (Below.refl _ _).alloc (Nat.le_refl _) _
              have kN := blk_new V1 (.cells #[.slice none 0 0, .slice none 0 0, .int .i64 0] 27)
              have hN1 : w.heap.size < V1.heap.size := by have := blk_lt HD.out.res; omega
              have hN2 : V1.heap.size ≠ bA := by have := blk_lt HD.out.bx; omega
              replace HD : Hid (Drawn g cv w (V1.alloc (.cells #[.slice none 0 0, .slice none 0 0, .int .i64 0] 27)) bA (.slice q1 nn x1) (.slice q2 nn x2) fr nn F U L H (.slice qh H.length xh)) := HD.out.below hbX
              clear cA
              generalize hbN : V1.heap.size = bN at *
              generalize V1.alloc (.cells #[.slice none 0 0, .slice none 0 0, .int .i64 0] 27) = V2 at *
              clear hbX
              have cA : ∀ o, V2.cell? ⟨bA, o, none⟩ = (#[.slice q1 nn x1, .slice q2 nn x2, .int .i64 fr] : Array Value)[o]? := blk_cell HD.out.bx
              refine hK.out _ _ cA (fun hHeld => ?_)
              clear hK K
              try simp only [Act.put, List.setIfInBounds_toArray, List.set_cons_zero, List.set_cons_succ]
              clear hHeld
              refine wpAnyH_ready (rs := [4]) (by kernel_rfl) (by simp) ?_
              refine AllReadyH.cons rfl (fun K hK => ?_) AllReadyH.nil
              go_simp
              obtain ⟨qa, qb, eq1, rd1⟩ := HD.out.row1.read
              obtain ⟨qc, qd, eq2, rd2⟩ := HD.out.row2.read
              cases eq1
              cases eq2
              have HU : Hid (∀ i, i < nn → (U i).size ≤ maxLen) := fun i hi => Nat.le_trans (HD.out.ok.data i hi).2 (by unfold maxLen; omega)
              obtain ⟨bb, hbb⟩ : ∃ b : Bool, b = true ↔ takeP nn nn F U fr (bt ++ (⟨#[33]⟩ : ByteArray)) := by
                by_cases h : takeP nn nn F U fr (bt ++ (⟨#[33]⟩ : ByteArray))
                · exact ⟨true, by simp [h]⟩
                · exact ⟨false, by simp [h]⟩
              have HBB : Hid (bb = true ↔ takeP nn nn F U fr (bt ++ (⟨#[33]⟩ : ByteArray))) := hbb
              refine (sTaken_any _ _ nn nn _ _ fr (bt ++ (⟨#[33]⟩ : ByteArray)) F U _ (by omega) (by omega) (by omega) HU.out rd1 rd2 bb hbb).mono ?_
              clear rd1 rd2 hbb
              rintro e V3 ⟨⟨u1, u2, rfl, vT1, vT2⟩, hb⟩
              have HAP : Hid (∀ x ∈ bl u1, (Value.slice qh H.length xh).ownBlock ≠ some x) := fun x hx => HD.out.ownLt (vT1.lt x hx).2
              have zT : w.heap.size + 1 ≤ V2.heap.size := blk_lt HD.out.res
              replace kN := (hb.block _ (blk_lt kN)).trans kN
              replace HD : Hid (Drawn g cv w V3 bA (.slice q1 nn x1) (.slice q2 nn x2) fr nn F U L H (.slice qh H.length xh)) := HD.out.below hb
              clear cA
              have cA : ∀ o, V3.cell? ⟨bA, o, none⟩ = (#[.slice q1 nn x1, .slice q2 nn x2, .int .i64 fr] : Array Value)[o]? := blk_cell HD.out.bx
              replace vT1 := vT1.low zT
              replace vT2 := vT2.low zT
              obtain ⟨q3, x3, rfl⟩ := vrow_form vT1
              obtain ⟨q4, x4, rfl⟩ := vrow_form vT2
              clear hb
              go_wp2_with fail
              refine hK.out _ _ cA (fun hHeld => ?_)
              clear hK K
              try simp only [Act.put, List.setIfInBounds_toArray, List.set_cons_zero, List.set_cons_succ]
              refine wpAnyH_take (i := 5) (v := ?_) rfl (by kernel_rfl) (by kernel_rfl) (by kernel_rfl) (fun _ _ _ h => h) (Or.inl ⟨by rfl, ?_⟩) (by assumption) ?_
              rotate_left
              · intro wx hSw
                try dsimp only at hSw
                go_simp
                try (with_reducible rfl)
              try simp only [Act.put, List.setIfInBounds_toArray, List.set_cons_zero, List.set_cons_succ]
              refine wpAnyH_take (i := 6) (v := ?_) rfl (by kernel_rfl) (by kernel_rfl) (by kernel_rfl) (fun _ _ _ h => h) (Or.inl ⟨by rfl, ?_⟩) (by assumption) ?_
              rotate_left
              · intro wx hSw
                try dsimp only at hSw
                go_simp
                try (with_reducible rfl)
              try simp only [Act.put, List.setIfInBounds_toArray, List.set_cons_zero, List.set_cons_succ]
              refine wpAnyH_take (i := 7) (v := ?_) rfl (by kernel_rfl) (by kernel_rfl) (by kernel_rfl) (fun _ _ _ h => h) (Or.inl ⟨by rfl, ?_⟩) (by assumption) ?_
              rotate_left
              · intro wx hSw
                try dsimp only at hSw
                go_simp
                try (with_reducible rfl)
              try simp only [Act.put, List.setIfInBounds_toArray, List.set_cons_zero, List.set_cons_succ]
              refine wpAnyH_take (i := 8) (v := ?_) rfl (by kernel_rfl) (by kernel_rfl) (by kernel_rfl) (fun _ _ _ h => h) (Or.inl ⟨by rfl, ?_⟩) (by assumption) ?_
              rotate_left
              · intro wx hSw
                try dsimp only at hSw
                go_simp
                try (with_reducible rfl)
              try simp only [Act.put, List.setIfInBounds_toArray, List.set_cons_zero, List.set_cons_succ]
              clear hHeld
              have cN := blk_cell kN
              have fN := blk_free kN
              refine wpAnyH_ready (rs := [10]) (by kernel_rfl) (by simp) ?_
              refine AllReadyH.cons rfl (fun K hK => ?_) AllReadyH.nil
              go_simp
              have HST : Hid (TakenSt g cv w bA (.slice q1 nn x1) (.slice q2 nn x2) fr nn F U L H (.slice qh H.length xh) (.pointer (some ⟨bN, 0, none⟩)) (.int .i64 (tHd bb (walkL F nn fr))) (.bool bb) (((V3.setCell ⟨bN, 0, none⟩ (.slice q3 (gK bb nn) x3)).setCell ⟨bN, 1, none⟩ (.slice q4 (gK bb nn) x4)).setCell ⟨bN, 2, none⟩ (.int .i64 (tFr bb F (walkL F nn fr) (bt ++ (⟨#[33]⟩ : ByteArray)))))) := by
                have hk : ∀ b, b ≠ bN → (((V3.setCell ⟨bN, 0, none⟩ (.slice q3 (gK bb nn) x3)).setCell ⟨bN, 1, none⟩ (.slice q4 (gK bb nn) x4)).setCell ⟨bN, 2, none⟩ (.int .i64 (tFr bb F (walkL F nn fr) (bt ++ (⟨#[33]⟩ : ByteArray))))).heap[b]? = V3.heap[b]? := fun b hb => by
                  rw [blk_set_ne hb, blk_set_ne hb, blk_set_ne hb]
                have hx := vT1.neBox kN (by decide)
                have hy := vT2.neBox kN (by decide)
                refine ⟨bN, q3, q4, x3, x4, (bt ++ (⟨#[33]⟩ : ByteArray)), bb, rfl, rfl, rfl, by omega, HBB.out, HD.out.other hg hA hN1 hN2 kN _ _ _, hN2, ?_, vT1.keep (fun x hm => hk x (hx x hm)), vT2.keep (fun x hm => hk x (hy x hm)), HAP.out⟩
                have b1 := blk_set (i := 0) kN (.slice q3 (gK bb nn) x3)
                have b2 := blk_set (i := 1) b1 (.slice q4 (gK bb nn) x4)
                have b3 := blk_set (i := 2) b2 (.int .i64 (tFr bb F (walkL F nn fr) (bt ++ (⟨#[33]⟩ : ByteArray))))
                exact b3
              have cA2 : ∀ o, (((V3.setCell ⟨bN, 0, none⟩ (.slice q3 (gK bb nn) x3)).setCell ⟨bN, 1, none⟩ (.slice q4 (gK bb nn) x4)).setCell ⟨bN, 2, none⟩ (.int .i64 (tFr bb F (walkL F nn fr) (bt ++ (⟨#[33]⟩ : ByteArray))))).cell? ⟨bA, o, none⟩ = (#[.slice q1 nn x1, .slice q2 nn x2, .int .i64 fr] : Array Value)[o]? := by
                obtain ⟨_, _, _, _, _, _, _, _, _, _, _, _, d, _⟩ := HST.out
                exact blk_cell d.bx
              refine hK.out _ _ cA2 (fun hHeld => ?_)
              clear hK K
              try simp only [Act.put, List.setIfInBounds_toArray, List.set_cons_zero, List.set_cons_succ]
              refine wpAnyH_ready (rs := [11]) (by kernel_rfl) (by simp) ?_
              refine AllReadyH.cons rfl (fun K hK => ?_) AllReadyH.nil
              go_simp
              refine hK.out _ _ cA2 (fun hHeld => ?_)
              clear hK K
              try simp only [Act.put, List.setIfInBounds_toArray, List.set_cons_zero, List.set_cons_succ]
              refine wpAnyH_ready (rs := [12]) (by kernel_rfl) (by simp) ?_
              refine AllReadyH.cons rfl (fun K hK => ?_) AllReadyH.nil
              go_simp
              refine hK.out _ _ cA2 (fun hHeld => ?_)
              clear hK K
              try simp only [Act.put, List.setIfInBounds_toArray, List.set_cons_zero, List.set_cons_succ]
              refine wpAnyH_done (by kernel_rfl) ?_ _
              clear hHeld cA2
              go_wp2_with fail
              go_meet
              case rel => exact HST.out
          · go_simp
            have hbX : Below V.heap.size V (V.alloc (.cells #[.slice none 0 0, .slice none 0 0, .int .i64 0] 27)) := (Below.refl _ _).alloc (Nat.le_refl _) _
            have kN := blk_new V (.cells #[.slice none 0 0, .slice none 0 0, .int .i64 0] 27)
            have hN1 : w.heap.size < V.heap.size := by have := blk_lt HD.out.res; omega
            have hN2 : V.heap.size ≠ bA := by have := blk_lt HD.out.bx; omega
            replace HD : Hid (Drawn g cv w (V.alloc (.cells #[.slice none 0 0, .slice none 0 0, .int .i64 0] 27)) bA (.slice q1 nn x1) (.slice q2 nn x2) fr nn F U L H (.slice qh H.length xh)) := HD.out.below hbX
            clear cA
            generalize hbN : V.heap.size = bN at *
            generalize V.alloc (.cells #[.slice none 0 0, .slice none 0 0, .int .i64 0] 27) = V1 at *
            clear hbX
            have cA : ∀ o, V1.cell? ⟨bA, o, none⟩ = (#[.slice q1 nn x1, .slice q2 nn x2, .int .i64 fr] : Array Value)[o]? := blk_cell HD.out.bx
            refine hK.out _ _ cA (fun hHeld => ?_)
            clear hK K
            try simp only [Act.put, List.setIfInBounds_toArray, List.set_cons_zero, List.set_cons_succ]
            clear hHeld
            refine wpAnyH_ready (rs := [2]) (by kernel_rfl) (by simp) ?_
            refine AllReadyH.cons rfl (fun K hK => ?_) AllReadyH.nil
            go_simp
            refine (body_any _ _ _ HD.out.rd).mono ?_
            rintro e V2 ⟨bt, hbt, rfl, hR, hK2⟩
            replace kN := (hK2.block _ (blk_lt kN) (by omega)).trans kN
            replace HD : Hid (Drawn g cv w V2 bA (.slice q1 nn x1) (.slice q2 nn x2) fr nn F U L H (.slice qh H.length xh)) := HD.out.keptBy hg hA hR hK2
            clear hR hK2 cA
            have cA : ∀ o, V2.cell? ⟨bA, o, none⟩ = (#[.slice q1 nn x1, .slice q2 nn x2, .int .i64 fr] : Array Value)[o]? := blk_cell HD.out.bx
            have hcat : ¬ (9223372036854775807 < bt.size + 1) := by omega
            go_wp2_with fail
            refine hK.out _ _ cA (fun hHeld => ?_)
            clear hK K
            try simp only [Act.put, List.setIfInBounds_toArray, List.set_cons_zero, List.set_cons_succ]
            refine wpAnyH_take (i := 3) (v := ?_) rfl (by kernel_rfl) (by kernel_rfl) (by kernel_rfl) (fun _ _ _ h => h) (Or.inl ⟨by rfl, ?_⟩) (by assumption) ?_
            rotate_left
            · intro wx hSw
              try dsimp only at hSw
              go_simp
              try (with_reducible rfl)
            try simp only [Act.put, List.setIfInBounds_toArray, List.set_cons_zero, List.set_cons_succ]
            have hsz : (bt ++ (⟨#[33]⟩ : ByteArray)).size = bt.size + 1 := by rw [ByteArray.size_append]; rfl
            clear hcat hHeld
            refine wpAnyH_ready (rs := [4]) (by kernel_rfl) (by simp) ?_
            refine AllReadyH.cons rfl (fun K hK => ?_) AllReadyH.nil
            go_simp
            obtain ⟨qa, qb, eq1, rd1⟩ := HD.out.row1.read
            obtain ⟨qc, qd, eq2, rd2⟩ := HD.out.row2.read
            cases eq1
            cases eq2
            have HU : Hid (∀ i, i < nn → (U i).size ≤ maxLen) := fun i hi => Nat.le_trans (HD.out.ok.data i hi).2 (by unfold maxLen; omega)
            obtain ⟨bb, hbb⟩ : ∃ b : Bool, b = true ↔ takeP nn nn F U fr (bt ++ (⟨#[33]⟩ : ByteArray)) := by
              by_cases h : takeP nn nn F U fr (bt ++ (⟨#[33]⟩ : ByteArray))
              · exact ⟨true, by simp [h]⟩
              · exact ⟨false, by simp [h]⟩
            have HBB : Hid (bb = true ↔ takeP nn nn F U fr (bt ++ (⟨#[33]⟩ : ByteArray))) := hbb
            refine (sTaken_any _ _ nn nn _ _ fr (bt ++ (⟨#[33]⟩ : ByteArray)) F U _ (by omega) (by omega) (by omega) HU.out rd1 rd2 bb hbb).mono ?_
            clear rd1 rd2 hbb
            rintro e V3 ⟨⟨u1, u2, rfl, vT1, vT2⟩, hb⟩
            have HAP : Hid (∀ x ∈ bl u1, (Value.slice qh H.length xh).ownBlock ≠ some x) := fun x hx => HD.out.ownLt (vT1.lt x hx).2
            have zT : w.heap.size + 1 ≤ V2.heap.size := blk_lt HD.out.res
            replace kN := (hb.block _ (blk_lt kN)).trans kN
            replace HD : Hid (Drawn g cv w V3 bA (.slice q1 nn x1) (.slice q2 nn x2) fr nn F U L H (.slice qh H.length xh)) := HD.out.below hb
            clear cA
            have cA : ∀ o, V3.cell? ⟨bA, o, none⟩ = (#[.slice q1 nn x1, .slice q2 nn x2, .int .i64 fr] : Array Value)[o]? := blk_cell HD.out.bx
            replace vT1 := vT1.low zT
            replace vT2 := vT2.low zT
            obtain ⟨q3, x3, rfl⟩ := vrow_form vT1
            obtain ⟨q4, x4, rfl⟩ := vrow_form vT2
            clear hb
            go_wp2_with fail
            refine hK.out _ _ cA (fun hHeld => ?_)
            clear hK K
            try simp only [Act.put, List.setIfInBounds_toArray, List.set_cons_zero, List.set_cons_succ]
            refine wpAnyH_take (i := 5) (v := ?_) rfl (by kernel_rfl) (by kernel_rfl) (by kernel_rfl) (fun _ _ _ h => h) (Or.inl ⟨by rfl, ?_⟩) (by assumption) ?_
            rotate_left
            · intro wx hSw
              try dsimp only at hSw
              go_simp
              try (with_reducible rfl)
            try simp only [Act.put, List.setIfInBounds_toArray, List.set_cons_zero, List.set_cons_succ]
            refine wpAnyH_take (i := 6) (v := ?_) rfl (by kernel_rfl) (by kernel_rfl) (by kernel_rfl) (fun _ _ _ h => h) (Or.inl ⟨by rfl, ?_⟩) (by assumption) ?_
            rotate_left
            · intro wx hSw
              try dsimp only at hSw
              go_simp
              try (with_reducible rfl)
            try simp only [Act.put, List.setIfInBounds_toArray, List.set_cons_zero, List.set_cons_succ]
            refine wpAnyH_take (i := 7) (v := ?_) rfl (by kernel_rfl) (by kernel_rfl) (by kernel_rfl) (fun _ _ _ h => h) (Or.inl ⟨by rfl, ?_⟩) (by assumption) ?_
            rotate_left
            · intro wx hSw
              try dsimp only at hSw
              go_simp
              try (with_reducible rfl)
            try simp only [Act.put, List.setIfInBounds_toArray, List.set_cons_zero, List.set_cons_succ]
            refine wpAnyH_take (i := 8) (v := ?_) rfl (by kernel_rfl) (by kernel_rfl) (by kernel_rfl) (fun _ _ _ h => h) (Or.inl ⟨by rfl, ?_⟩) (by assumption) ?_
            rotate_left
            · intro wx hSw
              try dsimp only at hSw
              go_simp
              try (with_reducible rfl)
            try simp only [Act.put, List.setIfInBounds_toArray, List.set_cons_zero, List.set_cons_succ]
            clear hHeld
            have cN := blk_cell kN
            have fN := blk_free kN
            refine wpAnyH_ready (rs := [10]) (by kernel_rfl) (by simp) ?_
            refine AllReadyH.cons rfl (fun K hK => ?_) AllReadyH.nil
            go_simp
            have HST : Hid (TakenSt g cv w bA (.slice q1 nn x1) (.slice q2 nn x2) fr nn F U L H (.slice qh H.length xh) (.pointer (some ⟨bN, 0, none⟩)) (.int .i64 (tHd bb (walkL F nn fr))) (.bool bb) (((V3.setCell ⟨bN, 0, none⟩ (.slice q3 (gK bb nn) x3)).setCell ⟨bN, 1, none⟩ (.slice q4 (gK bb nn) x4)).setCell ⟨bN, 2, none⟩ (.int .i64 (tFr bb F (walkL F nn fr) (bt ++ (⟨#[33]⟩ : ByteArray)))))) := by
              have hk : ∀ b, b ≠ bN → (((V3.setCell ⟨bN, 0, none⟩ (.slice q3 (gK bb nn) x3)).setCell ⟨bN, 1, none⟩ (.slice q4 (gK bb nn) x4)).setCell ⟨bN, 2, none⟩ (.int .i64 (tFr bb F (walkL F nn fr) (bt ++ (⟨#[33]⟩ : ByteArray))))).heap[b]? = V3.heap[b]? := fun b hb => by
                rw [blk_set_ne hb, blk_set_ne hb, blk_set_ne hb]
              have hx := vT1.neBox kN (by decide)
              have hy := vT2.neBox kN (by decide)
              refine ⟨bN, q3, q4, x3, x4, (bt ++ (⟨#[33]⟩ : ByteArray)), bb, rfl, rfl, rfl, by omega, HBB.out, HD.out.other hg hA hN1 hN2 kN _ _ _, hN2, ?_, vT1.keep (fun x hm => hk x (hx x hm)), vT2.keep (fun x hm => hk x (hy x hm)), HAP.out⟩
              have b1 := blk_set (i := 0) kN (.slice q3 (gK bb nn) x3)
              have b2 := blk_set (i := 1) b1 (.slice q4 (gK bb nn) x4)
              have b3 := blk_set (i := 2) b2 (.int .i64 (tFr bb F (walkL F nn fr) (bt ++ (⟨#[33]⟩ : ByteArray))))
              exact b3
            have cA2 : ∀ o, (((V3.setCell ⟨bN, 0, none⟩ (.slice q3 (gK bb nn) x3)).setCell ⟨bN, 1, none⟩ (.slice q4 (gK bb nn) x4)).setCell ⟨bN, 2, none⟩ (.int .i64 (tFr bb F (walkL F nn fr) (bt ++ (⟨#[33]⟩ : ByteArray))))).cell? ⟨bA, o, none⟩ = (#[.slice q1 nn x1, .slice q2 nn x2, .int .i64 fr] : Array Value)[o]? := by
              obtain ⟨_, _, _, _, _, _, _, _, _, _, _, _, d, _⟩ := HST.out
              exact blk_cell d.bx
            refine hK.out _ _ cA2 (fun hHeld => ?_)
            clear hK K
            try simp only [Act.put, List.setIfInBounds_toArray, List.set_cons_zero, List.set_cons_succ]
            refine wpAnyH_ready (rs := [11]) (by kernel_rfl) (by simp) ?_
            refine AllReadyH.cons rfl (fun K hK => ?_) AllReadyH.nil
            go_simp
            refine hK.out _ _ cA2 (fun hHeld => ?_)
            clear hK K
            try simp only [Act.put, List.setIfInBounds_toArray, List.set_cons_zero, List.set_cons_succ]
            refine wpAnyH_ready (rs := [12]) (by kernel_rfl) (by simp) ?_
            refine AllReadyH.cons rfl (fun K hK => ?_) AllReadyH.nil
            go_simp
            refine hK.out _ _ cA2 (fun hHeld => ?_)
            clear hK K
            try simp only [Act.put, List.setIfInBounds_toArray, List.set_cons_zero, List.set_cons_succ]
            refine wpAnyH_done (by kernel_rfl) ?_ _
            clear hHeld cA2
            go_wp2_with fail
            go_meet
            case rel => exact HST.out
        case rest =>
          obtain ⟨bN, a1, a2, c1, c2, sB, bb, rfl, rfl, rfl, hs1, hbb, D, hNA, kN, t1, t2, hap⟩ := hcut
          clear HD
          have HD : Hid (Drawn g cv w wc bA (.slice q1 nn x1) (.slice q2 nn x2) fr nn F U L H (.slice qh H.length xh)) := D
          have HBB : Hid (bb = true ↔ takeP nn nn F U fr sB) := hbb
          clear D hbb
          cases bb
          · clear kN t1 t2 hap
            go_wp2_with fail
            go_roundw
            case rel => exact ⟨k - 1, _, _, _, _, _, _, _, _, by omega, by go_num, rfl, HD.out⟩
            case measure => simp [intOf]; omega
          · obtain ⟨hto, _, htn⟩ := HBB.out.1 rfl
            rw [show gK true nn = nn from rfl] at kN t1 t2 hap
            have hwl : walkL F nn fr = L := HD.out.ok.walk HD.out.ok.inj.f1 HD.out.ok.free
            rw [hwl] at kN t1 t2 htn
            try rw [hwl]
            have hn1' : 1 ≤ needS sB := by unfold needS; omega
            have HT : Hid (Right nn (tNx F L sB) (tD L sB U (needS sB)) (F (tL L sB).toNat) (L.drop (needS sB))) := HD.out.ok.taken hn1' htn
            have HHD : Hid (headP nn (tNx F L sB) (tD L sB U (needS sB)) fr) := HD.out.ok.takenHead hn1' htn
            have HEL : Hid (∀ c ∈ H, headP nn (tNx F L sB) (tD L sB U (needS sB)) c) := fun c hc => (HD.out.ok.takenElse hn1' htn (HD.out.heads c hc) (HD.out.ok.chain (HD.out.heads c hc))).1
            have HNEW : Hid (fr ∉ H) := fun hm => by
              have h1 := (HD.out.heads fr hm).notFree HD.out.ok
              obtain ⟨xs, e⟩ := HD.out.ok.free.first (HD.out.heads fr hm).1
              exact h1 (by rw [e]; simp)
            have hhd : tHd true L = fr := by
              unfold tHd
              rw [if_pos rfl]
              have h0 := HHD.out.1
              obtain ⟨xs, e⟩ := HD.out.ok.free.first h0
              rw [e]; rfl
            rw [hhd]
            have HST : Hid (Drawn g cv w (((wc.setCell ⟨bA, 0, none⟩ (.slice a1 nn c1)).setCell ⟨bA, 1, none⟩ (.slice a2 nn c2)).setCell ⟨bA, 2, none⟩ (.int .i64 (tFr true F L sB))) bA (.slice a1 nn c1) (.slice a2 nn c2) (tFr true F L sB) nn (tNx F L sB) (tD L sB U (needS sB)) (L.drop (needS sB)) H (.slice qh H.length xh)) := HD.out.store hg hA t1 t2 HT.out HEL.out hap
            have cN := blk_cell kN
            have cA := blk_cell HD.out.bx
            have fA := blk_free HD.out.bx
            clear kN t1 t2 hap htn hto HBB
            obtain ⟨ii, hi, hz0, hz1, hz2⟩ := info_parts info2
            have hsw : (((wc.setCell ⟨bA, 0, none⟩ (.slice a1 nn c1)).setCell ⟨bA, 1, none⟩ (.slice a2 nn c2)).setCell ⟨bA, 2, none⟩ (.int .i64 (tFr true F L sB))).heap.size = wc.heap.size := by simp [World.setCell]
            have HNW : Hid (∀ (j : Nat) (u : Value), [Value.int .i64 fr][j]? = some u → ((((wc.setCell ⟨bA, 0, none⟩ (.slice a1 nn c1)).setCell ⟨bA, 1, none⟩ (.slice a2 nn c2)).setCell ⟨bA, 2, none⟩ (.int .i64 (tFr true F L sB))).alloc (.cells #[.int .i64 fr] 2)).cell? ((⟨wc.heap.size, 0, none⟩ : Addr).add j) = some u) := by
              rw [← hsw]
              exact cell_one_new _ _ _
            have hzz : w.heap.size + 1 ≤ wc.heap.size := blk_lt HD.out.res
            have HFIN : Hid (∀ v' w', World.ownsRow w' (w.heap.size + 1) 2 1 v' (H.length + 1) (H.map (.int .i64) ++ [.int .i64 fr]) → World.grownBy ((((wc.setCell ⟨bA, 0, none⟩ (.slice a1 nn c1)).setCell ⟨bA, 1, none⟩ (.slice a2 nn c2)).setCell ⟨bA, 2, none⟩ (.int .i64 (tFr true F L sB))).alloc (.cells #[.int .i64 fr] 2)) w' (Value.slice qh H.length xh).ownBlock → (v'.ownBlock = (Value.slice qh H.length xh).ownBlock ∨ v'.ownBlock = some ((((wc.setCell ⟨bA, 0, none⟩ (.slice a1 nn c1)).setCell ⟨bA, 1, none⟩ (.slice a2 nn c2)).setCell ⟨bA, 2, none⟩ (.int .i64 (tFr true F L sB))).alloc (.cells #[.int .i64 fr] 2)).heap.size) → Drawn g cv w w' bA (.slice a1 nn c1) (.slice a2 nn c2) (tFr true F L sB) nn (tNx F L sB) (tD L sB U (needS sB)) (L.drop (needS sB)) (H ++ [fr]) v') := by
              intro v' w' ho hgr hbk
              have hal := HST.out.below ((Below.refl _ _).alloc (Nat.le_refl _) (.cells #[.int .i64 fr] 2))
              refine hal.grown hg hgr (by rw [List.length_append, List.map_append]; exact ho) (fun c hc => ?_) ?_ (fun b hb => ?_)
              · rcases List.mem_append.1 hc with hc | hc
                · exact HEL.out c hc
                · rw [List.mem_singleton] at hc
                  rw [hc]
                  exact HHD.out
              · rw [List.nodup_append]
                refine ⟨HD.out.nd, by simp, fun c hc d hd e => ?_⟩
                rw [List.mem_singleton] at hd
                exact HNEW.out (by rw [← hd, ← e]; exact hc)
              · rcases hbk with e | e
                · rw [e]
                  exact hal.ap b hb
                · rw [e]
                  have := (hal.row1.lt b hb).1
                  simp only [ne_eq, Option.some.injEq]
                  omega
            have HOW : Hid (World.ownsRow ((((wc.setCell ⟨bA, 0, none⟩ (.slice a1 nn c1)).setCell ⟨bA, 1, none⟩ (.slice a2 nn c2)).setCell ⟨bA, 2, none⟩ (.int .i64 (tFr true F L sB))).alloc (.cells #[.int .i64 fr] 2)) (w.heap.size + 1) 2 1 (.slice qh H.length xh) H.length (H.map (.int .i64))) := HST.out.own.alloc _
            have hbs : w.heap.size + 1 ≤ ((((wc.setCell ⟨bA, 0, none⟩ (.slice a1 nn c1)).setCell ⟨bA, 1, none⟩ (.slice a2 nn c2)).setCell ⟨bA, 2, none⟩ (.int .i64 (tFr true F L sB))).alloc (.cells #[.int .i64 fr] 2)).heap.size := by simp; omega
            clear HNEW hhd hwl
            go_wp2_with (at_builtin; refine wpList_append_own_at _ rfl (.tmp 67) (.tmp 69) 24 rfl (w.heap.size + 1) 2 ii (.int .i64 0) 1 8 Try.underlying24 hi hz0 hz1 hz2 rfl (by decide) _ H.length _ rfl HOW.out ⟨wc.heap.size, 0, none⟩ 1 1 [.int .i64 fr] rfl rfl HNW.out (one_int _) (by unfold maxLen; omega) (by omega) hbs ?_; intro v' w' hown' hgrow' hnil' hblk'; have HFF := HFIN.out v' w' hown' hgrow' hblk'; clear hown' hgrow' hnil' hblk')
            go_roundw
            case rel => exact ⟨k - 1, _, _, _, _, _, _, _, _, by omega, by go_num, rfl, HFF⟩
            case measure => simp [intOf]; omega
    · obtain rfl : k = 0 := by omega
      go_wp2_with fail
      refine (below_any _ _ _ _ HD.out.rd (by omega) (by omega)).mono ?_
      rintro e w5 ⟨y, hy, rfl, hR, hK⟩
      replace HD : Hid (Drawn g cv w w5 bA (.slice q1 nn x1) (.slice q2 nn x2) fr nn F U L H (.slice qh H.length xh)) := HD.out.keptBy hg hA hR hK
      clear hR hK
      by_cases h28 : y = 28
      · have e28 : ((y : Int) == 28) = true := by simp; omega
        go_wp2_with fail
        refine (off_any _ _ _ _ _ HD.out.rd (by omega) (by omega) (by omega)).mono ?_
        rintro e w6 ⟨z, rfl, hR, hK⟩
        replace HD : Hid (Drawn g cv w w6 bA (.slice q1 nn x1) (.slice q2 nn x2) fr nn F U L H (.slice qh H.length xh)) := HD.out.keptBy hg hA hR hK
        clear hR hK
        have cA := blk_cell HD.out.bx
        have fA := blk_free HD.out.bx
        have cR := blk_cell HD.out.res
        have fR := blk_free HD.out.res
        have nAR : bA ≠ w.heap.size := by omega
        have nRA : w.heap.size ≠ bA := by omega
        go_wp2_with fail
        obtain ⟨s1, s2, s3, s4, s5⟩ := HD.out.cellSet hg hA (HD.out.row2.neBox HD.out.bx (by decide)) (own_ne HD.out.own HD.out.bx (by decide)) 2 (.int .i64 z)
        have s6 : VRow 2 (w6.setCell ⟨bA, 2, none⟩ (.int .i64 z)) (w.heap.size + 1) (.slice q1 nn x1) nn (fun i => .int .i64 (F i)) := HD.out.row1.keep (fun x hx => blk_set_ne (HD.out.row1.neBox HD.out.bx (by decide) x hx) _)
        have cR2 := blk_cell s5
        obtain ⟨f1, f2, f3, f4, f5⟩ := drawn_close hg s1 s2 s6 s3 s4 (.slice q1 nn x1) (.slice q2 nn x2) (.int .i64 z)
        exact bodyPost_ret (v := .tuple #[.agg #[.slice q1 nn x1, .slice q2 nn x2, .int .i64 z], .slice qh H.length xh]) (by simp [results, Try.results24, go_sem, cR2]) rfl ⟨⟨_, _, _, _, nn, F, U, H, rfl, f1, f2, f3, hn1, hn2, by omega, fun i hi => (HD.out.ok.data i hi).2⟩, f4, f5⟩
      · have e28 : ((y : Int) == 28) = false := by simp; omega
        by_cases h29 : y = 29
        · have e29 : ((y : Int) == 29) = true := by simp; omega
          obtain ⟨gn, rfl⟩ : ∃ gn, q1 = some ⟨gn, 0, none⟩ := by
            obtain ⟨a, c, e0, ⟨e1, e2⟩ | ⟨g1, e1, _⟩⟩ := HD.out.row1
            · omega
            · cases e0; exact ⟨g1, e1⟩
          go_wp2_with fail
          replace HD : Hid (Drawn g cv w w5.drew bA (.slice (some ⟨gn, 0, none⟩) nn x1) (.slice q2 nn x2) fr nn F U L H (.slice qh H.length xh)) := HD.out.below ((Below.refl _ _).drew)
          have cA : ∀ o, w5.drew.cell? ⟨bA, o, none⟩ = (#[.slice (some ⟨gn, 0, none⟩) nn x1, .slice q2 nn x2, .int .i64 fr] : Array Value)[o]? := blk_cell HD.out.bx
          refine wp_region_held_drew (S := fun w' => ∀ o, w'.cell? ⟨bA, o, none⟩ = (#[.slice (some ⟨gn, 0, none⟩) nn x1, .slice q2 nn x2, .int .i64 fr] : Array Value)[o]?) (by kernel_rfl) cA (fun hHeld => ?_)
          generalize w5.drew = V at *
          refine wpAnyH_take (i := 0) (v := ?_) rfl (by kernel_rfl) (by kernel_rfl) (by kernel_rfl) (fun _ _ _ h => h) (Or.inl ⟨by rfl, ?_⟩) (by assumption) ?_
          rotate_left
          · intro wx hSw
            try dsimp only at hSw
            go_simp
            try (with_reducible rfl)
          try simp only [Act.put, List.setIfInBounds_toArray, List.set_cons_zero, List.set_cons_succ]
          refine wpAnyH_take (i := 1) (v := ?_) rfl (by kernel_rfl) (by kernel_rfl) (by kernel_rfl) (fun _ _ _ h => h) (Or.inl ⟨by rfl, ?_⟩) (by assumption) ?_
          rotate_left
          · intro wx hSw
            try dsimp only at hSw
            go_simp
            try (with_reducible rfl)
          try simp only [Act.put, List.setIfInBounds_toArray, List.set_cons_zero, List.set_cons_succ]
          refine wpAnyH_take (i := 2) (v := ?_) rfl (by kernel_rfl) (by kernel_rfl) (by kernel_rfl) (fun _ _ _ h => h) (Or.inl ⟨by rfl, ?_⟩) (by assumption) ?_
          rotate_left
          · intro wx hSw
            try dsimp only at hSw
            go_simp
            try (with_reducible rfl)
          try simp only [Act.put, List.setIfInBounds_toArray, List.set_cons_zero, List.set_cons_succ]
          refine wpAnyH_take (i := 3) (v := ?_) rfl (by kernel_rfl) (by kernel_rfl) (by kernel_rfl) (fun _ _ _ h => h) (Or.inl ⟨by rfl, ?_⟩) (by assumption) ?_
          rotate_left
          · intro wx hSw
            try dsimp only at hSw
            go_simp
            try (with_reducible rfl)
          try simp only [Act.put, List.setIfInBounds_toArray, List.set_cons_zero, List.set_cons_succ]
          refine wpAnyH_take (i := 4) (v := ?_) rfl (by kernel_rfl) (by kernel_rfl) (by kernel_rfl) (fun _ _ _ h => h) (Or.inl ⟨by rfl, ?_⟩) (by assumption) ?_
          rotate_left
          · intro wx hSw
            try dsimp only at hSw
            go_simp
            try (with_reducible rfl)
          try simp only [Act.put, List.setIfInBounds_toArray, List.set_cons_zero, List.set_cons_succ]
          refine wpAnyH_take (i := 5) (v := ?_) rfl (by kernel_rfl) (by kernel_rfl) (by kernel_rfl) (fun _ _ _ h => h) (Or.inl ⟨by rfl, ?_⟩) (by assumption) ?_
          rotate_left
          · intro wx hSw
            try dsimp only at hSw
            go_simp
            try (with_reducible rfl)
          try simp only [Act.put, List.setIfInBounds_toArray, List.set_cons_zero, List.set_cons_succ]
          refine wpAnyH_take (i := 7) (v := ?_) rfl (by kernel_rfl) (by kernel_rfl) (by kernel_rfl) (fun _ _ _ h => h) (Or.inl ⟨by rfl, ?_⟩) (by assumption) ?_
          rotate_left
          · intro wx hSw
            try dsimp only at hSw
            go_simp
            try (with_reducible rfl)
          try simp only [Act.put, List.setIfInBounds_toArray, List.set_cons_zero, List.set_cons_succ]
          refine wpAnyH_ready (rs := [6]) (by kernel_rfl) (by simp) ?_
          refine AllReadyH.cons rfl (fun K hK => ?_) AllReadyH.nil
          go_simp
          refine (below_any _ _ _ _ HD.out.rd (by omega) (by omega)).mono ?_
          rintro e w6 ⟨ix, hix, rfl, hR, hK2⟩
          replace HD : Hid (Drawn g cv w w6 bA (.slice (some ⟨gn, 0, none⟩) nn x1) (.slice q2 nn x2) fr nn F U L H (.slice qh H.length xh)) := HD.out.keptBy hg hA hR hK2
          clear hR hK2 cA hHeld
          have cA : ∀ o, w6.cell? ⟨bA, o, none⟩ = (#[.slice (some ⟨gn, 0, none⟩) nn x1, .slice q2 nn x2, .int .i64 fr] : Array Value)[o]? := blk_cell HD.out.bx
          go_wp2_with fail
          refine hK.out _ _ cA (fun hHeld => ?_)
          clear hK K
          try simp only [Act.put, List.setIfInBounds_toArray, List.set_cons_zero, List.set_cons_succ]
          refine wpAnyH_ready (rs := [8]) (by kernel_rfl) (by simp) ?_
          refine AllReadyH.cons rfl (fun K hK => ?_) AllReadyH.nil
          go_simp
          refine (off_any _ _ _ _ _ HD.out.rd (by omega) (by omega) (by omega)).mono ?_
          rintro e w7 ⟨z, rfl, hR, hK2⟩
          replace HD : Hid (Drawn g cv w w7 bA (.slice (some ⟨gn, 0, none⟩) nn x1) (.slice q2 nn x2) fr nn F U L H (.slice qh H.length xh)) := HD.out.keptBy hg hA hR hK2
          clear hR hK2 cA hHeld
          have cA : ∀ o, w7.cell? ⟨bA, o, none⟩ = (#[.slice (some ⟨gn, 0, none⟩) nn x1, .slice q2 nn x2, .int .i64 fr] : Array Value)[o]? := blk_cell HD.out.bx
          have hix' : ix < nn := by omega
          go_wp2_with fail
          refine hK.out _ _ cA (fun hHeld => ?_)
          clear hK K
          try simp only [Act.put, List.setIfInBounds_toArray, List.set_cons_zero, List.set_cons_succ]
          refine wpAnyH_take (i := 9) (v := ?_) rfl (by kernel_rfl) (by kernel_rfl) (by kernel_rfl) (fun _ _ _ h => h) (Or.inl ⟨by rfl, ?_⟩) (by assumption) ?_
          rotate_left
          · intro wx hSw
            try dsimp only at hSw
            go_simp
            try (with_reducible rfl)
          try simp only [Act.put, List.setIfInBounds_toArray, List.set_cons_zero, List.set_cons_succ]
          obtain ⟨hrow, hgn⟩ : RowTo gn 2 nn (fun i => .int .i64 (F i)) nn w7 ∧ w.heap.size + 1 ≤ gn := by
            obtain ⟨a, c, e0, ⟨e1, e2⟩ | ⟨g1, e1, hg1, hrow⟩⟩ := HD.out.row1
            · omega
            · cases e0; cases e1; exact ⟨hrow, hg1⟩
          obtain ⟨vv, hvv⟩ := hrow.there ix hix'
          have hff := hrow.free ix
          have ngA : gn ≠ bA := HD.out.row1.neBox HD.out.bx (by decide) gn (by simp [bl])
          have nAg : bA ≠ gn := fun e => ngA e.symm
          refine wpAnyH_ready (rs := [10]) (by kernel_rfl) (by simp) ?_
          refine AllReadyH.cons rfl (fun K hK => ?_) AllReadyH.nil
          go_simp
          have cA2 : ∀ o, (w7.setCell ⟨gn, ix, none⟩ (.int .i64 z)).cell? ⟨bA, o, none⟩ = (#[.slice (some ⟨gn, 0, none⟩) nn x1, .slice q2 nn x2, .int .i64 fr] : Array Value)[o]? := fun o => (World.cell?_setCell_far w7 _ _ _ ngA).trans (cA o)
          refine hK.out _ _ cA2 (fun hHeld => ?_)
          clear hK K
          try simp only [Act.put, List.setIfInBounds_toArray, List.set_cons_zero, List.set_cons_succ]
          refine wpAnyH_done (by kernel_rfl) ?_ _
          clear hHeld
          obtain ⟨s1, s2, s3, s4, s5⟩ := HD.out.cellSet hg (by omega : w.heap.size < gn) (fun x hx e => HD.out.row2.apart HD.out.row1 (by decide) x hx (by simp [bl, e])) (HD.out.ap gn (by simp [bl])) ix (.int .i64 z)
          have s6 : VRow 2 (w7.setCell ⟨gn, ix, none⟩ (.int .i64 z)) (w.heap.size + 1) (.slice (some ⟨gn, 0, none⟩) nn x1) nn (fun i => .int .i64 (if i = ix then z else F i)) := VRow.of ((hrow.setAt ix (.int .i64 z) hix').ext (fun i hi => by by_cases e : i = ix <;> simp [e])) hgn
          have HDT : Hid (∀ i, i < nn → (U i).size ≤ 10) := fun i hi => (HD.out.ok.data i hi).2
          clear HD cA hrow hvv hff
          generalize w7.setCell ⟨gn, ix, none⟩ (.int .i64 z) = V8 at *
          have cR := blk_cell s5
          have fR := blk_free s5
          have nAR : bA ≠ w.heap.size := by omega
          have nRA : w.heap.size ≠ bA := by omega
          go_wp2_with fail
          obtain ⟨f1, f2, f3, f4, f5⟩ := drawn_close hg s1 s2 s6 s3 s4 (.slice (some ⟨gn, 0, none⟩) nn x1) (.slice q2 nn x2) (.int .i64 fr)
          exact bodyPost_ret (v := .tuple #[.agg #[.slice (some ⟨gn, 0, none⟩) nn x1, .slice q2 nn x2, .int .i64 fr], .slice qh H.length xh]) (by simp [results, Try.results24, go_sem, cR]) rfl ⟨⟨_, _, _, _, nn, (fun i => if i = ix then z else F i), U, H, rfl, f1, f2, f3, hn1, hn2, by omega, HDT.out⟩, f4, f5⟩
        · have e29 : ((y : Int) == 29) = false := by simp; omega
          have cA := blk_cell HD.out.bx
          have cR := blk_cell HD.out.res
          have fR := blk_free HD.out.res
          have nAR : bA ≠ w.heap.size := by omega
          have nRA : w.heap.size ≠ bA := by omega
          go_wp2_with fail
          obtain ⟨f1, f2, f3, f4, f5⟩ := drawn_close hg HD.out.rd HD.out.kept HD.out.row1 HD.out.row2 HD.out.own (.slice q1 nn x1) (.slice q2 nn x2) (.int .i64 fr)
          exact bodyPost_ret (v := .tuple #[.agg #[.slice q1 nn x1, .slice q2 nn x2, .int .i64 fr], .slice qh H.length xh]) (by simp [results, Try.results24, go_sem, cR]) rfl ⟨⟨_, _, _, _, nn, F, U, H, rfl, f1, f2, f3, hn1, hn2, by omega, fun i hi => (HD.out.ok.data i hi).2⟩, f4, f5⟩
end Go.Proofs.Ythkkogpegmmbdaa
