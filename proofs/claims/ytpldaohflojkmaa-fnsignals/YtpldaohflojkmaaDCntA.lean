/- Counts, as the reader draws them. -/
import Derived.Test.YtpldaohflojkmaaDCfg
import Derived.Test.YtpldaohflojkmaaCnSigS
import Derived.Test.YtpldaohflojkmaaCnAdm
import Derived.Deep.DeepCutAuto
namespace Go.Proofs.Ytpldaohflojkmaa
open Go.RowKit
set_option linter.unusedVariables false
set_option linter.unusedSimpArgs false

theorem OwnCn.kept {g : Nat} {w w' : World} {base : Nat} {N : Cnt} (h : OwnCn w base N) (hK : Kept g w w') (hg : g < base) : OwnCn w' base N :=
  ⟨h.u.imp id (by rintro ⟨k, ha, hb, hr⟩; exact ⟨k, ha, hb, hr.keep (hK.block k hr.lt (by omega))⟩), h.p.imp id (by rintro ⟨k, ha, hb, hr⟩; exact ⟨k, ha, hb, hr.keep (hK.block k hr.lt (by omega))⟩)⟩
/-- few ports -/
structure Few (M : Cnt) : Prop where
  u : M.nU ≤ 4
  p : M.nP ≤ 4
theorem Few.small {M : Cnt} (h : Few M) : M.Small := ⟨by have := h.u; omega, by have := h.p; omega⟩
theorem Few.alike {A B : Cnt} (h : Few A) (k : AlikeC A B) : Few B := ⟨by rw [k.nU]; exact h.u, by rw [k.nP]; exact h.p⟩
theorem Few.zero : Few zeroC := ⟨Nat.zero_le _, Nat.zero_le _⟩
theorem Few.orZero {A : Cnt} (h : Few A) (ok : Bool) : Few (orZero A ok) := by
  cases ok
  · exact Few.zero
  · exact h
theorem Few.addN {A : Cnt} (h : Few A) (a b y : Int) : Few (addN A a b y) := by
  unfold Go.Proofs.Ytpldaohflojkmaa.addN
  split <;> exact ⟨h.u, h.p⟩
theorem Few.sigM {C : Cfg} {A : Cnt} (h : Few A) (ok : Bool) : Few (sigM C A ok) := by
  cases ok
  · exact Few.zero
  · exact ⟨h.u, h.p⟩
theorem Few.newC {n : Nat} (h : n ≤ 4) (ok : Bool) : Few (newC n ok) := by
  cases ok
  · exact Few.zero
  · exact ⟨h, h⟩
/-- where the drawing of counts stands -/
structure CS (w wr : World) (g : Nat) (cv : Value) (C : Cfg) (gN : Nat) (M : Cnt) : Prop where
  rd : Rd g cv wr
  kp : Kept g w wr
  kC : wr.heap[w.heap.size]? = some (.cells C.cells 25 (0, 0))
  kR : wr.heap[w.heap.size + 1]? = some (.cells #[.slice none 0 0, .int .i64 0, .slice none 0 0] 29 (0, 0))
  kN : wr.heap[gN]? = some (.cells M.cells 29 (0, 0))
  o : OwnCn wr (w.heap.size + 2) M
  few : Few M
  lN : w.heap.size + 2 ≤ gN
  hg : g < w.heap.size
theorem CS.below {w wr w' : World} {g : Nat} {cv : Value} {C : Cfg} {gN : Nat} {M : Cnt} (h : CS w wr g cv C gN M) (hb : Below wr.heap.size wr w') : CS w w' g cv C gN M :=
  ⟨h.rd.below hb, h.kp.trans (Kept.ofBelow hb), (hb.block _ (blk_lt h.kC)).trans h.kC, (hb.block _ (blk_lt h.kR)).trans h.kR, (hb.block _ (blk_lt h.kN)).trans h.kN, h.o.up hb, h.few, h.lN, h.hg⟩
theorem CS.kept {w wr w' : World} {g : Nat} {cv : Value} {C : Cfg} {gN : Nat} {M : Cnt} (h : CS w wr g cv C gN M) (hR : Rd g cv w') (hK : Kept g wr w') : CS w w' g cv C gN M :=
  ⟨hR, h.kp.trans hK, kblk hK h.kC (by have := h.hg; omega), kblk hK h.kR (by have := h.hg; omega), kblk hK h.kN (by have := h.hg; have := h.lN; omega), h.o.kept hK (by have := h.hg; omega), h.few, h.lN, h.hg⟩
theorem CS.touch {w wr w' : World} {g : Nat} {cv : Value} {C : Cfg} {gN k : Nat} {M : Cnt} (h : CS w wr g cv C gN M) (ht : Touch [k] wr w') (hk : w.heap.size + 2 ≤ k) (hn : k ≠ gN) (ho : OwnCn w' (w.heap.size + 2) M) : CS w w' g cv C gN M := by
  have h1 := h.hg
  have hb : Below (w.heap.size + 2) wr w' := ht.below (by have := blk_lt h.kR; omega) (fun x hx => by have := List.mem_singleton.1 hx; omega)
  exact ⟨h.rd.keep (fun j hj => hb.block j (by omega)), ⟨hb.os.trans h.kp.os, hb.tape.trans h.kp.tape, hb.output.trans h.kp.output, Nat.le_trans h.kp.size hb.size, fun j hj hne => (hb.block j (by omega)).trans (h.kp.block j hj hne)⟩, (hb.block _ (by omega)).trans h.kC, (hb.block _ (by omega)).trans h.kR, (ht.block _ (blk_lt h.kN) (fun hx => hn (List.mem_singleton.1 hx).symm)).trans h.kN, ho, h.few, h.lN, h.hg⟩
theorem CS.put {w wr : World} {g : Nat} {cv : Value} {C : Cfg} {gN : Nat} {M R : Cnt} (h : CS w wr g cv C gN M) (ho : OwnCn wr (w.heap.size + 2) R) (hf : Few R) : CS w (put3 wr gN (.slice R.aU R.nU R.cU) (.int .i64 R.lo) (.slice R.aP R.nP R.cP)) g cv C gN R := by
  have h1 := h.hg
  have h2 := h.lN
  have ht := put3_touch wr gN (.slice R.aU R.nU R.cU) (.int .i64 R.lo) (.slice R.aP R.nP R.cP)
  have hb : Below (w.heap.size + 2) wr (put3 wr gN (.slice R.aU R.nU R.cU) (.int .i64 R.lo) (.slice R.aP R.nP R.cP)) := ht.below (by have := blk_lt h.kR; omega) (fun x hx => by have := List.mem_singleton.1 hx; omega)
  exact ⟨h.rd.keep (fun j hj => hb.block j (by omega)), ⟨hb.os.trans h.kp.os, hb.tape.trans h.kp.tape, hb.output.trans h.kp.output, Nat.le_trans h.kp.size hb.size, fun j hj hne => (hb.block j (by omega)).trans (h.kp.block j hj hne)⟩, (hb.block _ (by omega)).trans h.kC, (hb.block _ (by omega)).trans h.kR, put3_blk (by have := h.kN; unfold Cnt.cells at this; exact this) _ _ _, touch3 ho h.kN, hf, h.lN, h.hg⟩
/-- an answer beside it, in a box of its own -/
structure Tmp (w wr : World) (gN gT : Nat) (R : Cnt) : Prop where
  k : wr.heap[gT]? = some (.cells R.cells 29 (0, 0))
  o : OwnCn wr (w.heap.size + 2) R
  few : Few R
  l : w.heap.size + 2 ≤ gT
  n : gT ≠ gN
theorem Tmp.below {w wr w' : World} {gN gT : Nat} {R : Cnt} (h : Tmp w wr gN gT R) (hb : Below wr.heap.size wr w') : Tmp w w' gN gT R := ⟨(hb.block _ (blk_lt h.k)).trans h.k, h.o.up hb, h.few, h.l, h.n⟩
theorem Tmp.kept {w wr w' : World} {g gN gT : Nat} {R : Cnt} (h : Tmp w wr gN gT R) (hK : Kept g wr w') (hg : g < w.heap.size) : Tmp w w' gN gT R := ⟨kblk hK h.k (by have := h.l; omega), h.o.kept hK (by omega), h.few, h.l, h.n⟩
theorem Tmp.put {w wr : World} {gN gT : Nat} {M R : Cnt} {a b c : Value} {cs : Array Value} (h : Tmp w wr gN gT R) (hk : wr.heap[gN]? = some (.cells cs 29 (0, 0))) : Tmp w (put3 wr gN a b c) gN gT R := ⟨((put3_touch wr gN a b c).block _ (blk_lt h.k) (fun hx => h.n (List.mem_singleton.1 hx))).trans h.k, touch3 h.o hk, h.few, h.l, h.n⟩
theorem ss {w W : World} {g : Nat} {cv : Value} {C : Cfg} {gN : Nat} {M : Cnt} (h : CS w W g cv C gN M) : (∀ o, W.cell? ⟨w.heap.size, o, none⟩ = (#[.int .i64 C.p, .int .i64 C.c, .int .i64 C.xo, .int .i64 C.xn, .int .i64 C.hd, .int .i64 C.lo, .int .i64 C.dl] : Array Value)[o]?) ∧ (∀ o, W.cell? ⟨gN, o, none⟩ = (#[.slice M.aU M.nU M.cU, .int .i64 M.lo, .slice M.aP M.nP M.cP] : Array Value)[o]?) := ⟨blk_cell h.kC, blk_cell h.kN⟩
theorem CS.out {w W : World} {g : Nat} {cv : Value} {C : Cfg} {gN : Nat} {M : Cnt} (h : CS w W g cv C gN M) : OwnCn (put3 W (w.heap.size + 1) (.slice M.aU M.nU M.cU) (.int .i64 M.lo) (.slice M.aP M.nP M.cP)) w.heap.size M ∧ Rd g cv (put3 W (w.heap.size + 1) (.slice M.aU M.nU M.cU) (.int .i64 M.lo) (.slice M.aP M.nP M.cP)) ∧ Kept g w (put3 W (w.heap.size + 1) (.slice M.aU M.nU M.cU) (.int .i64 M.lo) (.slice M.aP M.nP M.cP)) ∧ ∀ o, (put3 W (w.heap.size + 1) (.slice M.aU M.nU M.cU) (.int .i64 M.lo) (.slice M.aP M.nP M.cP)).cell? ⟨w.heap.size + 1, o, none⟩ = (#[.slice M.aU M.nU M.cU, .int .i64 M.lo, .slice M.aP M.nP M.cP] : Array Value)[o]? := by
  have h1 := h.hg
  have ht := put3_touch W (w.heap.size + 1) (.slice M.aU M.nU M.cU) (.int .i64 M.lo) (.slice M.aP M.nP M.cP)
  have hb : Below (w.heap.size + 1) W (put3 W (w.heap.size + 1) (.slice M.aU M.nU M.cU) (.int .i64 M.lo) (.slice M.aP M.nP M.cP)) := ht.below (by have := blk_lt h.kR; omega) (fun x hx => by have := List.mem_singleton.1 hx; omega)
  exact ⟨(touch3 h.o h.kR).mono (by omega), h.rd.keep (fun j hj => hb.block j (by omega)), ⟨hb.os.trans h.kp.os, hb.tape.trans h.kp.tape, hb.output.trans h.kp.output, Nat.le_trans h.kp.size hb.size, fun j hj hne => (hb.block j (by omega)).trans (h.kp.block j hj hne)⟩, blk_cell (put3_blk h.kR _ _ _)⟩
theorem CS.set0 {w W : World} {g : Nat} {cv : Value} {C : Cfg} {gN gU : Nat} {M : Cnt} (h : CS w W g cv C gN M) (eU : M.aU = some ⟨gU, 0, none⟩) (hn : 0 < M.nU) (z : Int) :
    CS w (W.setCell ⟨gU, 0, none⟩ (.int .i64 z)) g cv C gN { M with u := fun i => if i = 0 then z else M.u i } ∧ (∃ v, W.cell? ⟨gU, 0, none⟩ = some v) ∧ W.frozen? ⟨gU, 0, none⟩ = false := by
  have h1 := h.hg
  rcases h.o.u with h0 | ⟨gU', eU', hgU', hrU⟩
  · omega
  rw [eU] at eU'
  cases eU'
  have hne : gU ≠ gN := by
    rintro rfl
    obtain ⟨arr, hk9, _⟩ := hrU
    rw [h.kN] at hk9
    simp at hk9
  have ht : Touch [gU] W (W.setCell ⟨gU, 0, none⟩ (.int .i64 z)) := (Touch.refl _ _).set (by simp) 0 _
  have hb : Below (w.heap.size + 2) W (W.setCell ⟨gU, 0, none⟩ (.int .i64 z)) := ht.below (by have := blk_lt h.kR; omega) (fun x hx => by have := List.mem_singleton.1 hx; omega)
  refine ⟨⟨h.rd.keep (fun j hj => hb.block j (by omega)), ⟨hb.os.trans h.kp.os, hb.tape.trans h.kp.tape, hb.output.trans h.kp.output, Nat.le_trans h.kp.size hb.size, fun j hj hne => (hb.block j (by omega)).trans (h.kp.block j hj hne)⟩, (hb.block _ (by omega)).trans h.kC, (hb.block _ (by omega)).trans h.kR, (ht.block _ (blk_lt h.kN) (fun hx => hne (List.mem_singleton.1 hx).symm)).trans h.kN, ⟨?_, ?_⟩, ⟨h.few.u, h.few.p⟩, h.lN, h.hg⟩, hrU.there 0 hn, hrU.free 0⟩
  · show VT 2 _ _ M.aU M.nU (fun i => .int .i64 (if i = 0 then z else M.u i))
    rw [eU]
    exact VT.of hgU' ((hrU.setAtC 0 (.int .i64 z) hn).extC (fun j _ => by by_cases e : j = 0 <;> simp [e]))
  · refine h.o.p.touchS ht (fun x hx hy => ?_)
    have e := List.mem_singleton.1 hy
    subst e
    obtain ⟨arr, hk9, _⟩ := hrU
    exact VT.boxOut h.o.p (by decide) hk9 hx
end Go.Proofs.Ytpldaohflojkmaa
