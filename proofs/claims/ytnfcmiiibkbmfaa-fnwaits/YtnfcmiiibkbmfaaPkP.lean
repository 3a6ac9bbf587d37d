/- The program's pick: turns until something is picked. -/
import Derived.Test.YtnfcmiiibkbmfaaRfSh
namespace Go.Proofs.Ytnfcmiiibkbmfaa
open Go.RowKit Go.Shelf
attribute [local go_sem] Oper.semAt_some
set_option linter.unusedVariables false
set_option linter.unusedSimpArgs false

/-- between two rounds: the round, what pick has made for itself, all else as it was -/
structure PkI (w W1 : World) (l base top gb gD gS : Nat) (X : Rnd) (wr : World) : Prop where
  rep : RepO wr base top gb gD gS X
  new : ∀ k, w.heap.size ≤ k → k < W1.heap.size → k ≠ l → wr.heap[k]? = W1.heap[k]?
  touch : Touch [gb, gD, gS] w wr
  size : W1.heap.size ≤ wr.heap.size
theorem RepO.lts {w : World} {base top gb gD gS : Nat} {X : Rnd} (h : RepO w base top gb gD gS X) : gb < w.heap.size ∧ gD < w.heap.size ∧ gS < w.heap.size := ⟨blk_lt h.box, h.rowD.1.lt, h.rowS.1.lt⟩
section
variable {w W1 wr wr' : World} {l base top gb gD gS : Nat} {X X' : Rnd}
theorem PkI.up (h : PkI w W1 l base top gb gD gS X wr) (hb : Below wr.heap.size wr wr') : PkI w W1 l base top gb gD gS X wr' :=
  ⟨h.rep.up hb, fun k h1 h2 h3 => (hb.block k (by have := h.size; omega)).trans (h.new k h1 h2 h3), h.touch.trans (Touch.ofBelow hb), by have := h.size; have := hb.size; omega⟩
theorem not3 {k : Nat} (hl : gb < w.heap.size ∧ gD < w.heap.size ∧ gS < w.heap.size) (hk : w.heap.size ≤ k) : k ∉ [gb, gD, gS] := fun hx => by
  simp at hx
  omega
theorem PkI.next (h : PkI w W1 l base top gb gD gS X wr) (hl : gb < w.heap.size ∧ gD < w.heap.size ∧ gS < w.heap.size) (hR : RepO wr' base top gb gD gS X') (ht : Touch [gb, gD, gS] wr wr') : PkI w W1 l base top gb gD gS X' wr' :=
  ⟨hR, fun k h1 h2 h3 => (ht.block k (by have := h.size; omega) (not3 hl h1)).trans (h.new k h1 h2 h3), h.touch.trans ht, by have := h.size; have := ht.size; omega⟩
theorem putObj_touch (wr : World) (l : Nat) (o : Obj) : Touch [l] wr (wr.putObj l o) := ⟨rfl, rfl, rfl, by simp, fun k _ hn => World.putObj_heap_other (fun e => hn (by simp [e]))⟩
theorem RepO.put {lo : Obj} (h : RepO wr base top gb gD gS X) (hl : wr.heap[l]? = some lo) (hc : lo.isCells = false) (o : Obj) : RepO (wr.putObj l o) base top gb gD gS X := by
  have ht := putObj_touch wr l o
  have hno : ∀ arr t f, wr.heap[l]? ≠ some (.cells arr t f) := fun arr t f e => by
    rw [hl] at e
    cases e
    simp [Obj.isCells] at hc
  exact ⟨(ht.block _ (blk_lt h.box) (fun hx => by simp at hx; subst hx; exact hno _ _ _ h.box)).trans h.box, h.own.touchT ht (fun g hg arr => by simp at hg; subst hg; exact ⟨hno _ _ _, hno _ _ _⟩), h.ad, h.as_, h.cap, h.pos, h.hi⟩
theorem PkI.put {lo : Obj} (h : PkI w W1 l base top gb gD gS X wr) (hl : wr.heap[l]? = some lo) (hc : lo.isCells = false) (hw : w.heap.size ≤ l) (o : Obj) : PkI w W1 l base top gb gD gS X (wr.putObj l o) :=
  ⟨h.rep.put hl hc o, fun k h1 h2 h3 => (World.putObj_heap_other h3).trans (h.new k h1 h2 h3), ⟨h.touch.os, h.touch.tape, h.touch.output, by have := h.touch.size; simpa using this, fun k hk hn => (World.putObj_heap_other (by omega)).trans (h.touch.block k hk hn)⟩, by have := h.size; simpa using this⟩
theorem RepO.left (h : RepO wr base top gb gD gS X) {c0 : Nat} (hc : c0 < X.nQ) : leftW X.nQ gb gD c0 wr = leftR X c0 := by
  have b := h.cb
  have c2 : wr.cell? ⟨gb, 2, none⟩ = some (.int .i64 X.turn) := b 2
  have c3 : wr.cell? ⟨gb, 3, none⟩ = some (.bool X.fresh) := b 3
  unfold leftW leftR farR Rnd.now
  rw [c2, c3, h.cd hc]
  rfl
theorem ok_fit (h : X.Ok) : X.Fit := by
  have hn := h.n
  refine ⟨by unfold maxLen; omega, by rw [h.d]; unfold maxLen; omega, by rw [h.s]; unfold maxLen; omega, fun i hi => ?_⟩
  have := (h.c i (by rw [h.s] at hi; exact hi)).2.1.1
  unfold maxLen
  omega
theorem putObj_cell {o : Obj} {b i : Nat} {l : Nat} (h : b ≠ l) : (wr.putObj l o).cell? ⟨b, i, none⟩ = wr.cell? ⟨b, i, none⟩ := World.cell?_of_block (w := wr) (a := ⟨b, i, none⟩) (World.putObj_heap_other h)
end
/-- what is left when something was picked -/
structure PkL (w : World) (base top gb gD gS : Nat) (X1 : Rnd) (c : Nat) (s : Int) (D : Nat) (W : World) : Prop where
  ex : ∃ X', Alike X1 X' ∧ RepO W base top gb gD gS X'
  touch : Touch [gb, gD, gS] w W
  r2 : W.heap[w.heap.size + 1]? = some (.cells #[.int .i64 (c : Int)] 2 (0, 0))
  r3 : W.heap[w.heap.size + 2]? = some (.cells #[.int .i64 s] 2 (0, 0))
  d : W.heap[D]? = some (.deferred (some []))
theorem PkL.put {w W : World} {base top gb gD gS : Nat} {X1 : Rnd} {c : Nat} {s : Int} {D l : Nat} {lo : Obj} (h : PkL w base top gb gD gS X1 c s D W) (hl : W.heap[l]? = some lo) (hc : lo.isCells = false) (hw : w.heap.size + 2 < l) (hD : l ≠ D) (o : Obj) : PkL w base top gb gD gS X1 c s D (W.putObj l o) := by
  obtain ⟨X', ha, hr⟩ := h.ex
  exact ⟨⟨X', ha, hr.put hl hc o⟩, ⟨h.touch.os, h.touch.tape, h.touch.output, by have := h.touch.size; simpa using this, fun k hk hn => (World.putObj_heap_other (by omega)).trans (h.touch.block k hk hn)⟩, (World.putObj_heap_other (by omega)).trans h.r2, (World.putObj_heap_other (by omega)).trans h.r3, (World.putObj_heap_other (fun e => hD e.symm)).trans h.d⟩

theorem pickOf_short (X : Rnd) (base top gb gD gS c : Nat) (w : World) (h : RepO w base top gb gD gS X) (hok : X.Ok) (hc : X.now = c) (ht : X.turn = (c : Int)) (hL : X.L c ≠ 0) (hd : (grantR X).d c < X.z c 0) :
    Calls Try.prog 41 #[.pointer (some ⟨gb, 0, none⟩), .int .i64 (c : Int)] w fun e w' => e = .returned (.tuple #[.int .i64 0, .bool false]) ∧ RepO w' base top gb gD gS (grantR X) ∧ Touch [gb, gD, gS] w w' := by
  refine (pickOf_any X base top gb gD gS c w h hok hc ht hL).mono ?_
  rintro e w' ⟨(⟨_, rfl, hR⟩ | ⟨h1, _⟩), hT⟩
  · exact ⟨rfl, hR, hT⟩
  · omega
theorem pickOf_take (X : Rnd) (base top gb gD gS c : Nat) (w : World) (h : RepO w base top gb gD gS X) (hok : X.Ok) (hc : X.now = c) (ht : X.turn = (c : Int)) (hL : X.L c ≠ 0) (hd : X.z c 0 ≤ (grantR X).d c) :
    Calls Try.prog 41 #[.pointer (some ⟨gb, 0, none⟩), .int .i64 (c : Int)] w fun e w' => e = .returned (.tuple #[.int .i64 (X.z c 0), .bool true]) ∧ (∃ X', Alike (takeR (grantR X)) X' ∧ RepO w' base top gb gD gS X') ∧ Touch [gb, gD, gS] w w' := by
  refine (pickOf_any X base top gb gD gS c w h hok hc ht hL).mono ?_
  rintro e w' ⟨(⟨h1, _⟩ | ⟨_, rfl, hR⟩), hT⟩
  · omega
  · exact ⟨rfl, hR, hT⟩
theorem four {w : World} {o1 o2 o3 o4 : Obj} : ((((w.alloc o1).alloc o2).alloc o3).alloc o4).heap[w.heap.size]? = some o1 ∧ ((((w.alloc o1).alloc o2).alloc o3).alloc o4).heap[w.heap.size + 1]? = some o2 ∧ ((((w.alloc o1).alloc o2).alloc o3).alloc o4).heap[w.heap.size + 1 + 1]? = some o3 ∧ ((((w.alloc o1).alloc o2).alloc o3).alloc o4).heap[w.heap.size + 1 + 1 + 1]? = some o4 ∧
    ((((w.alloc o1).alloc o2).alloc o3).alloc o4).heap.size = w.heap.size + 4 ∧ Below w.heap.size w ((((w.alloc o1).alloc o2).alloc o3).alloc o4) := by
  have e1 : (w.alloc o1).heap.size = w.heap.size + 1 := by simp
  have e2 : ((w.alloc o1).alloc o2).heap.size = w.heap.size + 1 + 1 := by simp
  have e3 : (((w.alloc o1).alloc o2).alloc o3).heap.size = w.heap.size + 1 + 1 + 1 := by simp
  refine ⟨?_, ?_, ?_, ?_, by simp, ((((Below.refl _ _).alloc (Nat.le_refl _) _).alloc (by omega) _).alloc (by omega) _).alloc (by omega) _⟩
  · rw [blk_old _ (by omega), blk_old _ (by omega), blk_old _ (by omega), blk_new]
  · rw [blk_old _ (by omega), blk_old _ (by omega), ← e1, blk_new]
  · rw [blk_old _ (by omega), ← e2, blk_new]
  · rw [← e3, blk_new]
theorem picks_c {k : Nat} {R R' : Rnd} {c : Nat} {s : Int} (h : Picks k R R' c s) (h0 : R.L R.now ≠ 0) (hd : R.z R.now 0 ≤ (grantR R).d R.now) : R' = takeR (grantR R) ∧ c = R.now ∧ s = R.z R.now 0 := h.takeInv h0 hd
/-- what a round of pick's loop leaves -/
def YR (w W1 : World) (l base top gb gD gS c0 : Nat) (rc : LoopState → Option Code → Loop) (X1 : Rnd) (c : Nat) (s : Int) (D : Nat) (X : Rnd) (e : Ending) (W' : World) : Prop :=
  (e = .returned (.bool true) ∧ W'.heap[l]? = some (.loop (rc .ready none)) ∧ ∃ Y k2, PkI w W1 l base top gb gD gS Y W' ∧ Y.nQ = X.nQ ∧ Y.L = X.L ∧ (0 ≤ Y.turn ∧ Y.turn < Y.nQ) ∧ (turnR Y).Ok ∧ Picks k2 (turnR Y) X1 c s ∧ leftR (turnR Y) c0 < leftR X c0) ∨
  (e = .returned (.bool false) ∧ W'.heap[l]? = some (.loop (rc .done (some .ret))) ∧ PkL w base top gb gD gS X1 c s D W')

set_option maxRecDepth 100000 in
set_option maxHeartbeats 8000000 in
theorem pick_any (X0 : Rnd) (base top gb gD gS c0 : Nat) (w : World) (htop : top ≤ w.heap.size) (h : RepO w base top gb gD gS X0) (hok : X0.Ok) (hc0 : c0 < X0.nQ) (hl0 : X0.L c0 ≠ 0) (k0 : Nat) (X1 : Rnd) (c : Nat) (s : Int) (hp : Picks k0 X0 X1 c s) :
    Calls Try.prog 26 #[.pointer (some ⟨gb, 0, none⟩)] w fun e w' => e = .returned (.tuple #[.int .i64 (c : Int), .int .i64 s]) ∧ (∃ X', Alike X1 X' ∧ RepO w' base top gb gD gS X') ∧ Touch [gb, gD, gS] w w' := by
  have HR : Hid (RepO w base top gb gD gS X0) := h
  have HOk : Hid X0.Ok := hok
  have HP : Hid (Picks k0 X0 X1 c s) := hp
  have HL0 : Hid (X0.L c0 ≠ 0) := hl0
  have HC0 : Hid (c0 < X0.nQ) := hc0
  have HLt : Hid (gb < w.heap.size ∧ gD < w.heap.size ∧ gS < w.heap.size) := h.lts
  have HTop : Hid (top ≤ w.heap.size) := htop
  clear h hok hp hl0 hc0 htop
  refine (callsIn_wide (n := 8)).1 ?_
  refine callsIn_of_wp_marks Try.func26 rfl trivial ?_ rfl
  simp only [Try.ntmps26, List.size_toArray, List.length_cons, List.length_nil, Nat.reduceAdd, Nat.reduceSub, Array.replicate_succ, Array.replicate_zero, List.push_toArray, List.append_toArray, List.nil_append, List.cons_append]
  have f33 : Fence.wide.fn 40 := trivial
  gi_wp2_with (gi_at_call 40; refine (callsIn_wide.2 (turns_any gb _)).mono ?_; rintro e w2 ⟨rfl, rfl⟩)
  obtain ⟨q1, q2, q3, q4, q5, qb⟩ := four (w := w) (o1 := .cells #[.pointer (some ⟨gb, 0, none⟩)] 48) (o2 := .cells #[.int .i64 0] 2) (o3 := .cells #[.int .i64 0] 2) (o4 := .cells #[.pointer (some ⟨gb, 0, none⟩)] 48)
  generalize (((w.alloc (.cells #[.pointer (some ⟨gb, 0, none⟩)] 48)).alloc (.cells #[.int .i64 0] 2)).alloc (.cells #[.int .i64 0] 2)).alloc (.cells #[.pointer (some ⟨gb, 0, none⟩)] 48) = w0 at *
  have HQ : Hid (w0.heap[w.heap.size]? = some (.cells #[.pointer (some ⟨gb, 0, none⟩)] 48 (0, 0)) ∧ w0.heap[w.heap.size + 1]? = some (.cells #[.int .i64 0] 2 (0, 0)) ∧ w0.heap[w.heap.size + 1 + 1]? = some (.cells #[.int .i64 0] 2 (0, 0)) ∧ w0.heap[w.heap.size + 1 + 1 + 1]? = some (.cells #[.pointer (some ⟨gb, 0, none⟩)] 48 (0, 0)) ∧ w0.heap.size = w.heap.size + 4 ∧ Below w.heap.size w w0) := ⟨q1, q2, q3, q4, q5, qb⟩
  clear q1 q2 q3 q4 q5 qb
  refine wpIn_rangeFunc_sh rfl (by omega) (gf := 48) (lb := #[.pointer (some ⟨w.heap.size + 1 + 1 + 1, 0, none⟩)]) rfl trivial (enters_of Try.func48 (by kernel_rfl) rfl) (fun _ => False) (fun c' W => c' = .ret ∧ (∃ lo, W.heap[w0.heap.size + 1]? = some lo ∧ lo.isCells = false) ∧ PkL w base top gb gD gS X1 c s w0.heap.size W) ?it (fun W o h => h.elim) ?stop
  case stop =>
    rintro c' W o ⟨rfl, ⟨lo, hlo, hlc⟩, hPL⟩
    have hq5 := HQ.out.2.2.2.2.1
    have hP2 := hPL.put hlo hlc (by omega) (by omega) o
    generalize W.putObj (w0.heap.size + 1) o = W2 at *
    have hK := hP2.d
    have hP3 := hP2
    obtain ⟨⟨X', hA, hR⟩, hT, hr2, hr3, _⟩ := hP3
    have hR3 := hR.put hK rfl (.deferred none)
    have hD2 : w.heap.size + 2 < w0.heap.size := by omega
    have hc2 : (W2.putObj w0.heap.size (.deferred none)).cell? ⟨w.heap.size + 1, 0, none⟩ = some (.int .i64 (c : Int)) := (putObj_cell (by omega)).trans (blk_cell hr2 0)
    have hc3 : (W2.putObj w0.heap.size (.deferred none)).cell? ⟨w.heap.size + 1 + 1, 0, none⟩ = some (.int .i64 s) := (putObj_cell (by omega)).trans (blk_cell hr3 0)
    have hT2 : Touch [gb, gD, gS] w (W2.putObj w0.heap.size (.deferred none)) := ⟨hT.os, hT.tape, hT.output, by have := hT.size; simpa using this, fun k hk hn => (World.putObj_heap_other (by omega)).trans (hT.block k hk hn)⟩
    gi_wp2
    refine ⟨by simp, .inl ⟨_, _, rfl, run_takeDeferred hK, ?_⟩⟩
    exact ⟨.tuple #[.int .i64 (c : Int), .int .i64 s], by simp [results, Try.results26, go_sem, hc2, hc3], rfl, ⟨X', hA, hR3⟩, hT2⟩
  case it =>
    intro fn hfn rc hrc
    obtain ⟨W1, hW1⟩ : ∃ W1, (w0.alloc (.deferred (some []))).alloc (.loop (rc .ready none)) = W1 := ⟨_, rfl⟩
    obtain ⟨l, hl⟩ : ∃ l, l = w0.heap.size + 1 := ⟨_, rfl⟩
    have hq5 := HQ.out.2.2.2.2.1
    have e1 : (w0.alloc (.deferred (some []))).heap.size = w0.heap.size + 1 := by simp
    have HW : Hid (W1.heap[l]? = some (.loop (rc .ready none)) ∧ W1.heap[w0.heap.size]? = some (.deferred (some [])) ∧ W1.heap.size = w0.heap.size + 2 ∧ (∀ k, k < w0.heap.size → W1.heap[k]? = w0.heap[k]?)) := by
      rw [Hid, ← hW1, hl]
      refine ⟨?_, ?_, by simp, fun k hk => ?_⟩
      · rw [← e1, blk_new]
      · rw [blk_old _ (by omega), blk_new]
      · rw [blk_old _ (by omega), blk_old _ hk]
    have HI0 : Hid (PkI w W1 l base top gb gD gS X0 W1) := by
      have hb : Below w0.heap.size w0 W1 := by rw [← hW1]; exact ((Below.refl _ _).alloc (Nat.le_refl _) _).alloc (by omega) _
      have hbw : Below w.heap.size w W1 := HQ.out.2.2.2.2.2.trans (hb.mono (by omega))
      exact ⟨HR.out.up hbw, fun k _ _ _ => rfl, Touch.ofBelow hbw, Nat.le_refl _⟩
    have HB : Hid (∀ X wr, PkI w W1 l base top gb gD gS X wr → wr.heap[w.heap.size]? = some (.cells #[.pointer (some ⟨gb, 0, none⟩)] 48 (0, 0)) ∧ wr.heap[w.heap.size + 1]? = some (.cells #[.int .i64 0] 2 (0, 0)) ∧ wr.heap[w.heap.size + 1 + 1]? = some (.cells #[.int .i64 0] 2 (0, 0)) ∧ wr.heap[w.heap.size + 1 + 1 + 1]? = some (.cells #[.pointer (some ⟨gb, 0, none⟩)] 48 (0, 0)) ∧ wr.heap[w0.heap.size]? = some (.deferred (some []))) := fun X wr hI => by
      obtain ⟨a1, a2, a3, a4⟩ := HW.out
      refine ⟨?_, ?_, ?_, ?_, ?_⟩
      · rw [hI.new _ (by omega) (by omega) (by omega), a4 _ (by omega)]; exact HQ.out.1
      · rw [hI.new _ (by omega) (by omega) (by omega), a4 _ (by omega)]; exact HQ.out.2.1
      · rw [hI.new _ (by omega) (by omega) (by omega), a4 _ (by omega)]; exact HQ.out.2.2.1
      · rw [hI.new _ (by omega) (by omega) (by omega), a4 _ (by omega)]; exact HQ.out.2.2.2.1
      · rw [hI.new _ (by omega) (by omega) (by omega)]; exact a2
    have HY : Hid (∀ (X : Rnd) (k : Nat) (W : World), PkI w W1 l base top gb gD gS X W → W.heap[l]? = some (.loop (rc .ready none)) → X.Ok → Picks k X X1 c s → c0 < X.nQ → X.L c0 ≠ 0 →
        ∃ tm asg bod, (Instr.yield l #[.int .i64 X.turn]).run Try.prog W = .ok (.round l fn tm asg bod) W ∧ RoundIn Fence.wide 6 Try.prog l fn tm asg bod W (YR w W1 l base top gb gD gS c0 rc X1 c s w0.heap.size X)) := by
      intro X k W hI hlr hO hPk hcq hL
      refine ⟨_, _, _, yield_sh (n := 6) trivial (by rw [← hrc]; exact hlr) rfl _ ?_⟩
      rw [← hrc]
      obtain ⟨tn, htn⟩ := Int.eq_ofNat_of_zero_le hO.t.1
      have hnow : X.now = tn := by unfold Rnd.now; omega
      rw [htn]
      have hn4 : X.nQ ≤ 4 := hO.n.2
      have hcn : tn < X.nQ := by have := hO.t.2; omega
      have hwl : w.heap.size + 2 < l := by omega
      have hltl : l < W.heap.size := (Array.getElem?_eq_some_iff.1 hlr).1
      have hIb := hI.put hlr rfl (by omega) (.loop (rc .busy none))
      have hlb : (W.putObj l (.loop (rc .busy none))).heap[l]? = some (.loop (rc .busy none)) := World.putObj_heap_same hltl
      have HHl : Hid (W.heap[l]? = some (.loop (rc .ready none))) := hlr
      have HD0 : Hid (l ≠ w0.heap.size) := by rw [Hid]; omega
      have f38 : Fence.wide.fn 41 := trivial
      clear hrc hlr hI hl hq5 e1 hW1
      gi_wp2
      refine ⟨HHl.out, ?_⟩
      clear HHl hltl
      generalize W.putObj l (.loop (rc .busy none)) = Wb at *
      obtain ⟨kb1, kb2, kb3, kb4, kb5⟩ := HB.out X Wb hIb
      have HIb : Hid (PkI w W1 l base top gb gD gS X Wb) := hIb
      have HLb : Hid (Wb.heap[l]? = some (.loop (rc .busy none))) := hlb
      have HK2 : Hid (Wb.heap[w.heap.size + 1]? = some (.cells #[.int .i64 0] 2 (0, 0))) := kb2
      have HK3 : Hid (Wb.heap[w.heap.size + 1 + 1]? = some (.cells #[.int .i64 0] 2 (0, 0))) := kb3
      have HK5 : Hid (Wb.heap[w0.heap.size]? = some (.deferred (some []))) := kb5
      have cbp := blk_cell kb1 0
      have HOx : Hid X.Ok := hO
      have HTn : Hid (X.turn = (tn : Int)) := htn
      have HNow : Hid (X.now = tn) := hnow
      have HLx : Hid (X.L c0 ≠ 0) := hL
      have hltb : l < Wb.heap.size := (Array.getElem?_eq_some_iff.1 hlb).1
      clear hIb hlb kb1 kb2 kb3 kb4 kb5 hO htn hnow hL
      by_cases hn0 : X.L tn = 0
      · obtain ⟨k2, rfl, hPk2⟩ := hPk.skipInv (by rw [HNow.out]; exact hn0)
        have HE : Hid (YR w W1 l base top gb gD gS c0 rc X1 c s w0.heap.size X (.returned (.bool true)) (Wb.putObj l (.loop (rc .ready none)))) :=
          .inl ⟨rfl, World.putObj_heap_same hltb, X, k2, HIb.out.put HLb.out rfl (by omega) _, rfl, rfl, HOx.out.t, turn_ok HOx.out (fun hne => absurd (by rw [HNow.out]; exact hn0) hne), hPk2, left_skip HOx.out hcq HLx.out (by rw [HNow.out]; exact hn0)⟩
        have HN0 : Hid (X.L tn = 0) := hn0
        clear hn0 hPk hPk2
        gi_wp2_with (gi_at_call 41; refine (CallsIn.inRound l (callsIn_wide.2 (pickOf_none X base top gb gD gS tn Wb HIb.out.rep hcn hn4 HN0.out))).mono ?_; rintro e W2 ⟨rfl, rfl⟩)
        exact ⟨HLb.out, HE.out⟩
      · by_cases hsh : (grantR X).d tn < X.z tn 0
        · obtain ⟨k2, rfl, hPk2⟩ := hPk.shortInv (by rw [HNow.out]; exact hn0) (by rw [HNow.out]; exact hsh)
          have HN0 : Hid (X.L tn ≠ 0) := hn0
          have HSh : Hid ((grantR X).d tn < X.z tn 0) := hsh
          have HPk2 : Hid (Picks k2 (turnR (grantR X)) X1 c s) := hPk2
          clear hn0 hsh hPk hPk2
          gi_wp2_with (gi_at_call 41; refine (CallsIn.inRound l (callsIn_wide.2 (pickOf_short X base top gb gD gS tn Wb HIb.out.rep HOx.out HNow.out HTn.out HN0.out HSh.out))).mono ?_; rintro e W2 ⟨rfl, hR2, hT2⟩)
          have hI2 := HIb.out.next HLt.out hR2 hT2
          have hl2 : W2.heap[l]? = some (.loop (rc .busy none)) := (hT2.block l hltb (not3 HLt.out (by omega))).trans HLb.out
          have hz5 := (HOx.out.c tn hcn).2.1.2 0 (by have := HN0.out; omega)
          refine ⟨hl2, .inl ⟨rfl, World.putObj_heap_same (Array.getElem?_eq_some_iff.1 hl2).1, grantR X, k2, hI2.put hl2 rfl (by omega) _, grantR_nQ X, grantR_L X, by rw [grantR_turn, grantR_nQ]; exact HOx.out.t, turn_ok (grant_ok HOx.out (by rw [HNow.out]; exact HN0.out)) (fun _ => ?_), HPk2.out, left_short HOx.out hcq (by rw [HNow.out]; exact HN0.out) (by rw [HNow.out]; exact HSh.out)⟩⟩
          rw [grantR_now, HNow.out]
          have := HSh.out
          omega
        · have hle : X.z tn 0 ≤ (grantR X).d tn := by omega
          obtain ⟨eX, ec, es⟩ := hPk.takeInv (by rw [HNow.out]; exact hn0) (by rw [HNow.out]; exact hle)
          rw [HNow.out] at ec es
          have HX1 : Hid (X1 = takeR (grantR X)) := eX
          have Hc : Hid (c = tn) := ec
          have Hs : Hid (s = X.z tn 0) := es
          have HN0 : Hid (X.L tn ≠ 0) := hn0
          have HLe : Hid (X.z tn 0 ≤ (grantR X).d tn) := hle
          clear hn0 hsh hPk eX ec es hle
          gi_wp2_with (gi_at_call 41; refine (CallsIn.inRound l (callsIn_wide.2 (pickOf_take X base top gb gD gS tn Wb HIb.out.rep HOx.out HNow.out HTn.out HN0.out HLe.out))).mono ?_; rintro e W2 ⟨rfl, hex, hT2⟩; have kk2 := (hT2.block _ (blk_lt HK2.out) (not3 HLt.out (by omega))).trans HK2.out; have kk3 := (hT2.block _ (blk_lt HK3.out) (not3 HLt.out (by omega))).trans HK3.out; have cc2 := blk_cell kk2; have ff2 := blk_free kk2; have cc3 := blk_cell kk3; have ff3 := blk_free kk3)
          have hl2 : W2.heap[l]? = some (.loop (rc .busy none)) := (hT2.block l hltb (not3 HLt.out (by omega))).trans HLb.out
          have hd2 : W2.heap[w0.heap.size]? = some (.deferred (some [])) := (hT2.block _ (Array.getElem?_eq_some_iff.1 HK5.out).1 (not3 HLt.out (by have := HQ.out.2.2.2.2.1; omega))).trans HK5.out
          have hz0 : w0.heap.size = w.heap.size + 4 := HQ.out.2.2.2.2.1
          have hT3 : Touch [w.heap.size + 1, w.heap.size + 1 + 1] W2 ((W2.setCell ⟨w.heap.size + 1, 0, none⟩ (.int .i64 (tn : Int))).setCell ⟨w.heap.size + 1 + 1, 0, none⟩ (.int .i64 (X.z tn 0))) := ((Touch.refl _ _).set (by simp) 0 _).set (by simp) 0 _
          have hb2 := (blk_set_ne (i := 0) (show w.heap.size + 1 ≠ w.heap.size + 1 + 1 by omega) (.int .i64 (X.z tn 0))).trans (blk_set (i := 0) kk2 (.int .i64 (tn : Int)))
          have hb3 := blk_set (i := 0) ((blk_set_ne (i := 0) (show w.heap.size + 1 + 1 ≠ w.heap.size + 1 by omega) (.int .i64 (tn : Int))).trans kk3) (.int .i64 (X.z tn 0))
          have hT4 := HIb.out.touch.trans hT2
          generalize (W2.setCell ⟨w.heap.size + 1, 0, none⟩ (.int .i64 (tn : Int))).setCell ⟨w.heap.size + 1 + 1, 0, none⟩ (.int .i64 (X.z tn 0)) = W3 at *
          have hl3 : W3.heap[l]? = some (.loop (rc .busy none)) := (hT3.block l (Array.getElem?_eq_some_iff.1 hl2).1 (by simp; omega)).trans hl2
          have hd3 := (hT3.block w0.heap.size (Array.getElem?_eq_some_iff.1 hd2).1 (by simp; omega)).trans hd2
          obtain ⟨X', hA, hR'⟩ := hex
          have hR3 := hR'.touchNew hT3 (fun x hx => by have := HTop.out; simp at hx; omega)
          have hT5 : Touch [gb, gD, gS] w W3 := ⟨hT3.os.trans hT4.os, hT3.tape.trans hT4.tape, hT3.output.trans hT4.output, Nat.le_trans hT4.size hT3.size, fun k hk hn => (hT3.block k (by have := hT4.size; omega) (by simp; omega)).trans (hT4.block k hk hn)⟩
          have hPL : PkL w base top gb gD gS X1 c s w0.heap.size W3 := ⟨⟨X', by rw [HX1.out]; exact hA, hR3⟩, hT5, by rw [Hc.out]; exact hb2, by rw [Hs.out]; exact hb3, hd3⟩
          exact ⟨hl3, .inr ⟨rfl, World.putObj_heap_same (Array.getElem?_eq_some_iff.1 hl3).1, hPL.put hl3 rfl hwl HD0.out _⟩⟩
    rw [hW1, ← hl]
    have hwl : w.heap.size + 2 < l := by omega
    have HHl : Hid (∃ lo, l = lo) := ⟨_, rfl⟩
    have HD9 : Hid (∀ W, PkL w base top gb gD gS X1 c s w0.heap.size W → W.heap[l]? = some (.loop (rc .done (some .ret))) → (fun c' W => c' = .ret ∧ (∃ lo, W.heap[l]? = some lo ∧ lo.isCells = false) ∧ PkL w base top gb gD gS X1 c s w0.heap.size W) Code.ret W) := fun W hP hl9 => ⟨rfl, ⟨_, hl9, rfl⟩, hP⟩
    have HW1 : Hid (W1.heap[l]? = some (.loop (rc .ready none))) := HW.out.1
    have f43 : Fence.wide.fn 49 := trivial
    have f44 : Fence.wide.fn 50 := trivial
    have HLx : Hid (w.heap.size ≤ l) := by rw [Hid]; omega
    clear hrc hl hq5 e1 hW1 HHl HW f33
    refine callsIn_of_wp Try.func48 rfl trivial ?_ rfl
    simp only [Try.ntmps48, List.size_toArray, List.length_cons, List.length_nil, Nat.reduceAdd, Nat.reduceSub, Array.replicate_succ, Array.replicate_zero, List.push_toArray, List.append_toArray, List.nil_append, List.cons_append]
    gi_wp2
    gi_loopw [3] (fun _ wr => ∃ (X : Rnd) (k : Nat), PkI w W1 l base top gb gD gS X wr ∧ wr.heap[l]? = some (.loop (rc .ready none)) ∧ X.Ok ∧ Picks k X X1 c s ∧ X.nQ = X0.nQ ∧ X.L c0 ≠ 0) (fun _ wr => leftW X0.nQ gb gD c0 wr)
    case atStart => exact ⟨X0, k0, HI0.out, HW1.out, HOk.out, HP.out, rfl, HL0.out⟩
    case round =>
      obtain ⟨X, k, hI, hlr, hO, hPk, hnq, hL⟩ := hrel
      have HI : Hid (PkI w W1 l base top gb gD gS X wr) := hI
      have HLr : Hid (wr.heap[l]? = some (.loop (rc .ready none))) := hlr
      have HO : Hid X.Ok := hO
      have HPk : Hid (Picks k X X1 c s) := hPk
      have HNq : Hid (X.nQ = X0.nQ) := hnq
      have HL : Hid (X.L c0 ≠ 0) := hL
      have HCq : Hid (c0 < X.nQ) := by rw [Hid, hnq]; exact HC0.out
      have cb := blk_cell hI.rep.box
      unfold Rnd.cells at cb
      have cc4 := blk_cell (HB.out X wr hI).2.2.2.1 0
      have HBt : Hid (true = true ↔ ∃ i, i < X.nQ ∧ X.L i ≠ 0) := ⟨fun _ => ⟨c0, HCq.out, HL.out⟩, fun _ => rfl⟩
      clear hI hlr hO hPk hnq hL
      gi_wp2_with (gi_at_call 49; refine (callsIn_wide.2 (somethingWaits_any X wr (ok_fit HO.out) HI.out.rep.own.rd (by rw [HO.out.d]; exact Nat.le_refl _) (by rw [HO.out.s]; exact Nat.le_refl _) true HBt.out)).mono ?_; rintro e w2 ⟨rfl, hb⟩; have hI2 := HI.out.up hb; have hl2 : w2.heap[l]? = some (.loop (rc .ready none)) := (hb.block l (Array.getElem?_eq_some_iff.1 HLr.out).1).trans HLr.out; have cb2 := blk_cell hI2.rep.box; unfold Rnd.cells at cb2; have cc42 := blk_cell (HB.out X w2 hI2).2.2.2.1 0; obtain ⟨tm, asg, bod, hy, hR⟩ := HY.out X k w2 hI2 hl2 HO.out HPk.out HCq.out HL.out; clear hb hI2 hl2 cb cc4)
      refine hR.mono ?_
      clear hR hy cb2 cc42
      rintro e W' (⟨rfl, hlW, Y, k2, hIY, hYq, hYL, hYt, hTo, hPk2, hlt⟩ | ⟨rfl, hlW, hPL⟩)
      · have cc5 := blk_cell (HB.out Y W' hIY).2.2.2.1 0
        have HIY : Hid (PkI w W1 l base top gb gD gS Y W') := hIY
        have HlW : Hid (W'.heap[l]? = some (.loop (rc .ready none))) := hlW
        have HYq : Hid (Y.nQ = X.nQ) := hYq
        have HYL : Hid (Y.L = X.L) := hYL
        have HTo : Hid (turnR Y).Ok := hTo
        have HPk2 : Hid (Picks k2 (turnR Y) X1 c s) := hPk2
        have Hlt : Hid (leftR (turnR Y) c0 < leftR X c0) := hlt
        have HYt : Hid (0 ≤ Y.turn ∧ Y.turn < Y.nQ) := hYt
        clear hIY hlW hYq hYL hTo hPk2 hlt hYt
        gi_wp2_with (gi_at_call 50; refine (callsIn_wide.2 (beginTurn_any Y base top gb gD gS W' HIY.out.rep (by rw [HYq.out]; exact HO.out.n.2) HYt.out)).mono ?_; rintro e W5 ⟨⟨v, rfl⟩, hR5, hT5⟩)
        have hT6 : Touch [gb, gD, gS] W' W5 := hT5.mono (fun x hx => by simp at hx; simp [hx])
        have hI5 := HIY.out.next HLt.out hR5 hT6
        have hl5 : W5.heap[l]? = some (.loop (rc .ready none)) := (hT6.block l (Array.getElem?_eq_some_iff.1 HlW.out).1 (not3 HLt.out HLx.out)).trans HlW.out
        have hq5 : (turnR Y).nQ = X0.nQ := by show Y.nQ = _; rw [HYq.out, HNq.out]
        have hm1 := hI5.rep.left (c0 := c0) (by rw [hq5]; exact HC0.out)
        have hm2 := HI.out.rep.left (c0 := c0) HCq.out
        rw [hq5] at hm1
        rw [HNq.out] at hm2
        have HQ5 : Hid ((turnR Y).nQ = X0.nQ) := hq5
        have HM1 : Hid (leftW X0.nQ gb gD c0 W5 = leftR (turnR Y) c0) := hm1
        have HM2 : Hid (leftW X0.nQ gb gD c0 wr = leftR X c0) := hm2
        clear hq5 hm1 hm2
        go_roundw
        case rel => exact ⟨turnR Y, k2, hI5, hl5, HTo.out, HPk2.out, HQ5.out, by show Y.L c0 ≠ 0; rw [HYL.out]; exact HL.out⟩
        case measure => rw [HM1.out, HM2.out]; exact Hlt.out
      · gi_wp2
        go_end0
        exact ⟨⟨_, rfl⟩, .inr ⟨.ret, ⟨rfl, ⟨_, hlW, rfl⟩, hPL⟩, hlW⟩⟩
end Go.Proofs.Ytnfcmiiibkbmfaa
