/- What a new switch is made of; a lane put behind the others. -/
import Derived.Test.YtaiodombphpcgaaSwA
import Derived.Laws.Tables
import Derived.Laws.Rows
namespace Go.Proofs.Ytaiodombphpcgaa
open Go.RowKit
set_option linter.unusedVariables false
set_option linter.unusedSimpArgs false

theorem infoS : (Try.prog.info? 35).map (·.size) = some 17 := by kernel_rfl
/-- a whole switch out of its block, and into one -/
theorem wpList_ldS {ops : Array Oper} {rest : List Oper} {o : Oper} {a : Act} {w : World} {Q : Exit → Act → World → Prop} (hg : o.guard = none) (x : Operand) (ho : o.op = .load 35 x) (g : Nat) (hx : a.eval x = .pointer (some ⟨g, 0, none⟩))
    (cs : Array Value) (hk : w.heap[g]? = some (.cells cs 35 (0, 0))) (hs : cs.size = 17) (h : wpList Try.prog ops Q rest (a.put o.dst (.agg cs)) w) : wpList Try.prog ops Q (o :: rest) a w :=
  wpList_plain hg fun _ hK => wp_load_row 35 x ho g hx 35 cs (0, 0) _ hk Try.underlying35 rfl (by rw [hs]; exact infoS) (hK _ _ h)
theorem wpList_stS {ops : Array Oper} {rest : List Oper} {o : Oper} {a : Act} {w : World} {Q : Exit → Act → World → Prop} (hg : o.guard = none) (x y : Operand) (ho : o.op = .store 35 x y) (g : Nat) (hx : a.eval x = .pointer (some ⟨g, 0, none⟩))
    (cs : Array Value) (hy : a.eval y = .agg cs) (old : Array Value) (hk : w.heap[g]? = some (.cells old 35 (0, 0))) (hs : cs.size = 17) (ho2 : old.size = 17) (h1 : cs.all (·.oneCell') = true) (h : wpList Try.prog ops Q rest (a.put o.dst undef) (w.setRow g cs)) : wpList Try.prog ops Q (o :: rest) a w :=
  wpList_plain hg fun _ hK => wp_store_row 35 x y ho g cs hx hy 35 old hk (by rw [hs]; exact infoS) (by omega) h1 (hK _ _ h)
theorem res_cellS {fn : Func} {i j : Tmp} (h : fn.results = #[.cell i 35, .tmp j]) (tmps : Array Value) (w : World) (g : Nat) (cs : Array Value) (hi : tmps[i]?.getD undef = .pointer (some ⟨g, 0, none⟩)) (hk : w.heap[g]? = some (.cells cs 35 (0, 0))) (hs : cs.size = 17) (v : Value) (hv : tmps[j]?.getD undef = v) :
    (results fn tmps).run Try.prog w = .ok (.tuple #[.agg cs, v]) w := by
  have := run_loadVar_row (P := Try.prog) w g 35 35 cs (0, 0) _ hk Try.underlying35 rfl (by rw [hs]; exact infoS)
  simp [results, h, hi, hv, asAddr, this]
theorem setRow_blk {w : World} {g : Nat} {old cs : Array Value} {t : TypeId} (h : w.heap[g]? = some (.cells old t (0, 0))) : (w.setRow g cs).heap[g]? = some (.cells cs t (0, 0)) := by
  simp [World.setRow, Array.getElem?_modify, h]
theorem setRow_touch (w : World) (g : Nat) (cs : Array Value) : Touch [g] w (w.setRow g cs) := ⟨rfl, rfl, rfl, by simp [World.setRow], fun k _ hn => by
  have : ¬ g = k := fun e => hn (by simp [e])
  simp [World.setRow, Array.getElem?_modify, this]⟩
def qf (i : Nat) : Int := if i = 0 then 2 else 4
theorem qf_ok : (newR 2 qf none 0 0 0).Ok := by
  refine ⟨⟨by decide, by decide⟩, rfl, rfl, ⟨by decide, by decide⟩, fun i hi => ⟨?_, ⟨Nat.zero_le _, fun j hj => ?_⟩, ?_⟩⟩
  · show 1 ≤ qf i ∧ qf i ≤ 10
    unfold qf
    split <;> exact ⟨by decide, by decide⟩
  · have hj : j < 0 := hj
    omega
  · show defP _ _ 0 _
    unfold defP
    rw [if_pos rfl]; rfl
theorem two_row (w : World) : RdRow (w.alloc (.cells #[.int .i64 2, .int .i64 4] 2)) (some ⟨w.heap.size, 0, none⟩) 2 fun i => .int .i64 (qf i) := by
  intro i hi
  refine ⟨w.heap.size, 0, rfl, ?_⟩
  rw [blk_cell (blk_new _ _)]
  match i, hi with
  | 0, _ => rfl
  | 1, _ => rfl
  | i + 2, hi => omega
theorem make_two (w : World) : (Instr.makeSlice 47 (.int .i64 2) (.int .i64 2)).run Try.prog w = .ok (.slice (some ⟨w.heap.size, 0, none⟩) 2 2) (w.alloc (.cells (zSls 2) 28)) := make_sls 2 (by omega) w
theorem two_vs {w : World} {base g : Nat} (hg : base ≤ g) (h : w.heap[g]? = some (.cells (zSls 2) 28 (0, 0))) : VS w base (some ⟨g, 0, none⟩) 2 fun _ => .slice none 0 0 := .inr ⟨g, rfl, hg, zSls_row h⟩
theorem VS.cut {w w' : World} {base : Nat} {a : Option Addr} {n : Nat} {F : Nat → Value} {S : List Nat} (h : VS w base a n F) (ht : Touch S w w') (hS : ∀ g arr, w.heap[g]? = some (.cells arr 28 (0, 0)) → g ∉ S) : VS w' base a n F := h.touchI ht hS
theorem grown_touch {W W' : World} {row : Option Nat} (h : W.grownBy W' row) : Touch row.toList W W' := ⟨h.os, h.tape, h.output, h.size, fun k hk hn => h.block k hk (fun e => hn (by rw [← e]; simp))⟩
theorem OwnLs.typed {w : World} {base n : Nat} {v : Value} {L : Nat → Ln} (h : OwnLs w base v n L) : ∀ x ∈ v.ownBlock.toList, base ≤ x ∧ ∃ arr, w.heap[x]? = some (.cells arr 51 (0, 0)) := by
  intro x hx
  rcases h.2 with ⟨h1, h2⟩ | ⟨g, cap, cur, hv, hg, hblk, _⟩
  · rw [h1] at hx
    simp [Value.ownBlock] at hx
  · rw [hv] at hx
    simp [Value.ownBlock] at hx
    subst hx
    exact ⟨hg, cur, hblk⟩
theorem MadeL.mono {w : World} {b0 n : Nat} {v : Value} {b : Nat → Nat} {L : Nat → Ln} (h : MadeL w b0 v n b L) {i j : Nat} (hij : i ≤ j) (hj : j ≤ n) : b i ≤ b j := by
  induction j with
  | zero => obtain rfl : i = 0 := by omega
            exact Nat.le_refl _
  | succ j ih =>
    by_cases e : i = j + 1
    · subst e; exact Nat.le_refl _
    · exact Nat.le_trans (ih (by omega) (by omega)) (h.bm j (by omega))
theorem MadeL.touchLo {w w' : World} {b0 n : Nat} {v : Value} {b : Nat → Nat} {L : Nat → Ln} {S : List Nat} (h : MadeL w b0 v n b L) (ht : Touch S w w') (hS : ∀ x ∈ S, x < b0) : MadeL w' b0 v n b L := by
  have hb : ∀ i, i < n → ∀ x ∈ S, x < b i := fun i hi x hx => by
    have := hS x hx
    have := h.mono (i := 0) (j := i) (by omega) (by omega)
    have := h.b0
    omega
  refine ⟨?_, fun i hi => (h.own i hi).touch ht (hb i hi), h.sh, fun i hi => (h.u i hi).imp id (by
    rintro ⟨g', ha, hg, hr⟩
    exact ⟨g', ha, hg, hr.keep (ht.block g' hr.lt (fun hx => by have := hb i hi g' hx; omega))⟩), h.hq, h.hd, h.bm, h.b0, Nat.le_trans h.bn ht.size⟩
  obtain ⟨h1, h2⟩ := h.row
  refine ⟨h1, h2.imp id ?_⟩
  rintro ⟨g, cap, cur, hv, hg, hblk, hr⟩
  exact ⟨g, cap, cur, hv, hg, (ht.block g (blk_lt hblk) (fun hx => by have := hS g hx; omega)).trans hblk, hr⟩
def upB (b : Nat → Nat) (k x i : Nat) : Nat := if i ≤ k then b i else x
theorem MadeL.next {W W' : World} {b0 k : Nat} {v v' : Value} {b : Nat → Nat} {L : Nat → Ln} (h : MadeL W b0 v k b L) (l : Ln) (hrow : OwnLs W' b0 v' (k + 1) (upd L k l)) (hg : W.grownBy W' v.ownBlock)
    (hR : OwnRn W (b k) l.R) (hsh : l.R.nQ = 2 ∧ l.R.nD = 2 ∧ l.R.nS = 2 ∧ ∀ j, l.R.L j = 0) (hU : VS W (b k) l.aU 2 fun _ => .slice none 0 0) : MadeL W' b0 v' (k + 1) (upB b k W'.heap.size) (upd L k l) := by
  have ht := grown_touch hg
  have hty := h.row.typed
  have hS : ∀ g arr, W.heap[g]? = some (.cells arr 28 (0, 0)) → g ∉ v.ownBlock.toList := fun g arr hb hx => by
    obtain ⟨_, arr2, h2⟩ := hty g hx
    rw [hb] at h2
    simp at h2
  have hI : ∀ {base : Nat} {a : Option Addr} {n : Nat} {f : Nat → Int}, VI W base a n f → ∀ x ∈ blkI a n, x ∉ v.ownBlock.toList := fun hv x hx hm => by
    obtain ⟨_, arr2, h2⟩ := hty x hm
    exact notInI hv (by decide) h2 hx
  have hO : ∀ {base : Nat} {R : Rnd}, OwnRn W base R → (∀ j, R.L j = 0) → OwnRn W' base R := fun hr hl => hr.off hl ht (hI hr.q) (hI hr.d) hS
  have hb : ∀ i, i < k + 1 → (upB b k W'.heap.size) i = b i := fun i hi => if_pos (by omega)
  have hbs : ∀ i, i < k → (upB b k W'.heap.size) (i + 1) = b (i + 1) := fun i hi => if_pos (by omega)
  have hbk : (upB b k W'.heap.size) (k + 1) = W'.heap.size := if_neg (by omega)
  refine ⟨hrow, ?_, ?_, ?_, ?_, ?_, ?_, ?_, ?_⟩
  · intro i hi
    rw [hb i hi]
    by_cases e : i = k
    · subst e; rw [upd_self]; exact hO hR hsh.2.2.2
    · rw [upd_ne _ _ _ e]; exact hO (h.own i (by omega)) (h.sh i (by omega)).2.2.2
  · intro i hi
    by_cases e : i = k
    · subst e; rw [upd_self]; exact hsh
    · rw [upd_ne _ _ _ e]; exact h.sh i (by omega)
  · intro i hi
    rw [hb i hi]
    by_cases e : i = k
    · subst e; rw [upd_self]; exact hU.touchI ht hS
    · rw [upd_ne _ _ _ e]; exact (h.u i (by omega)).touchI ht hS
  · intro i hi
    by_cases e : i = k
    · subst e
      rw [upd_self, hbk]
      exact fun x hx => Nat.lt_of_lt_of_le (hR.q.blk x hx).2 hg.size
    · rw [upd_ne _ _ _ e, hbs i (by omega)]; exact h.hq i (by omega)
  · intro i hi
    by_cases e : i = k
    · subst e
      rw [upd_self, hbk]
      exact fun x hx => Nat.lt_of_lt_of_le (hR.d.blk x hx).2 hg.size
    · rw [upd_ne _ _ _ e, hbs i (by omega)]; exact h.hd i (by omega)
  · intro i hi
    by_cases e : i = k
    · subst e
      rw [hb i hi, hbk]
      exact Nat.le_trans h.bn hg.size
    · rw [hb i hi, hbs i (by omega)]; exact h.bm i (by omega)
  · rw [hb 0 (by omega)]; exact h.b0
  · rw [hbk]; exact Nat.le_refl _
def freshL (l : Ln) : Prop := l.st = false ∧ Alike (newM 2 qf true) l.R
theorem freshL.sh {l : Ln} (h : freshL l) : l.R.nQ = 2 ∧ l.R.nD = 2 ∧ l.R.nS = 2 ∧ ∀ j, l.R.L j = 0 := ⟨h.2.nQ, h.2.nD, h.2.nS, fun j => by rw [h.2.l]; rfl⟩
theorem newM_small2 : (newM 2 qf true).Small := ⟨by decide, by decide, by decide, fun i _ => Nat.zero_le _⟩
theorem Alike.small2 {A B : Rnd} (h : Alike A B) (hs : A.Small) : B.Small := ⟨by rw [h.nQ]; exact hs.q, by rw [h.nD]; exact hs.d, by rw [h.nS]; exact hs.s, fun i hi => by rw [h.l]; exact hs.l i (by rw [← h.nS]; exact hi)⟩
def noLn : Nat → Ln := fun _ => ⟨false, none, 0, zR⟩
def zeroS : Sw := ⟨⟨0, 0, 0, 0, 0, 0, 0⟩, 0, zeroC, none, 0, 0, noLn⟩
/-- what SwitchNew answers -/
def NewS (w : World) (base : Nat) (C : Cfg) (n : Nat) (ok : Bool) (S : Sw) : Prop := match ok with
  | false => S = zeroS
  | true => S.C = C ∧ S.nx = 1 ∧ S.nL = n ∧ 1 ≤ n ∧ n ≤ 4 ∧ AlikeC (newC n true) S.N ∧ (∀ i, i < n → freshL (S.L i)) ∧ ∃ g b, OwnSw w base g b S
theorem NewS.up {w w' : World} {base n : Nat} {C : Cfg} {ok : Bool} {S : Sw} (h : NewS w base C n ok S) (hb : Below w.heap.size w w') : NewS w' base C n ok S := by
  cases ok
  · exact h
  · obtain ⟨h1, h2, h3, h4, h5, h6, h7, g, b, h8⟩ := h
    exact ⟨h1, h2, h3, h4, h5, h6, h7, g, b, h8.up hb⟩
theorem RdSw.zero (w : World) : RdSw w zeroS := ⟨(zeroC_own w 0).rd, RdLn.nil _ _ _, fun i hi => absurd hi (Nat.not_lt_zero i), fun i hi => absurd hi (Nat.not_lt_zero i)⟩
theorem NewS.rd {w : World} {base n : Nat} {C : Cfg} {ok : Bool} {S : Sw} (h : NewS w base C n ok S) : RdSw w S := by
  cases ok
  · obtain rfl : S = zeroS := h
    exact RdSw.zero w
  · obtain ⟨h1, h2, h3, h4, h5, h6, h7, g, b, h8⟩ := h
    exact h8.rd
theorem NewS.small {w : World} {base n : Nat} {C : Cfg} {ok : Bool} {S : Sw} (h : NewS w base C n ok S) : S.Small := by
  cases ok
  · obtain rfl : S = zeroS := h
    exact ⟨⟨Nat.zero_le _, Nat.zero_le _⟩, Nat.zero_le _, fun i hi => absurd hi (Nat.not_lt_zero i)⟩
  · obtain ⟨h1, h2, h3, h4, h5, h6, h7, g, b, h8⟩ := h
    exact ⟨h6.small (newC_small h5), by omega, fun i hi => (h7 i (by omega)).2.small2 newM_small2⟩
theorem NewS.alike {w w' : World} {base base' n : Nat} {C : Cfg} {ok : Bool} {S S' : Sw} (h : NewS w base C n ok S) (h' : NewS w' base' C n ok S') : AlikeS S S' := by
  cases ok
  · obtain rfl : S = zeroS := h
    obtain rfl : S' = zeroS := h'
    exact ⟨rfl, rfl, AlikeC.refl _, rfl, fun i hi => absurd hi (Nat.not_lt_zero i)⟩
  · obtain ⟨h1, h2, h3, h4, h5, h6, h7, g, b, h8⟩ := h
    obtain ⟨k1, k2, k3, k4, k5, k6, k7, g', b', k8⟩ := h'
    exact ⟨by rw [h1, k1], by rw [h2, k2], h6.symm.trans k6, by rw [h3, k3], fun i hi => ⟨by rw [(h7 i (by omega)).1, (k7 i (by omega)).1], (h7 i (by omega)).2.symm.trans (k7 i (by omega)).2⟩⟩
end Go.Proofs.Ytaiodombphpcgaa
