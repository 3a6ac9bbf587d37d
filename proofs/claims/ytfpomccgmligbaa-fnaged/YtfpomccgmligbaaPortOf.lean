/- Where an address is known to be: the program's answer. -/
import Derived.Test.YtfpomccgmligbaaByMac
import Derived.Test.YtfpomccgmligbaaTabOk
namespace Go.Proofs.Ytfpomccgmligbaa
open Go.RowKit
set_option linter.unusedVariables false
set_option linter.unusedSimpArgs false

theorem isStale_any (m p t now : Int) (w : World) (h0 : 0 ≤ t) (h1 : t ≤ 1000000000) (h2 : 0 ≤ now) (h3 : now ≤ 1000000000) :
    Calls Try.prog 29 #[.agg #[.int .i64 m, .int .i64 p, .int .i64 t], .int .i64 now] w fun e w' => e = .returned (.bool (decide (20 < now - t))) ∧ Below w.heap.size w w' := by
  have hw : IntKind.i64.wrap (now - t) = now - t := wrapE _ (by omega) (by omega)
  go_enter Try.func29, Try.ntmps29
  go_wp2_with fail
  go_ret
  exact ⟨rfl, (Below.refl _ _).alloc (Nat.le_refl _) _⟩

theorem lookE {w : World} {b n : Nat} {L : List Ent} {k : Int} (h : OwnsE w b n L) (h0 : -9223372036854775808 ≤ k) (h1 : k ≤ 9223372036854775807) :
    (Instr.lookup 44 (.map (some b)) (.int .i64 k) true).run Try.prog w = .ok (.tuple #[.agg #[.int .i64 (atM k L).m, .int .i64 (atM k L).p, .int .i64 (atM k L).t], .bool (hasM k L)]) w := by
  obtain ⟨v, ps, hrun, hv⟩ := h.look_ok keyedI Try.underlying44 (Try.zeroValue31 w) (entElem_mk ⟨0, 0, 0⟩) (keyI h0 h1)
  rw [mD_at] at hv
  rw [mD_has] at hrun
  rw [hrun, entElem_inv hv]; rfl
theorem atM_mem {k : Int} {L : List Ent} (h : hasM k L = true) : atM k L ∈ L ∧ (atM k L).m = k := by
  unfold hasM at h
  unfold atM
  induction L with
  | nil => simp at h
  | cons y r ih =>
    by_cases e : y.m = k
    · simp [List.find?_cons, e]
    · simp only [List.any_cons, e, decide_false, Bool.false_or] at h
      obtain ⟨h1, h2⟩ := ih h
      simp only [List.find?_cons, e, decide_false]
      exact ⟨List.mem_cons_of_mem _ h1, h2⟩
theorem entsL_ok {n : Nat} {f : Nat → Ent} (h : entsOk n f) {y : Ent} (hy : y ∈ entsL n f) : entOk y := by
  obtain ⟨i, hi, rfl⟩ := List.mem_map.1 hy
  exact (h i (List.mem_range.1 hi)).1
def timeOk (now : Int) : Prop := 0 ≤ now ∧ now ≤ 1000000000
def portS (L : List Ent) (mac now : Int) : Int := if hasM mac L = true ∧ now - (atM mac L).t ≤ 20 then (atM mac L).p else -1
structure PortR (n : Nat) (f : Nat → Ent) (mac now r : Int) : Prop where
  good : tabOk n f → timeOk now → r = portS (entsL n f) mac now
  bad : ¬ (tabOk n f ∧ timeOk now) → r = -1
theorem portR (n : Nat) (f : Nat → Ent) (mac now : Int) : ∃ r, PortR n f mac now r := by
  by_cases h : tabOk n f ∧ timeOk now
  · exact ⟨_, fun _ _ => rfl, fun h' => absurd h h'⟩
  · exact ⟨-1, fun h1 h2 => absurd ⟨h1, h2⟩ h, fun _ => rfl⟩

set_option maxHeartbeats 1000000 in
theorem iPortOf_any (a : Option Addr) (n cap : Nat) (f : Nat → Ent) (mac now r : Int) (w : World) (hn : n ≤ maxLen) (h : RdEnt w a n f) (k0 : -9223372036854775808 ≤ mac) (k1 : mac ≤ 9223372036854775807) (hr : PortR n f mac now r) :
    Calls Try.prog 11 #[.slice a n cap, .int .i64 mac, .int .i64 now] w fun e w' => e = .returned (.int .i64 r) ∧ Below w.heap.size w w' := by
  have HR : Hid (RdEnt w a n f) := h
  have HP : Hid (PortR n f mac now r) := hr
  obtain ⟨ok, hok⟩ := tab_dec n f
  have HO : Hid (ok = true ↔ tabOk n f) := hok
  clear h hr hok
  go_enter Try.func11, Try.ntmps11
  go_wp2_with fail
  refine (iTableOk_any a n cap f _ hn HR.out ok HO.out).mono ?_
  rintro e w1 ⟨rfl, B1⟩
  cases ok
  · have HF : Hid (r = -1) := HP.out.bad (fun hh => absurd (HO.out.2 hh.1) (by simp))
    go_wp2_with fail
    go_ret
    exact ⟨ret_int HF.out.symm, B1⟩
  · have HT : Hid (tabOk n f) := HO.out.1 rfl
    go_wp2_with fail
    refine (isTime_any _ _).mono ?_
    rintro e w' ⟨rfl, rfl⟩
    by_cases ht : 0 ≤ now ∧ now ≤ 1000000000
    · have HTm : Hid (timeOk now) := ht
      rw [decide_eq_true ht]
      clear ht
      go_wp2_with fail
      refine (byMac_any a n cap f _ HT.out (HR.out.up B1)).mono ?_
      rintro e w2 ⟨rfl, hown, hb2⟩
      have B2 := B1.trans (hb2.mono B1.size)
      have hlk := lookE hown k0 k1
      clear hb2
      have HA : Hid (∀ ob, Below w.heap.size w (w2.alloc ob)) := fun ob => B2.alloc B2.size _
      cases hh : hasM mac (entsL n f)
      · rw [hh] at hlk
        have HF : Hid (r = -1) := by
          rw [Hid, HP.out.good HT.out HTm.out, portS, if_neg (by rw [hh]; simp)]
        generalize atM mac (entsL n f) = x at *
        clear hh hown
        go_wp2_with fail
        go_ret
        exact ⟨ret_int HF.out.symm, HA.out _⟩
      · rw [hh] at hlk
        have hx := entsL_ok HT.out.2 (atM_mem hh).1
        have HQ : Hid (r = if now - (atM mac (entsL n f)).t ≤ 20 then (atM mac (entsL n f)).p else -1) := by
          rw [Hid, HP.out.good HT.out HTm.out, portS, hh]; simp
        generalize atM mac (entsL n f) = x at *
        obtain ⟨m, p, t⟩ := x
        have h20 := HTm.out
        obtain ⟨x1, x2, x3⟩ := hx
        dsimp only at x1 x2 x3 hlk HQ
        clear hh hown
        go_wp2_with fail
        have cb := blk_cell (blk_new w2 (.cells #[.int .i64 m, .int .i64 p, .int .i64 t] 31))
        refine (isStale_any m p t now _ x3.1 x3.2 h20.1 h20.2).mono ?_
        rintro e w3 ⟨rfl, hb3⟩
        have B3 : Below w.heap.size w w3 := (HA.out _).trans (hb3.mono (HA.out _).size)
        have cb := fun i => (hb3.cell (p := ⟨w2.heap.size, i, none⟩) (by simp)).trans (cb i)
        by_cases hs : 20 < now - t
        · have HF : Hid (r = -1) := by rw [Hid, HQ.out, if_neg (by omega)]
          rw [decide_eq_true hs]
          clear hs hb3 hlk HQ x1 x2 x3 h20
          go_wp2_with fail
          go_ret
          exact ⟨ret_int HF.out.symm, B3⟩
        · have HF : Hid (r = p) := by rw [Hid, HQ.out, if_pos (by omega)]
          rw [decide_eq_false hs]
          clear hs hb3 hlk HQ x1 x2 x3 h20
          go_wp2_with fail
          go_ret
          exact ⟨ret_int HF.out.symm, B3⟩
    · have HF : Hid (r = -1) := HP.out.bad (fun hh => ht hh.2)
      rw [decide_eq_false ht]
      clear ht
      go_wp2_with fail
      go_ret
      exact ⟨ret_int HF.out.symm, B1⟩
end Go.Proofs.Ytfpomccgmligbaa
