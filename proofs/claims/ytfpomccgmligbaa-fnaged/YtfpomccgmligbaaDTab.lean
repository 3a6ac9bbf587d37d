/- The reader's tables. -/
import Derived.Test.YtfpomccgmligbaaSLrn
import Derived.Test.YtfpomccgmligbaaRd2
namespace Go.Proofs.Ytfpomccgmligbaa
open Go.RowKit
set_option linter.unusedVariables false
set_option linter.unusedSimpArgs false

theorem OwnL.kept {g : Nat} {w w' : World} {base : Nat} {v : Value} {L : List Ent} (h : OwnL w base v L) (hK : Kept g w w') (hg : g < base) : OwnL w' base v L := by
  obtain ⟨h1, h2⟩ := h
  refine ⟨h1, h2.imp id ?_⟩
  rintro ⟨gg, cap, cur, hv, hgg, hblk, hr⟩
  exact ⟨gg, cap, cur, hv, hgg, (hK.block gg (blk_lt hblk) (by omega)).trans hblk, hr⟩
theorem LearnR.few {n : Nat} {f : Nat → Ent} {x : Ent} {A : List Ent} {b : Bool} (h : LearnR n f x A b) : A.length ≤ 8 := by
  by_cases hh : tabOk n f ∧ entOk x
  · rw [(h.good hh.1 hh.2).1]
    exact (learned_facts hh.1 hh.2).2.1
  · rw [(h.bad hh).1]; simp
theorem RdEnt.kept {g : Nat} {w w' : World} {a : Option Addr} {n : Nat} {f : Nat → Ent} (h : RdEnt w a n f) (hK : Kept g w w') (hne : ∀ b, a = some b → g < b.block) : RdEnt w' a n f := by
  intro i hi
  obtain ⟨gg, o, ha, h1, h2, h3⟩ := h i hi
  have hg := hne _ ha
  have key : ∀ {j : Nat} {v : Value}, w.cell? ⟨gg, j, none⟩ = some v → w'.cell? ⟨gg, j, none⟩ = some v := fun {j v} hv =>
    (World.cell?_of_block (w := w) (a := ⟨gg, j, none⟩) (hK.block gg (cellLt hv) (by have : g < gg := hg; omega))).trans hv
  exact ⟨gg, o, ha, key h1, key h2, key h3⟩
theorem OwnL.at_ {w : World} {base : Nat} {a : Option Addr} {n cap : Nat} {L : List Ent} (h : OwnL w base (.slice a n cap) L) : ∀ b, a = some b → base ≤ b.block := by
  intro b hb
  rcases h.row with ⟨e, _⟩ | ⟨gg, c, e, hg, _⟩
  · cases e
    cases hb
  · cases e
    cases hb
    exact hg
/-- the first entry's time written over -/
def setT (f : Nat → Ent) (x : Int) (i : Nat) : Ent := if i = 0 then ⟨(f 0).m, (f 0).p, x⟩ else f i
theorem ents_set {gg n : Nat} {t : TypeId} {f : Nat → Ent} {w : World} (h : RowTo gg t (n * 3) (flat f) (n * 3) w) (hn : 0 < n) (x : Int) : RdEnt (w.setCell ⟨gg, 2, none⟩ (.int .i64 x)) (some ⟨gg, 0, none⟩) n (setT f x) := by
  intro i hi
  obtain ⟨arr, hb, hsz, hc⟩ := h
  have hcell := blk_cell (blk_set (i := 2) hb (.int .i64 x))
  have hne : ∀ j, j < n * 3 → j ≠ 2 → (w.setCell ⟨gg, 2, none⟩ (.int .i64 x)).cell? ⟨gg, j, none⟩ = some (flat f j) := fun j hj h2 => by
    rw [hcell, Array.getElem?_setIfInBounds_ne (by omega)]
    exact hc j hj
  refine ⟨gg, 0, rfl, ?_, ?_, ?_⟩
  · rw [Nat.zero_add, hne (i * 3) (by omega) (by omega), flat0]
    unfold setT
    split <;> simp_all
  · rw [Nat.zero_add, hne (i * 3 + 1) (by omega) (by omega), flat1]
    unfold setT
    split <;> simp_all
  · rw [Nat.zero_add]
    by_cases e : i = 0
    · subst e
      rw [show 0 * 3 + 2 = 2 from rfl, hcell, Array.getElem?_setIfInBounds_self_of_lt (by omega)]
      rfl
    · rw [hne (i * 3 + 2) (by omega) (by omega), flat2]
      unfold setT
      rw [if_neg e]
set_option maxRecDepth 100000 in
set_option maxHeartbeats 4000000 in
theorem table_any (g : Nat) (cv : Value) (w : World) (h : Rd g cv w) :
    Calls Try.prog 17 #[.pointer (some ⟨g, 0, none⟩)] w fun e w' => ∃ (a : Option Addr) (n cap : Nat) (f : Nat → Ent), e = .returned (.slice a n cap) ∧ n ≤ 8 ∧ RdEnt w' a n f ∧ (∀ b, a = some b → g < b.block) ∧ Rd g cv w' ∧ Kept g w w' := by
  have hlt := h.lt
  have HLT : Hid (g < w.heap.size) := hlt
  have hR0 := h.alloc (.cells #[] 31)
  have hL0 := OwnL.empty w w.heap.size (Nat.le_refl _)
  have hK0 : Kept g w (w.alloc (.cells #[] 31)) := (Kept.refl _ _).alloc _
  clear h
  go_enter Try.func17, Try.ntmps17
  go_wp2_with fail
  generalize w.alloc (.cells #[] 31) = W0 at *
  refine (below_any g cv 12 _ hR0 (by omega) (by omega)).mono ?_
  rintro e w1 ⟨x, hx, rfl, hR1, hK1⟩
  have hL1 := hL0.kept hK1 hlt
  have hK1 := hK0.trans hK1
  clear hL0 hR0 hK0
  go_wp2_with fail
  go_loopw [3, 4] (fun v i wr => ∃ (k : Nat) (L : List Ent), k ≤ 12 ∧ i = .int .i64 k ∧ L.length ≤ 8 ∧ OwnL wr w.heap.size v L ∧ Rd g cv wr ∧ Kept g w wr) (fun _ i _ => (intOf i).toNat)
  case atStart => exact ⟨x, [], by omega, rfl, by simp, hL1, hR1, hK1⟩
  case round =>
    clear hL1 hR1 hK1
    obtain ⟨k, L, hk, rfl, hl, hL, hR, hK⟩ := hrel
    obtain ⟨a, cap, rfl, hrd⟩ := hL.read
    clear hrd
    have HL8 : Hid (L.length ≤ 8) := hl
    by_cases h0 : 0 < k
    · have h0' : (0 : Int) < k := by omega
      go_wp2_with fail
      refine (below_any g cv 12 _ hR (by omega) (by omega)).mono ?_
      rintro e w1 ⟨x1, hx1, rfl, hR1, hK1⟩
      replace hL := hL.kept hK1 HLT.out
      replace hK := hK.trans hK1
      clear hR hK1
      go_wp2_with fail
      refine (below_any g cv 4 _ hR1 (by omega) (by omega)).mono ?_
      rintro e w2 ⟨x2, hx2, rfl, hR2, hK2⟩
      replace hL := hL.kept hK2 HLT.out
      replace hK := hK.trans hK2
      clear hR1 hK2
      go_wp2_with fail
      refine (below_any g cv 30 _ hR2 (by omega) (by omega)).mono ?_
      rintro e w3 ⟨x3, hx3, rfl, hR3, hK3⟩
      replace hL := hL.kept hK3 HLT.out
      replace hK := hK.trans hK3
      clear hR2 hK3
      go_wp2_with fail
      obtain ⟨A, bb, hA⟩ := learnR L.length (fun i => L.getD i default) ⟨1 + (x1 : Int), (x2 : Int), (x3 : Int)⟩
      have HA : Hid (A.length ≤ 8) := hA.few
      obtain ⟨a', cap', ev, hrd⟩ := hL.read
      cases ev
      refine (sLearned_any a L.length cap _ _ _ _ A bb _ (by unfold maxLen; omega) hrd hA).mono ?_
      rintro e w4 ⟨v', rfl, hL', hb⟩
      have HLn : Hid (OwnL w4 w.heap.size v' A) := hL'.mono hK.size
      have HRn : Hid (Rd g cv w4) := hR3.below hb
      have HKn : Hid (Kept g w w4) := hK.trans (Kept.ofBelow hb)
      clear hL' hb hR3 hK hL hrd hA
      go_wp2_with fail
      go_roundw
      case rel => exact ⟨k - 1, A, by omega, by rw [show ((k - 1 : Nat) : Int) = (k : Int) - 1 by omega], HA.out, HLn.out, HRn.out, HKn.out⟩
      case measure => simp [intOf]; omega
    · obtain rfl : k = 0 := by omega
      go_wp2_with fail
      refine (once_any g cv 40 _ hR (by omega) (by omega)).mono ?_
      rintro e w1 ⟨x1, rfl, hR1, hK1⟩
      replace hL := hL.kept hK1 HLT.out
      replace hK := hK.trans hK1
      clear hR hK1
      have hAt : ∀ b, a = some b → g < b.block := fun b hb => by have := hL.at_ b hb; have := HLT.out; omega
      have HAt : Hid (∀ b, a = some b → g < b.block) := hAt
      cases x1
      · obtain ⟨a', cap', ev, hrd⟩ := hL.read
        cases ev
        clear hAt
        go_wp2_with fail
        go_ret
        exact ⟨_, _, _, _, rfl, hl, hrd, HAt.out, hR1, hK⟩
      · by_cases hn : 0 < L.length
        · have hn' : (0 : Int) < L.length := by omega
          rcases hL.row with ⟨ev, e0⟩ | ⟨gg, c, ev, hgg, hrow⟩
          · rw [e0] at hn
            simp at hn
          cases ev
          have HGG : Hid (w.heap.size ≤ gg) := hgg
          have HN : Hid (0 < L.length) := hn
          clear hAt hgg hL
          go_wp2_with fail
          refine (off_any g cv 0 9 _ hR1 (by omega) (by omega) (by omega)).mono ?_
          rintro e w2 ⟨x2, rfl, hR2, hK2, _, _⟩
          have hgne : gg ≠ g := by have := HGG.out; have := HLT.out; omega
          have hrow2 := hrow.keep (hK2.block gg hrow.lt hgne)
          replace hK := hK.trans hK2
          have c2 := hrow2.at 2 (by omega)
          have f2 := hrow2.free 2
          have HF : Hid (RdEnt (w2.setCell ⟨gg, 2, none⟩ (.int .i64 x2)) (some ⟨gg, 0, none⟩) L.length (setT (fun i => L.getD i default) x2)) := ents_set hrow2 HN.out x2
          have HR : Hid (Rd g cv (w2.setCell ⟨gg, 2, none⟩ (.int .i64 x2))) := hR2.setNew (by have := HGG.out; have := HLT.out; omega) 2 _
          have HK : Hid (Kept g w (w2.setCell ⟨gg, 2, none⟩ (.int .i64 x2))) := hK.setNew HGG.out 2 _
          clear hrow hrow2 hK hK2 hR2 hR1 hgne
          go_wp2_with fail
          go_ret
          exact ⟨_, _, _, _, rfl, HL8.out, HF.out, HAt.out, HR.out, HK.out⟩
        · have hn' : ¬ (0 : Int) < L.length := by omega
          obtain ⟨a', cap', ev, hrd⟩ := hL.read
          cases ev
          clear hAt
          go_wp2_with fail
          go_ret
          exact ⟨_, _, _, _, rfl, hl, hrd, HAt.out, hR1, hK⟩
theorem Code.upT {w w' : World} {cv : Value} {len : Nat} (h : Code w.heap.size cv len w) (hb : Below w.heap.size w w') : Code w'.heap.size cv len w' := by
  rcases h with h | ⟨b, off, cap, hv, hb1, hl, hc⟩
  · exact .inl h
  · refine .inr ⟨b, off, cap, hv, Nat.lt_of_lt_of_le hb1 hb.size, hl, fun i hi => ?_⟩
    obtain ⟨z, hz, he⟩ := hc i hi
    exact ⟨z, hz, (World.cell?_of_block (w := w) (a := ⟨b, off + i, none⟩) (hb.block b hb1)).trans he⟩
theorem drawAged_any (cv : Value) (len : Nat) (w : World) (h : Code w.heap.size cv len w) (hs : ∃ a n c, cv = .slice a n c) :
    Calls Try.prog 12 #[cv] w fun e w' => ∃ (a : Option Addr) (n cap : Nat) (f : Nat → Ent) (x : Nat), e = .returned (.tuple #[.slice a n cap, .int .i64 x]) ∧ x < 60 ∧ n ≤ 8 ∧ RdEnt w' a n f ∧ Below w.heap.size w w' := by
  obtain ⟨a0, n0, c0, rfl⟩ := hs
  generalize hcv : Value.slice a0 n0 c0 = cv at *
  go_enter Try.func12, Try.ntmps12
  go_wp2_with fail
  refine (open_any cv len _ h ⟨a0, n0, c0, hcv.symm⟩).mono ?_
  rintro e w1 ⟨rfl, hR, hb⟩
  clear h
  go_wp2_with fail
  refine (table_any w.heap.size cv _ hR).mono ?_
  rintro e w2 ⟨a, n, cap, f, rfl, hn, hrd, hat, hR2, hK2⟩
  have hB2 := hb.trans (hK2.below hb.size (Nat.le_refl _))
  clear hR hb hK2
  go_wp2_with fail
  refine (below_any w.heap.size cv 60 _ hR2 (by omega) (by omega)).mono ?_
  rintro e w3 ⟨x, hx, rfl, hR3, hK3⟩
  have hB3 := hB2.trans (hK3.below hB2.size (Nat.le_refl _))
  have hrd3 := hrd.kept hK3 hat
  clear hR2 hR3 hK3 hrd hB2
  go_wp2_with fail
  go_ret2
  exact ⟨a, n, cap, f, x, rfl, by omega, hn, hrd3, hB3⟩
end Go.Proofs.Ytfpomccgmligbaa
