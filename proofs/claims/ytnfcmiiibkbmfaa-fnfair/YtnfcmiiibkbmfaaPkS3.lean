/- What the specification picks, from any right round of which something waits. -/
import Derived.Test.YtnfcmiiibkbmfaaPkC
import Derived.Test.YtnfcmiiibkbmfaaRnMkR
namespace Go.Proofs.Ytnfcmiiibkbmfaa
open Go.RowKit
set_option linter.unusedVariables false
set_option linter.unusedSimpArgs false

set_option maxRecDepth 100000 in
set_option maxHeartbeats 1000000 in
theorem l4Picked_any (R : Rnd) (w : World) (hs : R.Small) (h : RdRnd w R) (ho : R.Ok) (c0 : Nat) (hc0 : c0 < R.nQ) (hl0 : R.L c0 ≠ 0) (k : Nat) (R' : Rnd) (x : Nat) (s : Int) (hp : Picks k R R' x s) :
    Calls Try.prog 27 #[.agg R.cells] w fun e w' => ∃ M, e = .returned (.tuple #[.agg M.cells, .int .i64 x, .int .i64 s]) ∧ OwnRn w' w.heap.size M ∧ Below w.heap.size w w' ∧ Alike R' M := by
  obtain ⟨aQ, nQ, cQ, q, aD, nD, cD, d, turn, fresh, aS, nS, cS, A, L, C, z⟩ := R
  have HO : Hid (Rnd.Ok ⟨aQ, nQ, cQ, q, aD, nD, cD, d, turn, fresh, aS, nS, cS, A, L, C, z⟩) := ho
  have HSm : Hid (Rnd.Small ⟨aQ, nQ, cQ, q, aD, nD, cD, d, turn, fresh, aS, nS, cS, A, L, C, z⟩) := hs
  have HRd : Hid (RdRnd w ⟨aQ, nQ, cQ, q, aD, nD, cD, d, turn, fresh, aS, nS, cS, A, L, C, z⟩) := h
  have HP : Hid (Picks k ⟨aQ, nQ, cQ, q, aD, nD, cD, d, turn, fresh, aS, nS, cS, A, L, C, z⟩ R' x s) := hp
  have hsS : nS ≤ 1048576 := hs.s
  have HnS : Hid (nS = nQ) := ho.s
  have HC0 : Hid (c0 < nQ ∧ L c0 ≠ 0) := ⟨hc0, hl0⟩
  have HRow : Hid (RdRow w aS nS fun i => .slice (A i) (L i) (C i)) := h.s
  have HLm : Hid (∀ i, i < nS → L i ≤ 1048576) := hs.l
  have hB : Below (w.heap.size + 2) ((w.alloc (.cells #[.slice aQ nQ cQ, .slice aD nD cD, .int .i64 turn, .bool fresh, .slice aS nS cS] 27)).alloc (.cells #[.slice none 0 0, .slice none 0 0, .int .i64 0, .bool false, .slice none 0 0] 27)) ((w.alloc (.cells #[.slice aQ nQ cQ, .slice aD nD cD, .int .i64 turn, .bool fresh, .slice aS nS cS] 27)).alloc (.cells #[.slice none 0 0, .slice none 0 0, .int .i64 0, .bool false, .slice none 0 0] 27)) := Below.refl _ _
  have cb := boxed2p hB
  clear hs h ho hp hc0 hl0
  unfold Rnd.cells
  dsimp only
  go_enter Try.func27, Try.ntmps27
  go_wp2_with fail
  go_loop [5, 6] (fun bv i => ∃ (j : Nat) (b : Bool), j ≤ nS ∧ i = .int .i64 j ∧ bv = .bool b ∧ (b = true ↔ ∃ i, i < j ∧ L i ≠ 0)) (fun _ i => nS - (intOf i).toNat)
  case atStart => exact ⟨0, false, Nat.zero_le _, rfl, rfl, by simp⟩
  case round =>
    obtain ⟨j, b, hj, rfl, rfl, hb⟩ := hrel
    have HBb : Hid (b = true ↔ ∃ i, i < j ∧ L i ≠ 0) := hb
    clear hb
    by_cases hlt : j < nS
    · have hlt' : (j : Int) < nS := by omega
      obtain ⟨g, o, rfl, s1⟩ := (HRow.out.up (under2p hB)) j hlt
      dsimp only at s1
      have hLj := HLm.out j hlt
      cases b
      · have HBn : Hid (decide (0 < L j) = true ↔ ∃ i, i < j + 1 ∧ L i ≠ 0) := by
          rw [Hid, decide_eq_true_eq]
          constructor
          · intro h0
            exact ⟨j, by omega, by omega⟩
          · rintro ⟨i, hi, hl⟩
            by_cases e : i = j
            · subst e; omega
            · exact absurd (HBb.out.2 ⟨i, by omega, hl⟩) (by simp)
        clear HBb
        go_wp2_with fail
        go_round
        case rel => exact ⟨j + 1, _, by omega, by go_num, rfl, HBn.out⟩
        case measure => simp [intOf]; omega
      · have HBn : Hid (true = true ↔ ∃ i, i < j + 1 ∧ L i ≠ 0) := by
          refine ⟨fun _ => ?_, fun _ => rfl⟩
          obtain ⟨i, hi, hl⟩ := HBb.out.1 rfl
          exact ⟨i, by omega, hl⟩
        clear HBb
        go_wp2_with fail
        go_round
        case rel => exact ⟨j + 1, true, by omega, by go_num, rfl, HBn.out⟩
        case measure => simp [intOf]; omega
    · obtain rfl : j = nS := by omega
      obtain rfl : b = true := HBb.out.2 ⟨c0, by have := HC0.out.1; have := HnS.out; omega, HC0.out.2⟩
      have hjj : ¬ ((j : Nat) : Int) < ((j : Nat) : Int) := by omega
      clear HBb
      go_wp2_with fail
      refine (l4Copy_any ⟨aQ, nQ, cQ, q, aD, nD, cD, d, turn, fresh, aS, j, cS, A, L, C, z⟩ _ HSm.out (HRd.out.up (under2p hB))).mono ?_
      rintro e w3 ⟨aq, cq, ad, cd, av, cv, A2, C2, rfl, hOw, hb⟩
      replace hB := next2p hB hb
      have hnq : nD = nQ := HO.out.d
      have hn1 := HO.out.n
      have hdv := hOw.own.d
      obtain ⟨gD, rfl⟩ : ∃ gD, ad = some ⟨gD, 0, none⟩ := by
        rcases hdv with h0 | ⟨g, hg, _⟩
        · have : nD = 0 := h0
          dsimp only at hn1
          omega
        · exact ⟨g, hg⟩
      have hB3 := hB
      have hA := (Below.refl w3.heap.size w3).alloc (Nat.le_refl _) (.cells #[.slice aq nQ cq, .slice (some ⟨gD, 0, none⟩) nD cd, .int .i64 turn, .bool fresh, .slice av j cv] 27)
      have kb := blk_new w3 (.cells #[.slice aq nQ cq, .slice (some ⟨gD, 0, none⟩) nD cd, .int .i64 turn, .bool fresh, .slice av j cv] 27)
      have hOw2 := hOw.own.up hA
      replace hB := next2p hB hA
      have hcap : ∀ i, i < j → L i ≤ C2 i := fun i hi => by
        rcases (hOw.z i hi).2 with ⟨e, h0⟩ | ⟨g, cap, cur, e, hg, hbk, hnc, _⟩
        · have h0' : L i = 0 := h0
          omega
        · injection e with e1 e2 e3
          have e3' : C2 i = cap := e3
          have hnc' : L i ≤ cap := hnc
          omega
      clear hb hA hOw hdv hnq hn1
      dsimp only [Rnd.cells, Rnd.cp2]
      go_wp2_with fail
      generalize w3.alloc (.cells #[.slice aq nQ cq, .slice (some ⟨gD, 0, none⟩) nD cd, .int .i64 turn, .bool fresh, .slice av j cv] 27) = w4 at *
      have hgb : w.heap.size + 2 ≤ w3.heap.size := by have := upper2p hB3; omega
      clear hB3
      generalize w3.heap.size = gb at *
      have hbase : ((w.alloc (.cells #[.slice aQ nQ cQ, .slice aD nD cD, .int .i64 turn, .bool fresh, .slice aS j cS] 27)).alloc (.cells #[.slice none 0 0, .slice none 0 0, .int .i64 0, .bool false, .slice none 0 0] 27)).heap.size = w.heap.size + 2 := by simp
      have hrep : Rep w4 (w.heap.size + 2) gb gD (Rnd.cp2 ⟨aQ, nQ, cQ, q, aD, nD, cD, d, turn, fresh, aS, j, cS, A, L, C, z⟩ aq cq (some ⟨gD, 0, none⟩) cd av cv A2 C2) (Rnd.cp2 ⟨aQ, nQ, cQ, q, aD, nD, cD, d, turn, fresh, aS, j, cS, A, L, C, z⟩ aq cq (some ⟨gD, 0, none⟩) cd av cv A2 C2) := ⟨kb, hOw2.mono (by omega), Alike.refl _, rfl, hcap⟩
      obtain ⟨R2, hp2, ha2⟩ := HP.out.like (B := (Rnd.cp2 ⟨aQ, nQ, cQ, q, aD, nD, cD, d, turn, fresh, aS, j, cS, A, L, C, z⟩ aq cq (some ⟨gD, 0, none⟩) cd av cv A2 C2)) ⟨rfl, rfl, rfl, rfl, rfl, rfl, rfl, rfl, rfl⟩
      have hok2 : Rnd.Ok (Rnd.cp2 ⟨aQ, nQ, cQ, q, aD, nD, cD, d, turn, fresh, aS, j, cS, A, L, C, z⟩ aq cq (some ⟨gD, 0, none⟩) cd av cv A2 C2) := ⟨HO.out.n, HO.out.d, HO.out.s, HO.out.t, HO.out.c⟩
      have hst : ∃ (k : Nat) (cur R2 : Rnd), Picks k cur R2 x s ∧ Alike R' R2 ∧ cur.Ok ∧ cur.nQ = nQ ∧ cur.L c0 ≠ 0 ∧ Rep w4 (w.heap.size + 2) gb gD cur cur ∧ Below (w.heap.size + 2) ((w.alloc (.cells #[.slice aQ nQ cQ, .slice aD nD cD, .int .i64 turn, .bool fresh, .slice aS j cS] 27)).alloc (.cells #[.slice none 0 0, .slice none 0 0, .int .i64 0, .bool false, .slice none 0 0] 27)) w4 := ⟨k, _, R2, hp2, ha2, hok2, rfl, HC0.out.2, hrep, hB⟩
      have hc0n := HC0.out.1
      have Hc0 : Hid (c0 < nQ) := hc0n
      have Hgb : Hid (w.heap.size + 2 ≤ gb) := hgb
      clear hcap hbase hrep hp2 ha2 R2 hok2 kb hOw2 hB HP HO HSm HRd HC0 HRow HLm HnS hc0n hgb
      go_loopw [8] (fun _ wr => ∃ (k : Nat) (cur R2 : Rnd), Picks k cur R2 x s ∧ Alike R' R2 ∧ cur.Ok ∧ cur.nQ = nQ ∧ cur.L c0 ≠ 0 ∧ Rep wr (w.heap.size + 2) gb gD cur cur ∧ Below (w.heap.size + 2) ((w.alloc (.cells #[.slice aQ nQ cQ, .slice aD nD cD, .int .i64 turn, .bool fresh, .slice aS j cS] 27)).alloc (.cells #[.slice none 0 0, .slice none 0 0, .int .i64 0, .bool false, .slice none 0 0] 27)) wr) (fun _ wr => leftW nQ gb gD c0 wr)
      case atStart => exact hst
      case round =>
        obtain ⟨k1, cur, R2, hp, ha, hok, hn, hl, hrep, hBr⟩ := hrel
        obtain ⟨aQ1, nQ1, cQ1, q1, aD1, nD1, cD1, d1, t1, f1, aS1, nS1, cS1, A1, L1, C1, z1⟩ := cur
        obtain rfl : aD1 = some ⟨gD, 0, none⟩ := hrep.ad
        obtain ⟨gS, rfl⟩ : ∃ gS, aS1 = some ⟨gS, 0, none⟩ := by
          rcases hrep.own.s with h0 | ⟨g, hg, _⟩
          · have h1 : nS1 = nQ1 := hok.s
            have h2 := hok.n.1
            have h3 : nS1 = 0 := h0
            dsimp only at h2
            omega
          · exact ⟨g, hg⟩
        obtain ⟨tn, rfl⟩ : ∃ tn : Nat, t1 = (tn : Int) := ⟨t1.toNat, by have h1 : 0 ≤ t1 := hok.t.1; omega⟩
        obtain ⟨gq, rfl⟩ : ∃ gq, aQ1 = some ⟨gq, 0, none⟩ := by
          rcases hrep.own.q with h0 | ⟨g, hg, _⟩
          · have h2 := hok.n.1
            have h3 : nQ1 = 0 := h0
            dsimp only at h2
            omega
          · exact ⟨g, hg⟩
        obtain rfl : nQ = nQ1 := hn.symm
        have htQ : (tn : Int) < nQ := hok.t.2
        have htS : (tn : Int) < nS1 := by have h1 : nS1 = nQ := hok.s; omega
        have htD : (tn : Int) < nD1 := by have h1 : nD1 = nQ := hok.d; omega
        have cg := blk_cell hrep.box
        unfold Rnd.cells at cg
        dsimp only at cg
        have cs : wr.cell? ⟨gS, tn, none⟩ = some (.slice (A1 tn) (L1 tn) (C1 tn)) := by
          obtain ⟨g, o, e, hc⟩ := hrep.own.rd.s tn (by show tn < nS1; omega)
          cases e
          rw [Nat.zero_add] at hc
          exact hc
        have hnow : Rnd.now ⟨some ⟨gq, 0, none⟩, nQ, cQ1, q1, some ⟨gD, 0, none⟩, nD1, cD1, d1, (tn : Int), f1, some ⟨gS, 0, none⟩, nS1, cS1, A1, L1, C1, z1⟩ = tn := by show ((tn : Int)).toNat = tn; omega
        have HP : Hid (Picks k1 ⟨some ⟨gq, 0, none⟩, nQ, cQ1, q1, some ⟨gD, 0, none⟩, nD1, cD1, d1, (tn : Int), f1, some ⟨gS, 0, none⟩, nS1, cS1, A1, L1, C1, z1⟩ R2 x s) := hp
        have HA : Hid (Alike R' R2) := ha
        have HO : Hid (Rnd.Ok ⟨some ⟨gq, 0, none⟩, nQ, cQ1, q1, some ⟨gD, 0, none⟩, nD1, cD1, d1, (tn : Int), f1, some ⟨gS, 0, none⟩, nS1, cS1, A1, L1, C1, z1⟩) := hok
        have HL : Hid (L1 c0 ≠ 0) := hl
        have HR : Hid (Rep wr (w.heap.size + 2) gb gD ⟨some ⟨gq, 0, none⟩, nQ, cQ1, q1, some ⟨gD, 0, none⟩, nD1, cD1, d1, (tn : Int), f1, some ⟨gS, 0, none⟩, nS1, cS1, A1, L1, C1, z1⟩ ⟨some ⟨gq, 0, none⟩, nQ, cQ1, q1, some ⟨gD, 0, none⟩, nD1, cD1, d1, (tn : Int), f1, some ⟨gS, 0, none⟩, nS1, cS1, A1, L1, C1, z1⟩) := hrep
        have HN : Hid (Rnd.now ⟨some ⟨gq, 0, none⟩, nQ, cQ1, q1, some ⟨gD, 0, none⟩, nD1, cD1, d1, (tn : Int), f1, some ⟨gS, 0, none⟩, nS1, cS1, A1, L1, C1, z1⟩ = tn) := hnow
        have HBr : Hid (Below (w.heap.size + 2) ((w.alloc (.cells #[.slice aQ nQ cQ, .slice aD nD cD, .int .i64 turn, .bool fresh, .slice aS j cS] 27)).alloc (.cells #[.slice none 0 0, .slice none 0 0, .int .i64 0, .bool false, .slice none 0 0] 27)) wr) := hBr
        clear hp ha hok hl hrep hnow hBr hst
        by_cases hL0 : L1 tn = 0
        · have Hz : Hid (L1 tn = 0) := hL0
          have HOt : Hid (Rnd.Ok (turnR ⟨some ⟨gq, 0, none⟩, nQ, cQ1, q1, some ⟨gD, 0, none⟩, nD1, cD1, d1, (tn : Int), f1, some ⟨gS, 0, none⟩, nS1, cS1, A1, L1, C1, z1⟩)) := turn_ok HO.out (fun h9 => absurd (by rw [HN.out]; exact Hz.out) h9)
          have HRx := HR
          have HBx := HBr
          go_wp2_with fail
          refine (l4Turn_any ⟨some ⟨gq, 0, none⟩, nQ, cQ1, q1, some ⟨gD, 0, none⟩, nD1, cD1, d1, (tn : Int), f1, some ⟨gS, 0, none⟩, nS1, cS1, A1, L1, C1, z1⟩ _ HO.out).mono ?_
          rintro e w' ⟨rfl, hb⟩
          clear hL0 cs cg
          have hup := HRx.out.up hb
          have hr2 := hup.turn
          have hkk := hup.box
          have hBn : Below (w.heap.size + 2) ((w.alloc (.cells #[.slice aQ nQ cQ, .slice aD nD cD, .int .i64 turn, .bool fresh, .slice aS j cS] 27)).alloc (.cells #[.slice none 0 0, .slice none 0 0, .int .i64 0, .bool false, .slice none 0 0] 27)) (w'.setRow gb (turnR ⟨some ⟨gq, 0, none⟩, nQ, cQ1, q1, some ⟨gD, 0, none⟩, nD1, cD1, d1, (tn : Int), f1, some ⟨gS, 0, none⟩, nS1, cS1, A1, L1, C1, z1⟩).cells) := (next2p HBx.out hb).trans ((setRow_touchR w' gb (turnR ⟨some ⟨gq, 0, none⟩, nQ, cQ1, q1, some ⟨gD, 0, none⟩, nD1, cD1, d1, (tn : Int), f1, some ⟨gS, 0, none⟩, nS1, cS1, A1, L1, C1, z1⟩).cells).below (by have := upper2p HBx.out; have := hb.size; omega) (fun x hx => by simp at hx; subst hx; exact Hgb.out))
          have HBn : Hid (Below (w.heap.size + 2) ((w.alloc (.cells #[.slice aQ nQ cQ, .slice aD nD cD, .int .i64 turn, .bool fresh, .slice aS j cS] 27)).alloc (.cells #[.slice none 0 0, .slice none 0 0, .int .i64 0, .bool false, .slice none 0 0] 27)) (w'.setRow gb (turnR ⟨some ⟨gq, 0, none⟩, nQ, cQ1, q1, some ⟨gD, 0, none⟩, nD1, cD1, d1, (tn : Int), f1, some ⟨gS, 0, none⟩, nS1, cS1, A1, L1, C1, z1⟩).cells)) := hBn
          have HR2 : Hid (Rep (w'.setRow gb (turnR ⟨some ⟨gq, 0, none⟩, nQ, cQ1, q1, some ⟨gD, 0, none⟩, nD1, cD1, d1, (tn : Int), f1, some ⟨gS, 0, none⟩, nS1, cS1, A1, L1, C1, z1⟩).cells) (w.heap.size + 2) gb gD (turnR ⟨some ⟨gq, 0, none⟩, nQ, cQ1, q1, some ⟨gD, 0, none⟩, nD1, cD1, d1, (tn : Int), f1, some ⟨gS, 0, none⟩, nS1, cS1, A1, L1, C1, z1⟩) (turnR ⟨some ⟨gq, 0, none⟩, nQ, cQ1, q1, some ⟨gD, 0, none⟩, nD1, cD1, d1, (tn : Int), f1, some ⟨gS, 0, none⟩, nS1, cS1, A1, L1, C1, z1⟩)) := hr2
          have HKk : Hid (w'.heap[gb]? = some (.cells (Rnd.cells ⟨some ⟨gq, 0, none⟩, nQ, cQ1, q1, some ⟨gD, 0, none⟩, nD1, cD1, d1, (tn : Int), f1, some ⟨gS, 0, none⟩, nS1, cS1, A1, L1, C1, z1⟩) 27 (0, 0))) := hkk
          clear hup hr2 hkk hBn hb
          go_wp2_with (refine wpList_stR rfl (.tmp 7) (.tmp 40) rfl gb rfl (turnR ⟨some ⟨gq, 0, none⟩, nQ, cQ1, q1, some ⟨gD, 0, none⟩, nD1, cD1, d1, (tn : Int), f1, some ⟨gS, 0, none⟩, nS1, cS1, A1, L1, C1, z1⟩).cells rfl (Rnd.cells ⟨some ⟨gq, 0, none⟩, nQ, cQ1, q1, some ⟨gD, 0, none⟩, nD1, cD1, d1, (tn : Int), f1, some ⟨gS, 0, none⟩, nS1, cS1, A1, L1, C1, z1⟩) HKk.out rfl rfl (Rnd.cells_one _) ?_)
          try dsimp only [Act.put]
          go_roundw
          case rel =>
            obtain ⟨k2, rfl, hp2⟩ := HP.out.skipInv (by rw [HN.out]; exact Hz.out)
            exact ⟨k2, _, R2, hp2, HA.out, HOt.out, rfl, HL.out, HR2.out, HBn.out⟩
          case measure =>
            have e1 := HR2.out.left (c0 := c0) Hc0.out HO.out.d
            have e2 := HR.out.left (c0 := c0) Hc0.out HO.out.d
            have e3 := left_skip HO.out (c := c0) Hc0.out HL.out (by rw [HN.out]; exact Hz.out)
            show leftW nQ gb gD c0 _ < leftW nQ gb gD c0 wr
            have e4 : leftW nQ gb gD c0 wr = _ := e2
            rw [e4]
            exact Nat.lt_of_le_of_lt (Nat.le_of_eq e1) e3
        · obtain ⟨gz, eA⟩ : ∃ gz, A1 tn = some ⟨gz, 0, none⟩ := by
            rcases HR.out.own.z tn (by show tn < nS1; omega) with h0 | ⟨g, hg, _⟩
            · exact absurd h0 hL0
            · exact ⟨g, hg⟩
          have HeA : Hid (A1 tn = some ⟨gz, 0, none⟩) := eA
          have Hz : Hid (L1 tn ≠ 0) := hL0
          rw [eA] at cs
          have hL1 : (0 : Int) < (L1 tn : Int) := by omega
          have hL2 : ((L1 tn : Int) == 0) = false := by simp; omega
          have hcl := HO.out.c tn (by show tn < nQ; omega)
          have hzr : 1 ≤ z1 tn 0 ∧ z1 tn 0 ≤ 5 := hcl.2.1.2 0 (by show 0 < L1 tn; omega)
          have hqr : 1 ≤ q1 tn ∧ q1 tn ≤ 10 := hcl.1
          have hdr : 0 ≤ d1 tn ∧ d1 tn < 15 := by
            have h9 := hcl.2.2
            unfold defP at h9
            rw [if_neg (show ¬ L1 tn = 0 from hL0)] at h9
            have h10 : (if Rnd.begun ⟨some ⟨gq, 0, none⟩, nQ, cQ1, q1, some ⟨gD, 0, none⟩, nD1, cD1, d1, (tn : Int), f1, some ⟨gS, 0, none⟩, nS1, cS1, A1, L1, C1, z1⟩ tn = true then q1 tn else 0) ≤ 10 := by split <;> omega
            dsimp only at h9
            exact ⟨h9.1, by omega⟩
          have Hzr : Hid (1 ≤ z1 tn 0 ∧ z1 tn 0 ≤ 5) := hzr
          have HOg : Hid (Rnd.Ok (grantR ⟨some ⟨gq, 0, none⟩, nQ, cQ1, q1, some ⟨gD, 0, none⟩, nD1, cD1, d1, (tn : Int), f1, some ⟨gS, 0, none⟩, nS1, cS1, A1, L1, C1, z1⟩)) := grant_ok HO.out (by rw [HN.out]; exact Hz.out)
          clear hcl hzr eA
          cases f1
          · have HG : Hid (grantR ⟨some ⟨gq, 0, none⟩, nQ, cQ1, q1, some ⟨gD, 0, none⟩, nD1, cD1, d1, (tn : Int), false, some ⟨gS, 0, none⟩, nS1, cS1, A1, L1, C1, z1⟩ = ⟨some ⟨gq, 0, none⟩, nQ, cQ1, q1, some ⟨gD, 0, none⟩, nD1, cD1, d1, (tn : Int), false, some ⟨gS, 0, none⟩, nS1, cS1, A1, L1, C1, z1⟩) := rfl
            have hw1 : IntKind.i64.wrap (d1 tn - z1 tn 0) = d1 tn - z1 tn 0 := wrapR _ (by have := Hzr.out; omega) (by have := Hzr.out; omega)
            clear hdr hqr hL0
            have HRg := HR
            have HBg := HBr
            have crg := HRg.out.own.rd
            have cgg := blk_cell HRg.out.box
            have fgg := blk_free HRg.out.box
            unfold Rnd.cells at cgg
            dsimp only at cgg
            have csg : wr.cell? ⟨gS, tn, none⟩ = some (.slice (some ⟨gz, 0, none⟩) (L1 tn) (C1 tn)) := by
              obtain ⟨g, o, e, hc⟩ := crg.s tn (by show tn < nS1; omega)
              cases e
              rw [Nat.zero_add] at hc
              have hc2 : wr.cell? ⟨gS, tn, none⟩ = some (.slice (A1 tn) (L1 tn) (C1 tn)) := hc
              rw [HeA.out] at hc2
              exact hc2
            have czg : wr.cell? ⟨gz, 0, none⟩ = some (.int .i64 (z1 tn 0)) := by
              have hz9 : RdRow wr (A1 tn) (L1 tn) fun j => .int .i64 (z1 tn j) := crg.z tn (by show tn < nS1; omega)
              rw [HeA.out] at hz9
              obtain ⟨g, o, e, hc⟩ := hz9 0 (by omega)
              cases e
              exact hc
            have cdg : wr.cell? ⟨gD, tn, none⟩ = some (.int .i64 (d1 tn)) := by
              obtain ⟨g, o, e, hc⟩ := crg.d tn (by show tn < nD1; omega)
              cases e
              rw [Nat.zero_add] at hc
              exact hc
            clear crg
            by_cases hcmp : d1 tn < z1 tn 0
            · have Hcmp : Hid ((grantR ⟨some ⟨gq, 0, none⟩, nQ, cQ1, q1, some ⟨gD, 0, none⟩, nD1, cD1, d1, (tn : Int), false, some ⟨gS, 0, none⟩, nS1, cS1, A1, L1, C1, z1⟩).d (Rnd.now ⟨some ⟨gq, 0, none⟩, nQ, cQ1, q1, some ⟨gD, 0, none⟩, nD1, cD1, d1, (tn : Int), false, some ⟨gS, 0, none⟩, nS1, cS1, A1, L1, C1, z1⟩) < z1 (Rnd.now ⟨some ⟨gq, 0, none⟩, nQ, cQ1, q1, some ⟨gD, 0, none⟩, nD1, cD1, d1, (tn : Int), false, some ⟨gS, 0, none⟩, nS1, cS1, A1, L1, C1, z1⟩) 0) := by
                rw [Hid, HG.out, HN.out]
                exact hcmp
              have HOt : Hid (Rnd.Ok (turnR ⟨some ⟨gq, 0, none⟩, nQ, cQ1, q1, some ⟨gD, 0, none⟩, nD1, cD1, d1, (tn : Int), false, some ⟨gS, 0, none⟩, nS1, cS1, A1, L1, C1, z1⟩)) := by
                rw [Hid, ← HG.out]
                refine turn_ok HOg.out (fun _ => ?_)
                rw [grantR_now]
                have h1 := Hcmp.out
                have h2 := Hzr.out
                rw [HN.out] at h1 ⊢
                omega
              have HRx := HRg
              have HBx := HBg
              have HOc : Hid (Rnd.Ok ⟨some ⟨gq, 0, none⟩, nQ, cQ1, q1, some ⟨gD, 0, none⟩, nD1, cD1, d1, (tn : Int), false, some ⟨gS, 0, none⟩, nS1, cS1, A1, L1, C1, z1⟩) := by rw [Hid, ← HG.out]; exact HOg.out
              go_wp2_with fail
              refine (l4Turn_any ⟨some ⟨gq, 0, none⟩, nQ, cQ1, q1, some ⟨gD, 0, none⟩, nD1, cD1, d1, (tn : Int), false, some ⟨gS, 0, none⟩, nS1, cS1, A1, L1, C1, z1⟩ _ HOc.out).mono ?_
              rintro e w' ⟨rfl, hb⟩
              clear hcmp csg czg cdg cgg fgg hw1
              have hup := HRx.out.up hb
              have hr2 := hup.turn
              have hkk := hup.box
              have hBn : Below (w.heap.size + 2) ((w.alloc (.cells #[.slice aQ nQ cQ, .slice aD nD cD, .int .i64 turn, .bool fresh, .slice aS j cS] 27)).alloc (.cells #[.slice none 0 0, .slice none 0 0, .int .i64 0, .bool false, .slice none 0 0] 27)) (w'.setRow gb (turnR ⟨some ⟨gq, 0, none⟩, nQ, cQ1, q1, some ⟨gD, 0, none⟩, nD1, cD1, d1, (tn : Int), false, some ⟨gS, 0, none⟩, nS1, cS1, A1, L1, C1, z1⟩).cells) := (next2p HBx.out hb).trans ((setRow_touchR w' gb (turnR ⟨some ⟨gq, 0, none⟩, nQ, cQ1, q1, some ⟨gD, 0, none⟩, nD1, cD1, d1, (tn : Int), false, some ⟨gS, 0, none⟩, nS1, cS1, A1, L1, C1, z1⟩).cells).below (by have := upper2p HBx.out; have := hb.size; omega) (fun x hx => by simp at hx; subst hx; exact Hgb.out))
              have HBn : Hid (Below (w.heap.size + 2) ((w.alloc (.cells #[.slice aQ nQ cQ, .slice aD nD cD, .int .i64 turn, .bool fresh, .slice aS j cS] 27)).alloc (.cells #[.slice none 0 0, .slice none 0 0, .int .i64 0, .bool false, .slice none 0 0] 27)) (w'.setRow gb (turnR ⟨some ⟨gq, 0, none⟩, nQ, cQ1, q1, some ⟨gD, 0, none⟩, nD1, cD1, d1, (tn : Int), false, some ⟨gS, 0, none⟩, nS1, cS1, A1, L1, C1, z1⟩).cells)) := hBn
              have HR2 : Hid (Rep (w'.setRow gb (turnR ⟨some ⟨gq, 0, none⟩, nQ, cQ1, q1, some ⟨gD, 0, none⟩, nD1, cD1, d1, (tn : Int), false, some ⟨gS, 0, none⟩, nS1, cS1, A1, L1, C1, z1⟩).cells) (w.heap.size + 2) gb gD (turnR ⟨some ⟨gq, 0, none⟩, nQ, cQ1, q1, some ⟨gD, 0, none⟩, nD1, cD1, d1, (tn : Int), false, some ⟨gS, 0, none⟩, nS1, cS1, A1, L1, C1, z1⟩) (turnR ⟨some ⟨gq, 0, none⟩, nQ, cQ1, q1, some ⟨gD, 0, none⟩, nD1, cD1, d1, (tn : Int), false, some ⟨gS, 0, none⟩, nS1, cS1, A1, L1, C1, z1⟩)) := hr2
              have HKk : Hid (w'.heap[gb]? = some (.cells (Rnd.cells ⟨some ⟨gq, 0, none⟩, nQ, cQ1, q1, some ⟨gD, 0, none⟩, nD1, cD1, d1, (tn : Int), false, some ⟨gS, 0, none⟩, nS1, cS1, A1, L1, C1, z1⟩) 27 (0, 0))) := hkk
              clear hup hr2 hkk hBn hb
              go_wp2_with (refine wpList_stR rfl (.tmp 7) (.tmp 74) rfl gb rfl (turnR ⟨some ⟨gq, 0, none⟩, nQ, cQ1, q1, some ⟨gD, 0, none⟩, nD1, cD1, d1, (tn : Int), false, some ⟨gS, 0, none⟩, nS1, cS1, A1, L1, C1, z1⟩).cells rfl (Rnd.cells ⟨some ⟨gq, 0, none⟩, nQ, cQ1, q1, some ⟨gD, 0, none⟩, nD1, cD1, d1, (tn : Int), false, some ⟨gS, 0, none⟩, nS1, cS1, A1, L1, C1, z1⟩) HKk.out rfl rfl (Rnd.cells_one _) ?_)
              try dsimp only [Act.put]
              go_roundw
              case rel =>
                obtain ⟨k2, rfl, hp2⟩ := HP.out.shortInv (by rw [HN.out]; exact Hz.out) Hcmp.out
                rw [HG.out] at hp2
                exact ⟨k2, _, R2, hp2, HA.out, HOt.out, rfl, HL.out, HR2.out, HBn.out⟩
              case measure =>
                have e1 := HR2.out.left (c0 := c0) Hc0.out HO.out.d
                have e2 := HR.out.left (c0 := c0) Hc0.out HO.out.d
                have e3 := left_short HO.out (c := c0) Hc0.out (by rw [HN.out]; exact Hz.out) Hcmp.out
                show leftW nQ gb gD c0 _ < leftW nQ gb gD c0 wr
                have e4 : leftW nQ gb gD c0 wr = _ := e2
                rw [e4]
                rw [HG.out] at e3
                exact Nat.lt_of_le_of_lt (Nat.le_of_eq e1) e3
            · have HX : Hid (R2 = takeR ⟨some ⟨gq, 0, none⟩, nQ, cQ1, q1, some ⟨gD, 0, none⟩, nD1, cD1, d1, (tn : Int), false, some ⟨gS, 0, none⟩, nS1, cS1, A1, L1, C1, z1⟩ ∧ x = tn ∧ s = z1 tn 0) := by
                have h9 := HP.out.takeInv (by rw [HN.out]; exact Hz.out) (by
                  rw [HG.out, HN.out]
                  show z1 tn 0 ≤ d1 tn
                  omega)
                rw [HG.out, HN.out] at h9
                exact h9
              obtain ⟨hR2, hx9, rfl⟩ := HX.out
              have hx8 : tn = x := hx9.symm
              clear HX hx9
              subst hx8
              have HR2 : Hid (R2 = takeR ⟨some ⟨gq, 0, none⟩, nQ, cQ1, q1, some ⟨gD, 0, none⟩, nD1, cD1, d1, (tn : Int), false, some ⟨gS, 0, none⟩, nS1, cS1, A1, L1, C1, z1⟩) := hR2
              clear hR2 HP
              have Hcmp : Hid (z1 (Rnd.now ⟨some ⟨gq, 0, none⟩, nQ, cQ1, q1, some ⟨gD, 0, none⟩, nD1, cD1, d1, (tn : Int), false, some ⟨gS, 0, none⟩, nS1, cS1, A1, L1, C1, z1⟩) 0 ≤ (grantR ⟨some ⟨gq, 0, none⟩, nQ, cQ1, q1, some ⟨gD, 0, none⟩, nD1, cD1, d1, (tn : Int), false, some ⟨gS, 0, none⟩, nS1, cS1, A1, L1, C1, z1⟩).d (Rnd.now ⟨some ⟨gq, 0, none⟩, nQ, cQ1, q1, some ⟨gD, 0, none⟩, nD1, cD1, d1, (tn : Int), false, some ⟨gS, 0, none⟩, nS1, cS1, A1, L1, C1, z1⟩)) := by
                rw [Hid, HG.out, HN.out]
                show z1 tn 0 ≤ d1 tn
                omega
              have hLk : L1 tn ≤ 1000 := (HO.out.c tn (by show tn < nQ; omega)).2.1.1
              have hCp : L1 tn ≤ C1 tn := HR.out.cap tn (by show tn < nS1; omega)
              obtain ⟨qz, hqz, hq⟩ : ∃ qz, (if C1 tn = 1 then some (⟨gz, 0, none⟩ : Addr) else some ⟨gz, 1, none⟩) = some ⟨gz, qz, none⟩ ∧ (qz = 1 ∨ L1 tn = 1) := by
                by_cases hC : C1 tn = 1
                · exact ⟨0, by rw [if_pos hC], .inr (by omega)⟩
                · exact ⟨1, by rw [if_neg hC], .inl rfl⟩
              have Hqz : Hid ((if C1 tn = 1 then some (⟨gz, 0, none⟩ : Addr) else some ⟨gz, 1, none⟩) = some ⟨gz, qz, none⟩) := hqz
              have hRe := HRg.out.up ((Below.refl wr.heap.size wr).drew)
              have hBe := HBg.out.drew
              obtain ⟨Ve, hVe⟩ : ∃ Ve, Ve = wr.drew := ⟨_, rfl⟩
              rw [← hVe] at hRe hBe
              obtain ⟨hgD2, fde⟩ : (w.heap.size + 2) ≤ gD ∧ Ve.frozen? ⟨gD, tn, none⟩ = false := by
                rcases hRe.own.d with h0 | ⟨g, hg, h9, hr⟩
                · have h3 : nD1 = 0 := h0
                  omega
                · cases hg
                  exact ⟨h9, hr.free tn⟩
              have cde : Ve.cell? ⟨gD, tn, none⟩ = some (.int .i64 (d1 tn)) := by
                obtain ⟨g, o, e, hc⟩ := hRe.own.rd.d tn (by show tn < nD1; omega)
                cases e
                rw [Nat.zero_add] at hc
                exact hc
              have hRx := hRe.def (c := tn) (show tn < nD1 by omega) (d1 tn - z1 tn 0)
              have hBx := hBe.trans (((Touch.refl [gD] Ve).set (g := gD) (by simp) tn (.int .i64 (d1 tn - z1 tn 0))).below (upper2p hBe) (fun x hx => by simp at hx; subst hx; exact hgD2))
              obtain ⟨Vx, hVx⟩ : ∃ Vx, Vx = Ve.setCell ⟨gD, tn, none⟩ (.int .i64 (d1 tn - z1 tn 0)) := ⟨_, rfl⟩
              rw [← hVx] at hRx hBx
              have cge := blk_cell hRe.box
              have cgx := blk_cell hRx.box
              dsimp only [Rnd.cells, Rnd.defTo] at cge cgx
              have hRy := hRx.up ((Below.refl Vx.heap.size Vx).drew)
              have hBy := hBx.drew
              obtain ⟨Vy, hVy⟩ : ∃ Vy, Vy = Vx.drew := ⟨_, rfl⟩
              rw [← hVy] at hRy hBy
              obtain ⟨a', c', Vz, hrun, hcut⟩ := hRy.cut (c := tn) (gS := gS) (gz := gz) (show tn < nS1 by omega) Hz.out hLk (upper2p hBy) rfl HeA.out (C1 tn - 1) qz hq
              dsimp only [Rnd.defTo] at hrun
              have cgy := blk_cell hRy.box
              have cga := blk_cell ((((Below.refl Vy.heap.size Vy).alloc (Nat.le_refl _) (.cells #[] 2)).block _ (blk_lt hRy.box)).trans hRy.box)
              have cgz := blk_cell hcut.box
              have cgf := blk_cell hcut.after
              dsimp only [Rnd.cells, Rnd.defTo] at cgy cga cgz cgf
              have csy : Vy.cell? ⟨gS, tn, none⟩ = some (.slice (some ⟨gz, 0, none⟩) (L1 tn) (C1 tn)) := by
                obtain ⟨g, o, e, hc⟩ := hRy.own.rd.s tn (by show tn < nS1; omega)
                cases e
                rw [Nat.zero_add] at hc
                have hc2 : Vy.cell? ⟨gS, tn, none⟩ = some (.slice (A1 tn) (L1 tn) (C1 tn)) := hc
                rw [HeA.out] at hc2
                exact hc2
              have csa : (Vy.alloc (.cells #[] 2)).cell? ⟨gS, tn, none⟩ = some (.slice (some ⟨gz, 0, none⟩) (L1 tn) (C1 tn)) := by
                rw [← csy]
                exact ((Below.refl Vy.heap.size Vy).alloc (Nat.le_refl _) (.cells #[] 2)).cell (p := ⟨gS, tn, none⟩) (cellLt csy)
              have csz : Vz.cell? ⟨gS, tn, none⟩ = some (.slice (A1 tn) (L1 tn) (C1 tn)) := hcut.row.at tn (show tn < nS1 by omega)
              have fsz := hcut.row.free tn
              obtain ⟨Vf, hVf⟩ : ∃ Vf, Vf = Vz.setCell ⟨gS, tn, none⟩ (.slice a' (L1 tn - 1) c') := ⟨_, rfl⟩
              rw [← hVf] at cgf
              have csf : Vf.cell? ⟨gS, tn, none⟩ = some (.slice a' (L1 tn - 1) c') := by
                obtain ⟨g, o, e, hc⟩ := hcut.own.rd.s tn (show tn < nS1 by omega)
                have e2 : some (⟨gS, 0, none⟩ : Addr) = some ⟨g, o, none⟩ := e
                cases e2
                rw [Nat.zero_add] at hc
                have hc2 : (Vz.setCell ⟨gS, tn, none⟩ (.slice a' (L1 tn - 1) c')).cell? ⟨gS, tn, none⟩ = some (.slice (if tn = tn then a' else A1 tn) (updN L1 tn (L1 tn - 1) tn) (if tn = tn then c' else C1 tn)) := hc
                rw [if_pos rfl, if_pos rfl, updN_self] at hc2
                rw [hVf]
                exact hc2
              have hOf := hcut.own
              have hBf := hBy.trans hcut.below
              have hRf : L1 tn = 1 → _ := fun h9 => hcut.rep h9 rfl HRg.out.cap
              dsimp only [Rnd.defTo] at hOf hBf hRf
              rw [← hVf] at hOf hBf hRf
              have HOf : Hid (OwnRn Vf (w.heap.size + 2) (Rnd.cut (Rnd.defTo ⟨some ⟨gq, 0, none⟩, nQ, cQ1, q1, some ⟨gD, 0, none⟩, nD1, cD1, d1, (tn : Int), false, some ⟨gS, 0, none⟩, nS1, cS1, A1, L1, C1, z1⟩ tn (d1 tn - z1 tn 0)) tn a' c')) := hOf
              have HBf : Hid (Below (w.heap.size + 2) ((w.alloc (.cells #[.slice aQ nQ cQ, .slice aD nD cD, .int .i64 turn, .bool fresh, .slice aS j cS] 27)).alloc (.cells #[.slice none 0 0, .slice none 0 0, .int .i64 0, .bool false, .slice none 0 0] 27)) Vf) := hBf
              have HRf : Hid (L1 tn = 1 → Rep Vf (w.heap.size + 2) gb gD (Rnd.cut (Rnd.defTo ⟨some ⟨gq, 0, none⟩, nQ, cQ1, q1, some ⟨gD, 0, none⟩, nD1, cD1, d1, (tn : Int), false, some ⟨gS, 0, none⟩, nS1, cS1, A1, L1, C1, z1⟩ tn (d1 tn - z1 tn 0)) tn a' c') (Rnd.cut (Rnd.defTo ⟨some ⟨gq, 0, none⟩, nQ, cQ1, q1, some ⟨gD, 0, none⟩, nD1, cD1, d1, (tn : Int), false, some ⟨gS, 0, none⟩, nS1, cS1, A1, L1, C1, z1⟩ tn (d1 tn - z1 tn 0)) tn a' c')) := hRf
              have HNc : Hid (Rnd.now ⟨some ⟨gq, 0, none⟩, nQ, cQ1, q1, some ⟨gD, 0, none⟩, nD1, cD1, d1, (tn : Int), false, some ⟨gS, 0, none⟩, nS1, cS1, A1, L1, C1, z1⟩ = tn) := HN.out
              clear hOf hBf hRf
              have HCut : Hid (Cut (Rnd.defTo ⟨some ⟨gq, 0, none⟩, nQ, cQ1, q1, some ⟨gD, 0, none⟩, nD1, cD1, d1, (tn : Int), false, some ⟨gS, 0, none⟩, nS1, cS1, A1, L1, C1, z1⟩ tn (d1 tn - z1 tn 0)) (w.heap.size + 2) gb gD Vy Vz tn gS a' c') := hcut
              have eVx : Ve.setCell ⟨gD, tn, none⟩ (.int .i64 (d1 tn - z1 tn 0)) = Vx := hVx.symm
              have eVf : Vz.setCell ⟨gS, tn, none⟩ (.slice a' (L1 tn - 1) c') = Vf := hVf.symm
              have HVe : Hid (Ve = wr.drew) := hVe
              have HVy : Hid (Vy = Vx.drew) := hVy
              have HBy : Hid (Below (w.heap.size + 2) ((w.alloc (.cells #[.slice aQ nQ cQ, .slice aD nD cD, .int .i64 turn, .bool fresh, .slice aS j cS] 27)).alloc (.cells #[.slice none 0 0, .slice none 0 0, .int .i64 0, .bool false, .slice none 0 0] 27)) Vy) := hBy
              clear hVe hVx hVy hVf hcut hRe hBe hRx hBx hRy hBy hgD2 hLk hCp hqz hq
              go_wp2_with fail
              refine wp_region_held_drew (S := fun w' => ∀ o, w'.cell? ⟨gb, o, none⟩ = (#[.slice (some ⟨gq, 0, none⟩) nQ cQ1, .slice (some ⟨gD, 0, none⟩) nD1 cD1, .int .i64 (tn : Int), .bool false, .slice (some ⟨gS, 0, none⟩) nS1 cS1] : Array Value)[o]?) (by kernel_rfl) (by rw [← HVe.out]; exact cge) (fun hHeld => ?_)
              rw [← HVe.out] at hHeld ⊢
              refine takeD (i := 0) (some 75) (v := ?_) rfl rfl (by kernel_rfl) (by kernel_rfl) (by kernel_rfl) (fun _ _ _ h => h) (by kernel_rfl) ?_ (by assumption) ?_
              rotate_left
              · intro wx hSw
                try dsimp only at hSw
                go_simp
                try (with_reducible rfl)
              try simp only [Act.put, List.setIfInBounds_toArray, List.set_cons_zero, List.set_cons_succ]
              refine takeD (i := 1) (some 76) (v := ?_) rfl rfl (by kernel_rfl) (by kernel_rfl) (by kernel_rfl) (fun _ _ _ h => h) (by kernel_rfl) ?_ (by assumption) ?_
              rotate_left
              · intro wx hSw
                try dsimp only at hSw
                go_simp
                try (with_reducible rfl)
              try simp only [Act.put, List.setIfInBounds_toArray, List.set_cons_zero, List.set_cons_succ]
              refine takeD (i := 2) (some 77) (v := ?_) rfl rfl (by kernel_rfl) (by kernel_rfl) (by kernel_rfl) (fun _ _ _ h => h) (by kernel_rfl) ?_ (by assumption) ?_
              rotate_left
              · intro wx hSw
                try dsimp only at hSw
                go_simp
                try (with_reducible rfl)
              try simp only [Act.put, List.setIfInBounds_toArray, List.set_cons_zero, List.set_cons_succ]
              refine takeD (i := 3) (some 78) (v := ?_) rfl rfl (by kernel_rfl) (by kernel_rfl) (by kernel_rfl) (fun _ _ _ h => h) (by kernel_rfl) ?_ (by assumption) ?_
              rotate_left
              · intro wx hSw
                try dsimp only at hSw
                go_simp
                try (with_reducible rfl)
              try simp only [Act.put, List.setIfInBounds_toArray, List.set_cons_zero, List.set_cons_succ]
              refine takeD (i := 4) (some 79) (v := ?_) rfl rfl (by kernel_rfl) (by kernel_rfl) (by kernel_rfl) (fun _ _ _ h => h) (by kernel_rfl) ?_ (by assumption) ?_
              rotate_left
              · intro wx hSw
                try dsimp only at hSw
                go_simp
                try (with_reducible rfl)
              try simp only [Act.put, List.setIfInBounds_toArray, List.set_cons_zero, List.set_cons_succ]
              refine takeD (i := 5) (some 80) (v := ?_) rfl rfl (by kernel_rfl) (by kernel_rfl) (by kernel_rfl) (fun _ _ _ h => h) (by kernel_rfl) ?_ (by assumption) ?_
              rotate_left
              · intro wx hSw
                try dsimp only at hSw
                go_simp
                try (with_reducible rfl)
              try simp only [Act.put, List.setIfInBounds_toArray, List.set_cons_zero, List.set_cons_succ]
              refine takeD (i := 6) (some 81) (v := ?_) rfl rfl (by kernel_rfl) (by kernel_rfl) (by kernel_rfl) (fun _ _ _ h => h) (by kernel_rfl) ?_ (by assumption) ?_
              rotate_left
              · intro wx hSw
                try dsimp only at hSw
                go_simp
                try (with_reducible rfl)
              try simp only [Act.put, List.setIfInBounds_toArray, List.set_cons_zero, List.set_cons_succ]
              refine takeD (i := 8) (some 83) (v := ?_) rfl rfl (by kernel_rfl) (by kernel_rfl) (by kernel_rfl) (fun _ _ _ h => h) (by kernel_rfl) ?_ (by assumption) ?_
              rotate_left
              · intro wx hSw
                try dsimp only at hSw
                go_simp
                try (with_reducible rfl)
              try simp only [Act.put, List.setIfInBounds_toArray, List.set_cons_zero, List.set_cons_succ]
              refine wpAnyH_ready (rs := [7]) (by kernel_rfl) (by simp) ?_
              refine AllReadyH.cons rfl (fun K hK => ?_) AllReadyH.nil
              go_simp
              refine hK.out _ _ cge (fun hHeld => ?_)
              clear hK K
              try simp only [Act.put, List.setIfInBounds_toArray, List.set_cons_zero, List.set_cons_succ]
              refine takeD (i := 9) (some 84) (v := ?_) rfl rfl (by kernel_rfl) (by kernel_rfl) (by kernel_rfl) (fun _ _ _ h => h) (by kernel_rfl) ?_ (by assumption) ?_
              rotate_left
              · intro wx hSw
                try dsimp only at hSw
                go_simp
                try (with_reducible rfl)
              try simp only [Act.put, List.setIfInBounds_toArray, List.set_cons_zero, List.set_cons_succ]
              refine takeD (i := 10) (some 85) (v := ?_) rfl rfl (by kernel_rfl) (by kernel_rfl) (by kernel_rfl) (fun _ _ _ h => h) (by kernel_rfl) ?_ (by assumption) ?_
              rotate_left
              · intro wx hSw
                try dsimp only at hSw
                go_simp
                try (with_reducible rfl)
              try simp only [Act.put, List.setIfInBounds_toArray, List.set_cons_zero, List.set_cons_succ]
              refine wpAnyH_ready (rs := [11]) (by kernel_rfl) (by simp) ?_
              refine AllReadyH.cons rfl (fun K hK => ?_) AllReadyH.nil
              go_simp
              try rw [eVx]
              refine hK.out _ _ cgx (fun hHeld => ?_)
              clear hK K
              try simp only [Act.put, List.setIfInBounds_toArray, List.set_cons_zero, List.set_cons_succ]
              refine wpAnyH_done (by kernel_rfl) ?_ _
              clear hHeld cge cde fde cgx hw1 eVx cgg fgg csg czg cdg
              go_wp2_with fail
              refine wp_region_held_drew (S := fun w' => ∀ o, w'.cell? ⟨gb, o, none⟩ = (#[.slice (some ⟨gq, 0, none⟩) nQ cQ1, .slice (some ⟨gD, 0, none⟩) nD1 cD1, .int .i64 (tn : Int), .bool false, .slice (some ⟨gS, 0, none⟩) nS1 cS1] : Array Value)[o]?) (by kernel_rfl) (by rw [← HVy.out]; exact cgy) (fun hHeld => ?_)
              rw [← HVy.out] at hHeld ⊢
              refine takeD (i := 0) (some 86) (v := ?_) rfl rfl (by kernel_rfl) (by kernel_rfl) (by kernel_rfl) (fun _ _ _ h => h) (by kernel_rfl) ?_ (by assumption) ?_
              rotate_left
              · intro wx hSw
                try dsimp only at hSw
                go_simp
                try (with_reducible rfl)
              try simp only [Act.put, List.setIfInBounds_toArray, List.set_cons_zero, List.set_cons_succ]
              refine takeD (i := 1) (some 87) (v := ?_) rfl rfl (by kernel_rfl) (by kernel_rfl) (by kernel_rfl) (fun _ _ _ h => h) (by kernel_rfl) ?_ (by assumption) ?_
              rotate_left
              · intro wx hSw
                try dsimp only at hSw
                go_simp
                try (with_reducible rfl)
              try simp only [Act.put, List.setIfInBounds_toArray, List.set_cons_zero, List.set_cons_succ]
              refine takeD (i := 2) (some 88) (v := ?_) rfl rfl (by kernel_rfl) (by kernel_rfl) (by kernel_rfl) (fun _ _ _ h => h) (by kernel_rfl) ?_ (by assumption) ?_
              rotate_left
              · intro wx hSw
                try dsimp only at hSw
                go_simp
                try (with_reducible rfl)
              try simp only [Act.put, List.setIfInBounds_toArray, List.set_cons_zero, List.set_cons_succ]
              refine takeD (i := 4) (some 90) (v := ?_) rfl rfl (by kernel_rfl) (by kernel_rfl) (by kernel_rfl) (fun _ _ _ h => h) (by kernel_rfl) ?_ (by assumption) ?_
              rotate_left
              · intro wx hSw
                try dsimp only at hSw
                go_simp
                try (with_reducible rfl)
              try simp only [Act.put, List.setIfInBounds_toArray, List.set_cons_zero, List.set_cons_succ]
              refine takeD (i := 5) (some 91) (v := ?_) rfl rfl (by kernel_rfl) (by kernel_rfl) (by kernel_rfl) (fun _ _ _ h => h) (by kernel_rfl) ?_ (by assumption) ?_
              rotate_left
              · intro wx hSw
                try dsimp only at hSw
                go_simp
                try (with_reducible rfl)
              try simp only [Act.put, List.setIfInBounds_toArray, List.set_cons_zero, List.set_cons_succ]
              refine takeD (i := 6) (some 92) (v := ?_) rfl rfl (by kernel_rfl) (by kernel_rfl) (by kernel_rfl) (fun _ _ _ h => h) (by kernel_rfl) ?_ (by assumption) ?_
              rotate_left
              · intro wx hSw
                try dsimp only at hSw
                go_simp
                try (with_reducible rfl)
              try simp only [Act.put, List.setIfInBounds_toArray, List.set_cons_zero, List.set_cons_succ]
              refine takeD (i := 7) (some 93) (v := ?_) rfl rfl (by kernel_rfl) (by kernel_rfl) (by kernel_rfl) (fun _ _ _ h => h) (by kernel_rfl) ?_ (by assumption) ?_
              rotate_left
              · intro wx hSw
                try dsimp only at hSw
                go_simp
                try (with_reducible rfl)
              try simp only [Act.put, List.setIfInBounds_toArray, List.set_cons_zero, List.set_cons_succ]
              refine wpAnyH_ready (rs := [3, 8]) (by kernel_rfl) (by simp) ?_
              refine AllReadyH.cons rfl (fun K hK => ?_) (AllReadyH.cons rfl (fun K hK => ?_) AllReadyH.nil)
              · go_simp
                refine hK.out _ _ cga (fun hHeld => ?_)
                clear hK K
                try simp only [Act.put, List.setIfInBounds_toArray, List.set_cons_zero, List.set_cons_succ]
                refine wpAnyH_ready (rs := [8]) (by kernel_rfl) (by simp) ?_
                refine AllReadyH.cons rfl (fun K hK => ?_) AllReadyH.nil
                go_simp
                refine hK.out _ _ cga (fun hHeld => ?_)
                clear hK K
                try simp only [Act.put, List.setIfInBounds_toArray, List.set_cons_zero, List.set_cons_succ]
                refine takeD (i := 9) (some 95) (v := .slice (some ⟨gz, qz, none⟩) (L1 tn - 1) (C1 tn - 1)) rfl rfl (by kernel_rfl) (by kernel_rfl) (by kernel_rfl) (fun _ _ _ h => h) (by kernel_rfl) ?_ (by assumption) ?_
                · intro wx hSw
                  have h9 := run_cutS gz qz (L1 tn) (C1 tn) wx Hz.out Hqz.out
                  clear hSw
                  go_simp
                  first | done | exact Hqz.out
                try simp only [Act.put, List.setIfInBounds_toArray, List.set_cons_zero, List.set_cons_succ]
                refine wpAnyH_ready (rs := [10]) (by kernel_rfl) (by simp) ?_
                refine AllReadyH.cons rfl (fun K hK => ?_) AllReadyH.nil
                refine wp_appD (by kernel_rfl) (some 96) (.tmp 89) (.tmp 95) 24 _ _ _ rfl rfl rfl rfl rfl hrun ?_
                refine hK.out _ _ cgz (fun hHeld => ?_)
                clear hK K
                try simp only [Act.put, List.setIfInBounds_toArray, List.set_cons_zero, List.set_cons_succ]
                refine takeD (i := 11) (some 97) (v := ?_) rfl rfl (by kernel_rfl) (by kernel_rfl) (by kernel_rfl) (fun _ _ _ h => h) (by kernel_rfl) ?_ (by assumption) ?_
                rotate_left
                · intro wx hSw
                  try dsimp only at hSw
                  go_simp
                  try (with_reducible rfl)
                try simp only [Act.put, List.setIfInBounds_toArray, List.set_cons_zero, List.set_cons_succ]
                refine wpAnyH_ready (rs := [12]) (by kernel_rfl) (by simp) ?_
                refine AllReadyH.cons rfl (fun K hK => ?_) AllReadyH.nil
                go_simp
                try rw [eVf]
                refine hK.out _ _ cgf (fun hHeld => ?_)
                clear hK K
                try simp only [Act.put, List.setIfInBounds_toArray, List.set_cons_zero, List.set_cons_succ]
                refine wpAnyH_done (by kernel_rfl) ?_ _
                clear hHeld cgy cga cgz csy csa csz fsz hrun eVf
                by_cases hone : L1 tn = 1
                · have HN1 : Hid (L1 tn = 1) := hone
                  have hone2 : L1 tn - 1 = 0 := by omega
                  have hRf := HRf.out hone
                  rw [hone2] at csf
                  have hgD2 : (w.heap.size + 2) ≤ gD := by
                    rcases hRf.own.d with h0 | ⟨g, hg, h9, hr⟩
                    · have h3 : nD1 = 0 := h0
                      omega
                    · cases hg
                      exact h9
                  obtain ⟨cdf, fdf⟩ : (∃ vd, Vf.cell? ⟨gD, tn, none⟩ = some (.int .i64 vd)) ∧ Vf.frozen? ⟨gD, tn, none⟩ = false := by
                    rcases hRf.own.d with h0 | ⟨g, hg, h9, hr⟩
                    · have h3 : nD1 = 0 := h0
                      omega
                    · cases hg
                      exact ⟨⟨_, hr.at tn (show tn < nD1 by omega)⟩, hr.free tn⟩
                  obtain ⟨vd, cdf⟩ := cdf
                  have hR3 := hRf.def (c := tn) (show tn < nD1 by omega) 0
                  have hB3 := HBf.out.trans (((Touch.refl [gD] Vf).set (g := gD) (by simp) tn (.int .i64 0)).below (upper2p HBf.out) (fun x hx => by simp at hx; subst hx; exact hgD2))
                  obtain ⟨Vg, hVg⟩ : ∃ Vg, Vg = Vf.setCell ⟨gD, tn, none⟩ (.int .i64 0) := ⟨_, rfl⟩
                  rw [← hVg] at hR3 hB3
                  have eVg : Vf.setCell ⟨gD, tn, none⟩ (.int .i64 0) = Vg := hVg.symm
                  have cgg := blk_cell hR3.box
                  dsimp only [Rnd.cells, Rnd.defTo, Rnd.cut] at cgg
                  have HR3 : Hid (Rep Vg (w.heap.size + 2) gb gD (Rnd.defTo (Rnd.cut (Rnd.defTo ⟨some ⟨gq, 0, none⟩, nQ, cQ1, q1, some ⟨gD, 0, none⟩, nD1, cD1, d1, (tn : Int), false, some ⟨gS, 0, none⟩, nS1, cS1, A1, L1, C1, z1⟩ tn (d1 tn - z1 tn 0)) tn a' c') tn 0) (Rnd.defTo (Rnd.cut (Rnd.defTo ⟨some ⟨gq, 0, none⟩, nQ, cQ1, q1, some ⟨gD, 0, none⟩, nD1, cD1, d1, (tn : Int), false, some ⟨gS, 0, none⟩, nS1, cS1, A1, L1, C1, z1⟩ tn (d1 tn - z1 tn 0)) tn a' c') tn 0)) := hR3
                  have HB3 : Hid (Below (w.heap.size + 2) ((w.alloc (.cells #[.slice aQ nQ cQ, .slice aD nD cD, .int .i64 turn, .bool fresh, .slice aS j cS] 27)).alloc (.cells #[.slice none 0 0, .slice none 0 0, .int .i64 0, .bool false, .slice none 0 0] 27)) Vg) := hB3
                  clear hRf hgD2 hR3 hB3 hVg hone
                  go_wp2_with fail
                  refine (l4Turn_w (Rnd.defTo (Rnd.cut (Rnd.defTo ⟨some ⟨gq, 0, none⟩, nQ, cQ1, q1, some ⟨gD, 0, none⟩, nD1, cD1, d1, (tn : Int), false, some ⟨gS, 0, none⟩, nS1, cS1, A1, L1, C1, z1⟩ tn (d1 tn - z1 tn 0)) tn a' c') tn 0) _ HO.out.n HO.out.t).mono ?_
                  rintro e w' ⟨rfl, hb⟩
                  have hup := HR3.out.up hb
                  have hr4 := hup.turn
                  have hB4 : Below (w.heap.size + 2) ((w.alloc (.cells #[.slice aQ nQ cQ, .slice aD nD cD, .int .i64 turn, .bool fresh, .slice aS j cS] 27)).alloc (.cells #[.slice none 0 0, .slice none 0 0, .int .i64 0, .bool false, .slice none 0 0] 27)) (w'.setRow gb (turnR (Rnd.defTo (Rnd.cut (Rnd.defTo ⟨some ⟨gq, 0, none⟩, nQ, cQ1, q1, some ⟨gD, 0, none⟩, nD1, cD1, d1, (tn : Int), false, some ⟨gS, 0, none⟩, nS1, cS1, A1, L1, C1, z1⟩ tn (d1 tn - z1 tn 0)) tn a' c') tn 0)).cells) := (next2p HB3.out hb).trans ((setRow_touchR w' gb (turnR (Rnd.defTo (Rnd.cut (Rnd.defTo ⟨some ⟨gq, 0, none⟩, nQ, cQ1, q1, some ⟨gD, 0, none⟩, nD1, cD1, d1, (tn : Int), false, some ⟨gS, 0, none⟩, nS1, cS1, A1, L1, C1, z1⟩ tn (d1 tn - z1 tn 0)) tn a' c') tn 0)).cells).below (by have := upper2p HB3.out; have := hb.size; omega) (fun x hx => by simp at hx; subst hx; exact Hgb.out))
                  have HKk : Hid (w'.heap[gb]? = some (.cells (Rnd.cells (Rnd.defTo (Rnd.cut (Rnd.defTo ⟨some ⟨gq, 0, none⟩, nQ, cQ1, q1, some ⟨gD, 0, none⟩, nD1, cD1, d1, (tn : Int), false, some ⟨gS, 0, none⟩, nS1, cS1, A1, L1, C1, z1⟩ tn (d1 tn - z1 tn 0)) tn a' c') tn 0)) 27 (0, 0))) := hup.box
                  obtain ⟨Vh, hVh⟩ : ∃ Vh, Vh = w'.setRow gb (turnR (Rnd.defTo (Rnd.cut (Rnd.defTo ⟨some ⟨gq, 0, none⟩, nQ, cQ1, q1, some ⟨gD, 0, none⟩, nD1, cD1, d1, (tn : Int), false, some ⟨gS, 0, none⟩, nS1, cS1, A1, L1, C1, z1⟩ tn (d1 tn - z1 tn 0)) tn a' c') tn 0)).cells := ⟨_, rfl⟩
                  rw [← hVh] at hr4 hB4
                  have eVh : w'.setRow gb (turnR (Rnd.defTo (Rnd.cut (Rnd.defTo ⟨some ⟨gq, 0, none⟩, nQ, cQ1, q1, some ⟨gD, 0, none⟩, nD1, cD1, d1, (tn : Int), false, some ⟨gS, 0, none⟩, nS1, cS1, A1, L1, C1, z1⟩ tn (d1 tn - z1 tn 0)) tn a' c') tn 0)).cells = Vh := hVh.symm
                  have cgh := blk_cell hr4.box
                  have HR4 : Hid (Rep Vh (w.heap.size + 2) gb gD (turnR (Rnd.defTo (Rnd.cut (Rnd.defTo ⟨some ⟨gq, 0, none⟩, nQ, cQ1, q1, some ⟨gD, 0, none⟩, nD1, cD1, d1, (tn : Int), false, some ⟨gS, 0, none⟩, nS1, cS1, A1, L1, C1, z1⟩ tn (d1 tn - z1 tn 0)) tn a' c') tn 0)) (turnR (Rnd.defTo (Rnd.cut (Rnd.defTo ⟨some ⟨gq, 0, none⟩, nQ, cQ1, q1, some ⟨gD, 0, none⟩, nD1, cD1, d1, (tn : Int), false, some ⟨gS, 0, none⟩, nS1, cS1, A1, L1, C1, z1⟩ tn (d1 tn - z1 tn 0)) tn a' c') tn 0))) := hr4
                  have HB4 : Hid (Below (w.heap.size + 2) ((w.alloc (.cells #[.slice aQ nQ cQ, .slice aD nD cD, .int .i64 turn, .bool fresh, .slice aS j cS] 27)).alloc (.cells #[.slice none 0 0, .slice none 0 0, .int .i64 0, .bool false, .slice none 0 0] 27)) Vh) := hB4
                  dsimp only [Rnd.cells, turnR, Rnd.defTo, Rnd.cut] at cgh
                  clear hup hr4 hB4 hVh hb cgg csf cgf eVg cdf fdf
                  have kOut := out2p HB4.out
                  have ht := setRow_touchR Vh (w.heap.size + 1) (Rnd.cells (turnR (Rnd.defTo (Rnd.cut (Rnd.defTo ⟨some ⟨gq, 0, none⟩, nQ, cQ1, q1, some ⟨gD, 0, none⟩, nD1, cD1, d1, (tn : Int), false, some ⟨gS, 0, none⟩, nS1, cS1, A1, L1, C1, z1⟩ tn (d1 tn - z1 tn 0)) tn a' c') tn 0)))
                  have cF := blk_cell (setRow_blkR kOut (cs := Rnd.cells (turnR (Rnd.defTo (Rnd.cut (Rnd.defTo ⟨some ⟨gq, 0, none⟩, nQ, cQ1, q1, some ⟨gD, 0, none⟩, nD1, cD1, d1, (tn : Int), false, some ⟨gS, 0, none⟩, nS1, cS1, A1, L1, C1, z1⟩ tn (d1 tn - z1 tn 0)) tn a' c') tn 0))))
                  have hBfin : Below w.heap.size w (Vh.setRow (w.heap.size + 1) (Rnd.cells (turnR (Rnd.defTo (Rnd.cut (Rnd.defTo ⟨some ⟨gq, 0, none⟩, nQ, cQ1, q1, some ⟨gD, 0, none⟩, nD1, cD1, d1, (tn : Int), false, some ⟨gS, 0, none⟩, nS1, cS1, A1, L1, C1, z1⟩ tn (d1 tn - z1 tn 0)) tn a' c') tn 0)))) := (under2p HB4.out).trans (ht.below (by have := upper2p HB4.out; omega) (fun x hx => by simp at hx; omega))
                  have hOfin := (HR4.out.own.touch ht (fun x hx => by simp at hx; omega)).mono (show w.heap.size ≤ (w.heap.size + 2) by omega)
                  have HKo : Hid (Vh.heap[w.heap.size + 1]? = some (.cells #[.slice none 0 0, .slice none 0 0, .int .i64 0, .bool false, .slice none 0 0] 27 (0, 0))) := kOut
                  obtain ⟨Vo, hVo⟩ : ∃ Vo, Vo = Vh.setRow (w.heap.size + 1) (Rnd.cells (turnR (Rnd.defTo (Rnd.cut (Rnd.defTo ⟨some ⟨gq, 0, none⟩, nQ, cQ1, q1, some ⟨gD, 0, none⟩, nD1, cD1, d1, (tn : Int), false, some ⟨gS, 0, none⟩, nS1, cS1, A1, L1, C1, z1⟩ tn (d1 tn - z1 tn 0)) tn a' c') tn 0))) := ⟨_, rfl⟩
                  have eVo : Vh.setRow (w.heap.size + 1) (Rnd.cells (turnR (Rnd.defTo (Rnd.cut (Rnd.defTo ⟨some ⟨gq, 0, none⟩, nQ, cQ1, q1, some ⟨gD, 0, none⟩, nD1, cD1, d1, (tn : Int), false, some ⟨gS, 0, none⟩, nS1, cS1, A1, L1, C1, z1⟩ tn (d1 tn - z1 tn 0)) tn a' c') tn 0))) = Vo := hVo.symm
                  rw [← hVo] at hBfin hOfin cF
                  have HBfin : Hid (Below w.heap.size w Vo) := hBfin
                  have HOfin : Hid (OwnRn Vo w.heap.size (turnR (Rnd.defTo (Rnd.cut (Rnd.defTo ⟨some ⟨gq, 0, none⟩, nQ, cQ1, q1, some ⟨gD, 0, none⟩, nD1, cD1, d1, (tn : Int), false, some ⟨gS, 0, none⟩, nS1, cS1, A1, L1, C1, z1⟩ tn (d1 tn - z1 tn 0)) tn a' c') tn 0))) := hOfin
                  have HcF : Hid (∀ o, Vo.cell? ⟨w.heap.size + 1, o, none⟩ = (Rnd.cells (turnR (Rnd.defTo (Rnd.cut (Rnd.defTo ⟨some ⟨gq, 0, none⟩, nQ, cQ1, q1, some ⟨gD, 0, none⟩, nD1, cD1, d1, (tn : Int), false, some ⟨gS, 0, none⟩, nS1, cS1, A1, L1, C1, z1⟩ tn (d1 tn - z1 tn 0)) tn a' c') tn 0)))[o]?) := cF
                  have HeVo : Hid (Vh.setRow (w.heap.size + 1) (Rnd.cells (turnR (Rnd.defTo (Rnd.cut (Rnd.defTo ⟨some ⟨gq, 0, none⟩, nQ, cQ1, q1, some ⟨gD, 0, none⟩, nD1, cD1, d1, (tn : Int), false, some ⟨gS, 0, none⟩, nS1, cS1, A1, L1, C1, z1⟩ tn (d1 tn - z1 tn 0)) tn a' c') tn 0))) = Vo) := eVo
                  clear kOut ht cF hBfin hOfin hVo eVo
                  go_wp2_with (first | refine wpList_stR rfl (.tmp 7) (.tmp 110) rfl gb rfl (turnR (Rnd.defTo (Rnd.cut (Rnd.defTo ⟨some ⟨gq, 0, none⟩, nQ, cQ1, q1, some ⟨gD, 0, none⟩, nD1, cD1, d1, (tn : Int), false, some ⟨gS, 0, none⟩, nS1, cS1, A1, L1, C1, z1⟩ tn (d1 tn - z1 tn 0)) tn a' c') tn 0)).cells rfl (Rnd.cells (Rnd.defTo (Rnd.cut (Rnd.defTo ⟨some ⟨gq, 0, none⟩, nQ, cQ1, q1, some ⟨gD, 0, none⟩, nD1, cD1, d1, (tn : Int), false, some ⟨gS, 0, none⟩, nS1, cS1, A1, L1, C1, z1⟩ tn (d1 tn - z1 tn 0)) tn a' c') tn 0)) HKk.out rfl rfl (Rnd.cells_one _) (eVh ▸ ?_) | refine wpList_stR rfl (.tmp 2) (.tmp 111) rfl (w.heap.size + 1) rfl (Rnd.cells (turnR (Rnd.defTo (Rnd.cut (Rnd.defTo ⟨some ⟨gq, 0, none⟩, nQ, cQ1, q1, some ⟨gD, 0, none⟩, nD1, cD1, d1, (tn : Int), false, some ⟨gS, 0, none⟩, nS1, cS1, A1, L1, C1, z1⟩ tn (d1 tn - z1 tn 0)) tn a' c') tn 0))) rfl #[.slice none 0 0, .slice none 0 0, .int .i64 0, .bool false, .slice none 0 0] HKo.out rfl rfl (Rnd.cells_one _) (HeVo.out ▸ ?_))
                  have cF := HcF.out
                  exact bodyPost_ret (v := .tuple #[.agg (Rnd.cells (turnR (Rnd.defTo (Rnd.cut (Rnd.defTo ⟨some ⟨gq, 0, none⟩, nQ, cQ1, q1, some ⟨gD, 0, none⟩, nD1, cD1, d1, (tn : Int), false, some ⟨gS, 0, none⟩, nS1, cS1, A1, L1, C1, z1⟩ tn (d1 tn - z1 tn 0)) tn a' c') tn 0))), .int .i64 (tn : Int), .int .i64 (z1 tn 0)]) (by simp [results, Try.results27, go_sem, cF, Rnd.cells]) rfl ⟨(turnR (Rnd.defTo (Rnd.cut (Rnd.defTo ⟨some ⟨gq, 0, none⟩, nQ, cQ1, q1, some ⟨gD, 0, none⟩, nD1, cD1, d1, (tn : Int), false, some ⟨gS, 0, none⟩, nS1, cS1, A1, L1, C1, z1⟩ tn (d1 tn - z1 tn 0)) tn a' c') tn 0)), rfl, HOfin.out, HBfin.out, HA.out.trans (HR2.out ▸ last_alike HNc.out HN1.out a' c')⟩
                · have hone2 : ¬ L1 tn - 1 = 0 := by omega
                  have HN1 : Hid (L1 tn ≠ 1) := hone
                  clear hone
                  have kOut := out2p HBf.out
                  have ht := setRow_touchR Vf (w.heap.size + 1) (Rnd.cells (Rnd.cut (Rnd.defTo ⟨some ⟨gq, 0, none⟩, nQ, cQ1, q1, some ⟨gD, 0, none⟩, nD1, cD1, d1, (tn : Int), false, some ⟨gS, 0, none⟩, nS1, cS1, A1, L1, C1, z1⟩ tn (d1 tn - z1 tn 0)) tn a' c'))
                  have cF := blk_cell (setRow_blkR kOut (cs := Rnd.cells (Rnd.cut (Rnd.defTo ⟨some ⟨gq, 0, none⟩, nQ, cQ1, q1, some ⟨gD, 0, none⟩, nD1, cD1, d1, (tn : Int), false, some ⟨gS, 0, none⟩, nS1, cS1, A1, L1, C1, z1⟩ tn (d1 tn - z1 tn 0)) tn a' c')))
                  have hBfin : Below w.heap.size w (Vf.setRow (w.heap.size + 1) (Rnd.cells (Rnd.cut (Rnd.defTo ⟨some ⟨gq, 0, none⟩, nQ, cQ1, q1, some ⟨gD, 0, none⟩, nD1, cD1, d1, (tn : Int), false, some ⟨gS, 0, none⟩, nS1, cS1, A1, L1, C1, z1⟩ tn (d1 tn - z1 tn 0)) tn a' c'))) := (under2p HBf.out).trans (ht.below (by have := upper2p HBf.out; omega) (fun x hx => by simp at hx; omega))
                  have hOfin := (HOf.out.touch ht (fun x hx => by simp at hx; omega)).mono (show w.heap.size ≤ (w.heap.size + 2) by omega)
                  have HKo : Hid (Vf.heap[w.heap.size + 1]? = some (.cells #[.slice none 0 0, .slice none 0 0, .int .i64 0, .bool false, .slice none 0 0] 27 (0, 0))) := kOut
                  obtain ⟨Vo, hVo⟩ : ∃ Vo, Vo = Vf.setRow (w.heap.size + 1) (Rnd.cells (Rnd.cut (Rnd.defTo ⟨some ⟨gq, 0, none⟩, nQ, cQ1, q1, some ⟨gD, 0, none⟩, nD1, cD1, d1, (tn : Int), false, some ⟨gS, 0, none⟩, nS1, cS1, A1, L1, C1, z1⟩ tn (d1 tn - z1 tn 0)) tn a' c')) := ⟨_, rfl⟩
                  have eVo : Vf.setRow (w.heap.size + 1) (Rnd.cells (Rnd.cut (Rnd.defTo ⟨some ⟨gq, 0, none⟩, nQ, cQ1, q1, some ⟨gD, 0, none⟩, nD1, cD1, d1, (tn : Int), false, some ⟨gS, 0, none⟩, nS1, cS1, A1, L1, C1, z1⟩ tn (d1 tn - z1 tn 0)) tn a' c')) = Vo := hVo.symm
                  rw [← hVo] at hBfin hOfin cF
                  have HBfin : Hid (Below w.heap.size w Vo) := hBfin
                  have HOfin : Hid (OwnRn Vo w.heap.size (Rnd.cut (Rnd.defTo ⟨some ⟨gq, 0, none⟩, nQ, cQ1, q1, some ⟨gD, 0, none⟩, nD1, cD1, d1, (tn : Int), false, some ⟨gS, 0, none⟩, nS1, cS1, A1, L1, C1, z1⟩ tn (d1 tn - z1 tn 0)) tn a' c')) := hOfin
                  have HcF : Hid (∀ o, Vo.cell? ⟨w.heap.size + 1, o, none⟩ = (Rnd.cells (Rnd.cut (Rnd.defTo ⟨some ⟨gq, 0, none⟩, nQ, cQ1, q1, some ⟨gD, 0, none⟩, nD1, cD1, d1, (tn : Int), false, some ⟨gS, 0, none⟩, nS1, cS1, A1, L1, C1, z1⟩ tn (d1 tn - z1 tn 0)) tn a' c'))[o]?) := cF
                  have HeVo : Hid (Vf.setRow (w.heap.size + 1) (Rnd.cells (Rnd.cut (Rnd.defTo ⟨some ⟨gq, 0, none⟩, nQ, cQ1, q1, some ⟨gD, 0, none⟩, nD1, cD1, d1, (tn : Int), false, some ⟨gS, 0, none⟩, nS1, cS1, A1, L1, C1, z1⟩ tn (d1 tn - z1 tn 0)) tn a' c')) = Vo) := eVo
                  clear kOut ht cF hBfin hOfin hVo eVo
                  go_wp2_with (refine wpList_stR rfl (.tmp 2) (.tmp 111) rfl (w.heap.size + 1) rfl (Rnd.cells (Rnd.cut (Rnd.defTo ⟨some ⟨gq, 0, none⟩, nQ, cQ1, q1, some ⟨gD, 0, none⟩, nD1, cD1, d1, (tn : Int), false, some ⟨gS, 0, none⟩, nS1, cS1, A1, L1, C1, z1⟩ tn (d1 tn - z1 tn 0)) tn a' c')) rfl #[.slice none 0 0, .slice none 0 0, .int .i64 0, .bool false, .slice none 0 0] HKo.out rfl rfl (Rnd.cells_one _) (HeVo.out ▸ ?_))
                  have cF := HcF.out
                  exact bodyPost_ret (v := .tuple #[.agg (Rnd.cells (Rnd.cut (Rnd.defTo ⟨some ⟨gq, 0, none⟩, nQ, cQ1, q1, some ⟨gD, 0, none⟩, nD1, cD1, d1, (tn : Int), false, some ⟨gS, 0, none⟩, nS1, cS1, A1, L1, C1, z1⟩ tn (d1 tn - z1 tn 0)) tn a' c')), .int .i64 (tn : Int), .int .i64 (z1 tn 0)]) (by simp [results, Try.results27, go_sem, cF, Rnd.cells]) rfl ⟨(Rnd.cut (Rnd.defTo ⟨some ⟨gq, 0, none⟩, nQ, cQ1, q1, some ⟨gD, 0, none⟩, nD1, cD1, d1, (tn : Int), false, some ⟨gS, 0, none⟩, nS1, cS1, A1, L1, C1, z1⟩ tn (d1 tn - z1 tn 0)) tn a' c'), rfl, HOfin.out, HBfin.out, HA.out.trans (HR2.out ▸ took_alike HNc.out HN1.out a' c')⟩
              · go_simp
                refine hK.out _ _ cgy (fun hHeld => ?_)
                clear hK K
                try simp only [Act.put, List.setIfInBounds_toArray, List.set_cons_zero, List.set_cons_succ]
                refine takeD (i := 9) (some 95) (v := .slice (some ⟨gz, qz, none⟩) (L1 tn - 1) (C1 tn - 1)) rfl rfl (by kernel_rfl) (by kernel_rfl) (by kernel_rfl) (fun _ _ _ h => h) (by kernel_rfl) ?_ (by assumption) ?_
                · intro wx hSw
                  have h9 := run_cutS gz qz (L1 tn) (C1 tn) wx Hz.out Hqz.out
                  clear hSw
                  go_simp
                  first | done | exact Hqz.out
                try simp only [Act.put, List.setIfInBounds_toArray, List.set_cons_zero, List.set_cons_succ]
                refine wpAnyH_ready (rs := [3]) (by kernel_rfl) (by simp) ?_
                refine AllReadyH.cons rfl (fun K hK => ?_) AllReadyH.nil
                go_simp
                refine hK.out _ _ cga (fun hHeld => ?_)
                clear hK K
                try simp only [Act.put, List.setIfInBounds_toArray, List.set_cons_zero, List.set_cons_succ]
                refine wpAnyH_ready (rs := [10]) (by kernel_rfl) (by simp) ?_
                refine AllReadyH.cons rfl (fun K hK => ?_) AllReadyH.nil
                refine wp_appD (by kernel_rfl) (some 96) (.tmp 89) (.tmp 95) 24 _ _ _ rfl rfl rfl rfl rfl hrun ?_
                refine hK.out _ _ cgz (fun hHeld => ?_)
                clear hK K
                try simp only [Act.put, List.setIfInBounds_toArray, List.set_cons_zero, List.set_cons_succ]
                refine takeD (i := 11) (some 97) (v := ?_) rfl rfl (by kernel_rfl) (by kernel_rfl) (by kernel_rfl) (fun _ _ _ h => h) (by kernel_rfl) ?_ (by assumption) ?_
                rotate_left
                · intro wx hSw
                  try dsimp only at hSw
                  go_simp
                  try (with_reducible rfl)
                try simp only [Act.put, List.setIfInBounds_toArray, List.set_cons_zero, List.set_cons_succ]
                refine wpAnyH_ready (rs := [12]) (by kernel_rfl) (by simp) ?_
                refine AllReadyH.cons rfl (fun K hK => ?_) AllReadyH.nil
                go_simp
                try rw [eVf]
                refine hK.out _ _ cgf (fun hHeld => ?_)
                clear hK K
                try simp only [Act.put, List.setIfInBounds_toArray, List.set_cons_zero, List.set_cons_succ]
                refine wpAnyH_done (by kernel_rfl) ?_ _
                clear hHeld cgy cga cgz csy csa csz fsz hrun eVf
                by_cases hone : L1 tn = 1
                · have HN1 : Hid (L1 tn = 1) := hone
                  have hone2 : L1 tn - 1 = 0 := by omega
                  have hRf := HRf.out hone
                  rw [hone2] at csf
                  have hgD2 : (w.heap.size + 2) ≤ gD := by
                    rcases hRf.own.d with h0 | ⟨g, hg, h9, hr⟩
                    · have h3 : nD1 = 0 := h0
                      omega
                    · cases hg
                      exact h9
                  obtain ⟨cdf, fdf⟩ : (∃ vd, Vf.cell? ⟨gD, tn, none⟩ = some (.int .i64 vd)) ∧ Vf.frozen? ⟨gD, tn, none⟩ = false := by
                    rcases hRf.own.d with h0 | ⟨g, hg, h9, hr⟩
                    · have h3 : nD1 = 0 := h0
                      omega
                    · cases hg
                      exact ⟨⟨_, hr.at tn (show tn < nD1 by omega)⟩, hr.free tn⟩
                  obtain ⟨vd, cdf⟩ := cdf
                  have hR3 := hRf.def (c := tn) (show tn < nD1 by omega) 0
                  have hB3 := HBf.out.trans (((Touch.refl [gD] Vf).set (g := gD) (by simp) tn (.int .i64 0)).below (upper2p HBf.out) (fun x hx => by simp at hx; subst hx; exact hgD2))
                  obtain ⟨Vg, hVg⟩ : ∃ Vg, Vg = Vf.setCell ⟨gD, tn, none⟩ (.int .i64 0) := ⟨_, rfl⟩
                  rw [← hVg] at hR3 hB3
                  have eVg : Vf.setCell ⟨gD, tn, none⟩ (.int .i64 0) = Vg := hVg.symm
                  have cgg := blk_cell hR3.box
                  dsimp only [Rnd.cells, Rnd.defTo, Rnd.cut] at cgg
                  have HR3 : Hid (Rep Vg (w.heap.size + 2) gb gD (Rnd.defTo (Rnd.cut (Rnd.defTo ⟨some ⟨gq, 0, none⟩, nQ, cQ1, q1, some ⟨gD, 0, none⟩, nD1, cD1, d1, (tn : Int), false, some ⟨gS, 0, none⟩, nS1, cS1, A1, L1, C1, z1⟩ tn (d1 tn - z1 tn 0)) tn a' c') tn 0) (Rnd.defTo (Rnd.cut (Rnd.defTo ⟨some ⟨gq, 0, none⟩, nQ, cQ1, q1, some ⟨gD, 0, none⟩, nD1, cD1, d1, (tn : Int), false, some ⟨gS, 0, none⟩, nS1, cS1, A1, L1, C1, z1⟩ tn (d1 tn - z1 tn 0)) tn a' c') tn 0)) := hR3
                  have HB3 : Hid (Below (w.heap.size + 2) ((w.alloc (.cells #[.slice aQ nQ cQ, .slice aD nD cD, .int .i64 turn, .bool fresh, .slice aS j cS] 27)).alloc (.cells #[.slice none 0 0, .slice none 0 0, .int .i64 0, .bool false, .slice none 0 0] 27)) Vg) := hB3
                  clear hRf hgD2 hR3 hB3 hVg hone
                  go_wp2_with fail
                  refine (l4Turn_w (Rnd.defTo (Rnd.cut (Rnd.defTo ⟨some ⟨gq, 0, none⟩, nQ, cQ1, q1, some ⟨gD, 0, none⟩, nD1, cD1, d1, (tn : Int), false, some ⟨gS, 0, none⟩, nS1, cS1, A1, L1, C1, z1⟩ tn (d1 tn - z1 tn 0)) tn a' c') tn 0) _ HO.out.n HO.out.t).mono ?_
                  rintro e w' ⟨rfl, hb⟩
                  have hup := HR3.out.up hb
                  have hr4 := hup.turn
                  have hB4 : Below (w.heap.size + 2) ((w.alloc (.cells #[.slice aQ nQ cQ, .slice aD nD cD, .int .i64 turn, .bool fresh, .slice aS j cS] 27)).alloc (.cells #[.slice none 0 0, .slice none 0 0, .int .i64 0, .bool false, .slice none 0 0] 27)) (w'.setRow gb (turnR (Rnd.defTo (Rnd.cut (Rnd.defTo ⟨some ⟨gq, 0, none⟩, nQ, cQ1, q1, some ⟨gD, 0, none⟩, nD1, cD1, d1, (tn : Int), false, some ⟨gS, 0, none⟩, nS1, cS1, A1, L1, C1, z1⟩ tn (d1 tn - z1 tn 0)) tn a' c') tn 0)).cells) := (next2p HB3.out hb).trans ((setRow_touchR w' gb (turnR (Rnd.defTo (Rnd.cut (Rnd.defTo ⟨some ⟨gq, 0, none⟩, nQ, cQ1, q1, some ⟨gD, 0, none⟩, nD1, cD1, d1, (tn : Int), false, some ⟨gS, 0, none⟩, nS1, cS1, A1, L1, C1, z1⟩ tn (d1 tn - z1 tn 0)) tn a' c') tn 0)).cells).below (by have := upper2p HB3.out; have := hb.size; omega) (fun x hx => by simp at hx; subst hx; exact Hgb.out))
                  have HKk : Hid (w'.heap[gb]? = some (.cells (Rnd.cells (Rnd.defTo (Rnd.cut (Rnd.defTo ⟨some ⟨gq, 0, none⟩, nQ, cQ1, q1, some ⟨gD, 0, none⟩, nD1, cD1, d1, (tn : Int), false, some ⟨gS, 0, none⟩, nS1, cS1, A1, L1, C1, z1⟩ tn (d1 tn - z1 tn 0)) tn a' c') tn 0)) 27 (0, 0))) := hup.box
                  obtain ⟨Vh, hVh⟩ : ∃ Vh, Vh = w'.setRow gb (turnR (Rnd.defTo (Rnd.cut (Rnd.defTo ⟨some ⟨gq, 0, none⟩, nQ, cQ1, q1, some ⟨gD, 0, none⟩, nD1, cD1, d1, (tn : Int), false, some ⟨gS, 0, none⟩, nS1, cS1, A1, L1, C1, z1⟩ tn (d1 tn - z1 tn 0)) tn a' c') tn 0)).cells := ⟨_, rfl⟩
                  rw [← hVh] at hr4 hB4
                  have eVh : w'.setRow gb (turnR (Rnd.defTo (Rnd.cut (Rnd.defTo ⟨some ⟨gq, 0, none⟩, nQ, cQ1, q1, some ⟨gD, 0, none⟩, nD1, cD1, d1, (tn : Int), false, some ⟨gS, 0, none⟩, nS1, cS1, A1, L1, C1, z1⟩ tn (d1 tn - z1 tn 0)) tn a' c') tn 0)).cells = Vh := hVh.symm
                  have cgh := blk_cell hr4.box
                  have HR4 : Hid (Rep Vh (w.heap.size + 2) gb gD (turnR (Rnd.defTo (Rnd.cut (Rnd.defTo ⟨some ⟨gq, 0, none⟩, nQ, cQ1, q1, some ⟨gD, 0, none⟩, nD1, cD1, d1, (tn : Int), false, some ⟨gS, 0, none⟩, nS1, cS1, A1, L1, C1, z1⟩ tn (d1 tn - z1 tn 0)) tn a' c') tn 0)) (turnR (Rnd.defTo (Rnd.cut (Rnd.defTo ⟨some ⟨gq, 0, none⟩, nQ, cQ1, q1, some ⟨gD, 0, none⟩, nD1, cD1, d1, (tn : Int), false, some ⟨gS, 0, none⟩, nS1, cS1, A1, L1, C1, z1⟩ tn (d1 tn - z1 tn 0)) tn a' c') tn 0))) := hr4
                  have HB4 : Hid (Below (w.heap.size + 2) ((w.alloc (.cells #[.slice aQ nQ cQ, .slice aD nD cD, .int .i64 turn, .bool fresh, .slice aS j cS] 27)).alloc (.cells #[.slice none 0 0, .slice none 0 0, .int .i64 0, .bool false, .slice none 0 0] 27)) Vh) := hB4
                  dsimp only [Rnd.cells, turnR, Rnd.defTo, Rnd.cut] at cgh
                  clear hup hr4 hB4 hVh hb cgg csf cgf eVg cdf fdf
                  have kOut := out2p HB4.out
                  have ht := setRow_touchR Vh (w.heap.size + 1) (Rnd.cells (turnR (Rnd.defTo (Rnd.cut (Rnd.defTo ⟨some ⟨gq, 0, none⟩, nQ, cQ1, q1, some ⟨gD, 0, none⟩, nD1, cD1, d1, (tn : Int), false, some ⟨gS, 0, none⟩, nS1, cS1, A1, L1, C1, z1⟩ tn (d1 tn - z1 tn 0)) tn a' c') tn 0)))
                  have cF := blk_cell (setRow_blkR kOut (cs := Rnd.cells (turnR (Rnd.defTo (Rnd.cut (Rnd.defTo ⟨some ⟨gq, 0, none⟩, nQ, cQ1, q1, some ⟨gD, 0, none⟩, nD1, cD1, d1, (tn : Int), false, some ⟨gS, 0, none⟩, nS1, cS1, A1, L1, C1, z1⟩ tn (d1 tn - z1 tn 0)) tn a' c') tn 0))))
                  have hBfin : Below w.heap.size w (Vh.setRow (w.heap.size + 1) (Rnd.cells (turnR (Rnd.defTo (Rnd.cut (Rnd.defTo ⟨some ⟨gq, 0, none⟩, nQ, cQ1, q1, some ⟨gD, 0, none⟩, nD1, cD1, d1, (tn : Int), false, some ⟨gS, 0, none⟩, nS1, cS1, A1, L1, C1, z1⟩ tn (d1 tn - z1 tn 0)) tn a' c') tn 0)))) := (under2p HB4.out).trans (ht.below (by have := upper2p HB4.out; omega) (fun x hx => by simp at hx; omega))
                  have hOfin := (HR4.out.own.touch ht (fun x hx => by simp at hx; omega)).mono (show w.heap.size ≤ (w.heap.size + 2) by omega)
                  have HKo : Hid (Vh.heap[w.heap.size + 1]? = some (.cells #[.slice none 0 0, .slice none 0 0, .int .i64 0, .bool false, .slice none 0 0] 27 (0, 0))) := kOut
                  obtain ⟨Vo, hVo⟩ : ∃ Vo, Vo = Vh.setRow (w.heap.size + 1) (Rnd.cells (turnR (Rnd.defTo (Rnd.cut (Rnd.defTo ⟨some ⟨gq, 0, none⟩, nQ, cQ1, q1, some ⟨gD, 0, none⟩, nD1, cD1, d1, (tn : Int), false, some ⟨gS, 0, none⟩, nS1, cS1, A1, L1, C1, z1⟩ tn (d1 tn - z1 tn 0)) tn a' c') tn 0))) := ⟨_, rfl⟩
                  have eVo : Vh.setRow (w.heap.size + 1) (Rnd.cells (turnR (Rnd.defTo (Rnd.cut (Rnd.defTo ⟨some ⟨gq, 0, none⟩, nQ, cQ1, q1, some ⟨gD, 0, none⟩, nD1, cD1, d1, (tn : Int), false, some ⟨gS, 0, none⟩, nS1, cS1, A1, L1, C1, z1⟩ tn (d1 tn - z1 tn 0)) tn a' c') tn 0))) = Vo := hVo.symm
                  rw [← hVo] at hBfin hOfin cF
                  have HBfin : Hid (Below w.heap.size w Vo) := hBfin
                  have HOfin : Hid (OwnRn Vo w.heap.size (turnR (Rnd.defTo (Rnd.cut (Rnd.defTo ⟨some ⟨gq, 0, none⟩, nQ, cQ1, q1, some ⟨gD, 0, none⟩, nD1, cD1, d1, (tn : Int), false, some ⟨gS, 0, none⟩, nS1, cS1, A1, L1, C1, z1⟩ tn (d1 tn - z1 tn 0)) tn a' c') tn 0))) := hOfin
                  have HcF : Hid (∀ o, Vo.cell? ⟨w.heap.size + 1, o, none⟩ = (Rnd.cells (turnR (Rnd.defTo (Rnd.cut (Rnd.defTo ⟨some ⟨gq, 0, none⟩, nQ, cQ1, q1, some ⟨gD, 0, none⟩, nD1, cD1, d1, (tn : Int), false, some ⟨gS, 0, none⟩, nS1, cS1, A1, L1, C1, z1⟩ tn (d1 tn - z1 tn 0)) tn a' c') tn 0)))[o]?) := cF
                  have HeVo : Hid (Vh.setRow (w.heap.size + 1) (Rnd.cells (turnR (Rnd.defTo (Rnd.cut (Rnd.defTo ⟨some ⟨gq, 0, none⟩, nQ, cQ1, q1, some ⟨gD, 0, none⟩, nD1, cD1, d1, (tn : Int), false, some ⟨gS, 0, none⟩, nS1, cS1, A1, L1, C1, z1⟩ tn (d1 tn - z1 tn 0)) tn a' c') tn 0))) = Vo) := eVo
                  clear kOut ht cF hBfin hOfin hVo eVo
                  go_wp2_with (first | refine wpList_stR rfl (.tmp 7) (.tmp 110) rfl gb rfl (turnR (Rnd.defTo (Rnd.cut (Rnd.defTo ⟨some ⟨gq, 0, none⟩, nQ, cQ1, q1, some ⟨gD, 0, none⟩, nD1, cD1, d1, (tn : Int), false, some ⟨gS, 0, none⟩, nS1, cS1, A1, L1, C1, z1⟩ tn (d1 tn - z1 tn 0)) tn a' c') tn 0)).cells rfl (Rnd.cells (Rnd.defTo (Rnd.cut (Rnd.defTo ⟨some ⟨gq, 0, none⟩, nQ, cQ1, q1, some ⟨gD, 0, none⟩, nD1, cD1, d1, (tn : Int), false, some ⟨gS, 0, none⟩, nS1, cS1, A1, L1, C1, z1⟩ tn (d1 tn - z1 tn 0)) tn a' c') tn 0)) HKk.out rfl rfl (Rnd.cells_one _) (eVh ▸ ?_) | refine wpList_stR rfl (.tmp 2) (.tmp 111) rfl (w.heap.size + 1) rfl (Rnd.cells (turnR (Rnd.defTo (Rnd.cut (Rnd.defTo ⟨some ⟨gq, 0, none⟩, nQ, cQ1, q1, some ⟨gD, 0, none⟩, nD1, cD1, d1, (tn : Int), false, some ⟨gS, 0, none⟩, nS1, cS1, A1, L1, C1, z1⟩ tn (d1 tn - z1 tn 0)) tn a' c') tn 0))) rfl #[.slice none 0 0, .slice none 0 0, .int .i64 0, .bool false, .slice none 0 0] HKo.out rfl rfl (Rnd.cells_one _) (HeVo.out ▸ ?_))
                  have cF := HcF.out
                  exact bodyPost_ret (v := .tuple #[.agg (Rnd.cells (turnR (Rnd.defTo (Rnd.cut (Rnd.defTo ⟨some ⟨gq, 0, none⟩, nQ, cQ1, q1, some ⟨gD, 0, none⟩, nD1, cD1, d1, (tn : Int), false, some ⟨gS, 0, none⟩, nS1, cS1, A1, L1, C1, z1⟩ tn (d1 tn - z1 tn 0)) tn a' c') tn 0))), .int .i64 (tn : Int), .int .i64 (z1 tn 0)]) (by simp [results, Try.results27, go_sem, cF, Rnd.cells]) rfl ⟨(turnR (Rnd.defTo (Rnd.cut (Rnd.defTo ⟨some ⟨gq, 0, none⟩, nQ, cQ1, q1, some ⟨gD, 0, none⟩, nD1, cD1, d1, (tn : Int), false, some ⟨gS, 0, none⟩, nS1, cS1, A1, L1, C1, z1⟩ tn (d1 tn - z1 tn 0)) tn a' c') tn 0)), rfl, HOfin.out, HBfin.out, HA.out.trans (HR2.out ▸ last_alike HNc.out HN1.out a' c')⟩
                · have hone2 : ¬ L1 tn - 1 = 0 := by omega
                  have HN1 : Hid (L1 tn ≠ 1) := hone
                  clear hone
                  have kOut := out2p HBf.out
                  have ht := setRow_touchR Vf (w.heap.size + 1) (Rnd.cells (Rnd.cut (Rnd.defTo ⟨some ⟨gq, 0, none⟩, nQ, cQ1, q1, some ⟨gD, 0, none⟩, nD1, cD1, d1, (tn : Int), false, some ⟨gS, 0, none⟩, nS1, cS1, A1, L1, C1, z1⟩ tn (d1 tn - z1 tn 0)) tn a' c'))
                  have cF := blk_cell (setRow_blkR kOut (cs := Rnd.cells (Rnd.cut (Rnd.defTo ⟨some ⟨gq, 0, none⟩, nQ, cQ1, q1, some ⟨gD, 0, none⟩, nD1, cD1, d1, (tn : Int), false, some ⟨gS, 0, none⟩, nS1, cS1, A1, L1, C1, z1⟩ tn (d1 tn - z1 tn 0)) tn a' c')))
                  have hBfin : Below w.heap.size w (Vf.setRow (w.heap.size + 1) (Rnd.cells (Rnd.cut (Rnd.defTo ⟨some ⟨gq, 0, none⟩, nQ, cQ1, q1, some ⟨gD, 0, none⟩, nD1, cD1, d1, (tn : Int), false, some ⟨gS, 0, none⟩, nS1, cS1, A1, L1, C1, z1⟩ tn (d1 tn - z1 tn 0)) tn a' c'))) := (under2p HBf.out).trans (ht.below (by have := upper2p HBf.out; omega) (fun x hx => by simp at hx; omega))
                  have hOfin := (HOf.out.touch ht (fun x hx => by simp at hx; omega)).mono (show w.heap.size ≤ (w.heap.size + 2) by omega)
                  have HKo : Hid (Vf.heap[w.heap.size + 1]? = some (.cells #[.slice none 0 0, .slice none 0 0, .int .i64 0, .bool false, .slice none 0 0] 27 (0, 0))) := kOut
                  obtain ⟨Vo, hVo⟩ : ∃ Vo, Vo = Vf.setRow (w.heap.size + 1) (Rnd.cells (Rnd.cut (Rnd.defTo ⟨some ⟨gq, 0, none⟩, nQ, cQ1, q1, some ⟨gD, 0, none⟩, nD1, cD1, d1, (tn : Int), false, some ⟨gS, 0, none⟩, nS1, cS1, A1, L1, C1, z1⟩ tn (d1 tn - z1 tn 0)) tn a' c')) := ⟨_, rfl⟩
                  have eVo : Vf.setRow (w.heap.size + 1) (Rnd.cells (Rnd.cut (Rnd.defTo ⟨some ⟨gq, 0, none⟩, nQ, cQ1, q1, some ⟨gD, 0, none⟩, nD1, cD1, d1, (tn : Int), false, some ⟨gS, 0, none⟩, nS1, cS1, A1, L1, C1, z1⟩ tn (d1 tn - z1 tn 0)) tn a' c')) = Vo := hVo.symm
                  rw [← hVo] at hBfin hOfin cF
                  have HBfin : Hid (Below w.heap.size w Vo) := hBfin
                  have HOfin : Hid (OwnRn Vo w.heap.size (Rnd.cut (Rnd.defTo ⟨some ⟨gq, 0, none⟩, nQ, cQ1, q1, some ⟨gD, 0, none⟩, nD1, cD1, d1, (tn : Int), false, some ⟨gS, 0, none⟩, nS1, cS1, A1, L1, C1, z1⟩ tn (d1 tn - z1 tn 0)) tn a' c')) := hOfin
                  have HcF : Hid (∀ o, Vo.cell? ⟨w.heap.size + 1, o, none⟩ = (Rnd.cells (Rnd.cut (Rnd.defTo ⟨some ⟨gq, 0, none⟩, nQ, cQ1, q1, some ⟨gD, 0, none⟩, nD1, cD1, d1, (tn : Int), false, some ⟨gS, 0, none⟩, nS1, cS1, A1, L1, C1, z1⟩ tn (d1 tn - z1 tn 0)) tn a' c'))[o]?) := cF
                  have HeVo : Hid (Vf.setRow (w.heap.size + 1) (Rnd.cells (Rnd.cut (Rnd.defTo ⟨some ⟨gq, 0, none⟩, nQ, cQ1, q1, some ⟨gD, 0, none⟩, nD1, cD1, d1, (tn : Int), false, some ⟨gS, 0, none⟩, nS1, cS1, A1, L1, C1, z1⟩ tn (d1 tn - z1 tn 0)) tn a' c')) = Vo) := eVo
                  clear kOut ht cF hBfin hOfin hVo eVo
                  go_wp2_with (refine wpList_stR rfl (.tmp 2) (.tmp 111) rfl (w.heap.size + 1) rfl (Rnd.cells (Rnd.cut (Rnd.defTo ⟨some ⟨gq, 0, none⟩, nQ, cQ1, q1, some ⟨gD, 0, none⟩, nD1, cD1, d1, (tn : Int), false, some ⟨gS, 0, none⟩, nS1, cS1, A1, L1, C1, z1⟩ tn (d1 tn - z1 tn 0)) tn a' c')) rfl #[.slice none 0 0, .slice none 0 0, .int .i64 0, .bool false, .slice none 0 0] HKo.out rfl rfl (Rnd.cells_one _) (HeVo.out ▸ ?_))
                  have cF := HcF.out
                  exact bodyPost_ret (v := .tuple #[.agg (Rnd.cells (Rnd.cut (Rnd.defTo ⟨some ⟨gq, 0, none⟩, nQ, cQ1, q1, some ⟨gD, 0, none⟩, nD1, cD1, d1, (tn : Int), false, some ⟨gS, 0, none⟩, nS1, cS1, A1, L1, C1, z1⟩ tn (d1 tn - z1 tn 0)) tn a' c')), .int .i64 (tn : Int), .int .i64 (z1 tn 0)]) (by simp [results, Try.results27, go_sem, cF, Rnd.cells]) rfl ⟨(Rnd.cut (Rnd.defTo ⟨some ⟨gq, 0, none⟩, nQ, cQ1, q1, some ⟨gD, 0, none⟩, nD1, cD1, d1, (tn : Int), false, some ⟨gS, 0, none⟩, nS1, cS1, A1, L1, C1, z1⟩ tn (d1 tn - z1 tn 0)) tn a' c'), rfl, HOfin.out, HBfin.out, HA.out.trans (HR2.out ▸ took_alike HNc.out HN1.out a' c')⟩
          · have hw0 : IntKind.i64.wrap (d1 tn + q1 tn) = d1 tn + q1 tn := wrapR _ (by omega) (by omega)
            obtain ⟨dg, hdg⟩ : ∃ dg, dg = updI d1 tn (d1 tn + q1 tn) := ⟨_, rfl⟩
            have edg : dg tn = d1 tn + q1 tn := by rw [hdg, updI_self]
            have hw1 : IntKind.i64.wrap (dg tn - z1 tn 0) = dg tn - z1 tn 0 := wrapR _ (by have := Hzr.out; omega) (by have := Hzr.out; omega)
            have HG : Hid (grantR ⟨some ⟨gq, 0, none⟩, nQ, cQ1, q1, some ⟨gD, 0, none⟩, nD1, cD1, d1, (tn : Int), true, some ⟨gS, 0, none⟩, nS1, cS1, A1, L1, C1, z1⟩ = ⟨some ⟨gq, 0, none⟩, nQ, cQ1, q1, some ⟨gD, 0, none⟩, nD1, cD1, dg, (tn : Int), false, some ⟨gS, 0, none⟩, nS1, cS1, A1, L1, C1, z1⟩) := by
              rw [Hid, hdg]
              rfl
            have hRd := HR.out.up ((Below.refl wr.heap.size wr).drew)
            have hBd := HBr.out.drew
            obtain ⟨Wd, hWd⟩ : ∃ Wd, Wd = wr.drew := ⟨_, rfl⟩
            rw [← hWd] at hRd hBd
            have hgD2 : (w.heap.size + 2) ≤ gD := by
              rcases hRd.own.d with h0 | ⟨g, hg, h9, _⟩
              · have h3 : nD1 = 0 := h0
                omega
              · cases hg
                exact h9
            have hsz : (w.heap.size + 2) ≤ Wd.heap.size := upper2p hBd
            have hRx := hRd.def (c := tn) (show tn < nD1 by omega) (d1 tn + q1 tn)
            have hBx := hBd.trans (((Touch.refl [gD] Wd).set (g := gD) (by simp) tn (.int .i64 (d1 tn + q1 tn))).below hsz (fun x hx => by simp at hx; subst hx; exact hgD2))
            have crd := hRd.own.rd
            have crx := hRx.own.rd
            obtain ⟨Wx, hWx⟩ : ∃ Wx, Wx = Wd.setCell ⟨gD, tn, none⟩ (.int .i64 (d1 tn + q1 tn)) := ⟨_, rfl⟩
            rw [← hWx] at hRx hBx crx
            have hRg := hRx.begun
            have hBg := hBx.trans (((Touch.refl [gb] Wx).set (g := gb) (by simp) 3 (.bool false)).below (upper2p hBx) (fun x hx => by simp at hx; subst hx; exact Hgb.out))
            obtain ⟨Wg, hWg⟩ : ∃ Wg, Wg = Wx.setCell ⟨gb, 3, none⟩ (.bool false) := ⟨_, rfl⟩
            rw [← hWg] at hRg hBg
            unfold Rnd.defTo at hRx hRg crx
            dsimp only at hRx hRg crx
            rw [← hdg] at hRx hRg crx
            have HRg : Hid (Rep Wg (w.heap.size + 2) gb gD ⟨some ⟨gq, 0, none⟩, nQ, cQ1, q1, some ⟨gD, 0, none⟩, nD1, cD1, dg, (tn : Int), false, some ⟨gS, 0, none⟩, nS1, cS1, A1, L1, C1, z1⟩ ⟨some ⟨gq, 0, none⟩, nQ, cQ1, q1, some ⟨gD, 0, none⟩, nD1, cD1, dg, (tn : Int), false, some ⟨gS, 0, none⟩, nS1, cS1, A1, L1, C1, z1⟩) := hRg
            have HBg : Hid (Below (w.heap.size + 2) ((w.alloc (.cells #[.slice aQ nQ cQ, .slice aD nD cD, .int .i64 turn, .bool fresh, .slice aS j cS] 27)).alloc (.cells #[.slice none 0 0, .slice none 0 0, .int .i64 0, .bool false, .slice none 0 0] 27)) Wg) := hBg
            have cgd := blk_cell hRd.box
            have cgx := blk_cell hRx.box
            have fgx := blk_free hRx.box
            unfold Rnd.cells at cgd cgx
            dsimp only at cgd cgx
            have cqd : Wd.cell? ⟨gq, tn, none⟩ = some (.int .i64 (q1 tn)) := by
              obtain ⟨g, o, e, hc⟩ := crd.q tn (by show tn < nQ; omega)
              cases e
              rw [Nat.zero_add] at hc
              exact hc
            have cqx : Wx.cell? ⟨gq, tn, none⟩ = some (.int .i64 (q1 tn)) := by
              obtain ⟨g, o, e, hc⟩ := crx.q tn (by show tn < nQ; omega)
              cases e
              rw [Nat.zero_add] at hc
              exact hc
            have cdd : Wd.cell? ⟨gD, tn, none⟩ = some (.int .i64 (d1 tn)) := by
              obtain ⟨g, o, e, hc⟩ := crd.d tn (by show tn < nD1; omega)
              cases e
              rw [Nat.zero_add] at hc
              exact hc
            have fdd : Wd.frozen? ⟨gD, tn, none⟩ = false := by
              rcases hRd.own.d with h0 | ⟨g, hg, h9, hr⟩
              · have h3 : nD1 = 0 := h0
                omega
              · cases hg
                exact hr.free tn
            have eWx : Wd.setCell ⟨gD, tn, none⟩ (.int .i64 (d1 tn + q1 tn)) = Wx := hWx.symm
            have eWg : Wx.setCell ⟨gb, 3, none⟩ (.bool false) = Wg := hWg.symm
            have Hdg : Hid (dg = updI d1 tn (d1 tn + q1 tn)) := hdg
            have HWd : Hid (Wd = wr.drew) := hWd
            clear hRd hBd hgD2 hsz hRx hBx hRg hBg crd crx hWx hWg hdg edg hdr hqr hL0 hWd
            go_wp2_with fail
            refine wp_region_held_drew (S := fun w' => (∀ o, w'.cell? ⟨gb, o, none⟩ = (#[.slice (some ⟨gq, 0, none⟩) nQ cQ1, .slice (some ⟨gD, 0, none⟩) nD1 cD1, .int .i64 (tn : Int), .bool true, .slice (some ⟨gS, 0, none⟩) nS1 cS1] : Array Value)[o]?) ∧ w'.cell? ⟨gq, tn, none⟩ = some (.int .i64 (q1 tn))) (by kernel_rfl) (by rw [← HWd.out]; exact ⟨cgd, cqd⟩) (fun hHeld => ?_)
            rw [← HWd.out] at hHeld ⊢
            refine takeD (i := 0) (some 43) (v := ?_) rfl rfl (by kernel_rfl) (by kernel_rfl) (by kernel_rfl) (fun _ _ _ h => h) (by kernel_rfl) ?_ (by assumption) ?_
            rotate_left
            · intro wx hSw
              obtain ⟨hS1, hS2⟩ := hSw
              go_simp
              try (with_reducible rfl)
            try simp only [Act.put, List.setIfInBounds_toArray, List.set_cons_zero, List.set_cons_succ]
            refine takeD (i := 1) (some 44) (v := ?_) rfl rfl (by kernel_rfl) (by kernel_rfl) (by kernel_rfl) (fun _ _ _ h => h) (by kernel_rfl) ?_ (by assumption) ?_
            rotate_left
            · intro wx hSw
              obtain ⟨hS1, hS2⟩ := hSw
              go_simp
              try (with_reducible rfl)
            try simp only [Act.put, List.setIfInBounds_toArray, List.set_cons_zero, List.set_cons_succ]
            refine takeD (i := 2) (some 45) (v := ?_) rfl rfl (by kernel_rfl) (by kernel_rfl) (by kernel_rfl) (fun _ _ _ h => h) (by kernel_rfl) ?_ (by assumption) ?_
            rotate_left
            · intro wx hSw
              obtain ⟨hS1, hS2⟩ := hSw
              go_simp
              try (with_reducible rfl)
            try simp only [Act.put, List.setIfInBounds_toArray, List.set_cons_zero, List.set_cons_succ]
            refine takeD (i := 3) (some 46) (v := ?_) rfl rfl (by kernel_rfl) (by kernel_rfl) (by kernel_rfl) (fun _ _ _ h => h) (by kernel_rfl) ?_ (by assumption) ?_
            rotate_left
            · intro wx hSw
              obtain ⟨hS1, hS2⟩ := hSw
              go_simp
              try (with_reducible rfl)
            try simp only [Act.put, List.setIfInBounds_toArray, List.set_cons_zero, List.set_cons_succ]
            refine takeD (i := 4) (some 47) (v := ?_) rfl rfl (by kernel_rfl) (by kernel_rfl) (by kernel_rfl) (fun _ _ _ h => h) (by kernel_rfl) ?_ (by assumption) ?_
            rotate_left
            · intro wx hSw
              obtain ⟨hS1, hS2⟩ := hSw
              go_simp
              try (with_reducible rfl)
            try simp only [Act.put, List.setIfInBounds_toArray, List.set_cons_zero, List.set_cons_succ]
            refine takeD (i := 5) (some 48) (v := ?_) rfl rfl (by kernel_rfl) (by kernel_rfl) (by kernel_rfl) (fun _ _ _ h => h) (by kernel_rfl) ?_ (by assumption) ?_
            rotate_left
            · intro wx hSw
              obtain ⟨hS1, hS2⟩ := hSw
              go_simp
              try (with_reducible rfl)
            try simp only [Act.put, List.setIfInBounds_toArray, List.set_cons_zero, List.set_cons_succ]
            refine takeD (i := 6) (some 49) (v := ?_) rfl rfl (by kernel_rfl) (by kernel_rfl) (by kernel_rfl) (fun _ _ _ h => h) (by kernel_rfl) ?_ (by assumption) ?_
            rotate_left
            · intro wx hSw
              obtain ⟨hS1, hS2⟩ := hSw
              go_simp
              try (with_reducible rfl)
            try simp only [Act.put, List.setIfInBounds_toArray, List.set_cons_zero, List.set_cons_succ]
            refine takeD (i := 8) (some 51) (v := ?_) rfl rfl (by kernel_rfl) (by kernel_rfl) (by kernel_rfl) (fun _ _ _ h => h) (by kernel_rfl) ?_ (by assumption) ?_
            rotate_left
            · intro wx hSw
              obtain ⟨hS1, hS2⟩ := hSw
              go_simp
              try (with_reducible rfl)
            try simp only [Act.put, List.setIfInBounds_toArray, List.set_cons_zero, List.set_cons_succ]
            refine takeD (i := 9) (some 52) (v := ?_) rfl rfl (by kernel_rfl) (by kernel_rfl) (by kernel_rfl) (fun _ _ _ h => h) (by kernel_rfl) ?_ (by assumption) ?_
            rotate_left
            · intro wx hSw
              obtain ⟨hS1, hS2⟩ := hSw
              go_simp
              try (with_reducible rfl)
            try simp only [Act.put, List.setIfInBounds_toArray, List.set_cons_zero, List.set_cons_succ]
            refine takeD (i := 10) (some 53) (v := ?_) rfl rfl (by kernel_rfl) (by kernel_rfl) (by kernel_rfl) (fun _ _ _ h => h) (by kernel_rfl) ?_ (by assumption) ?_
            rotate_left
            · intro wx hSw
              obtain ⟨hS1, hS2⟩ := hSw
              go_simp
              try (with_reducible rfl)
            try simp only [Act.put, List.setIfInBounds_toArray, List.set_cons_zero, List.set_cons_succ]
            refine takeD (i := 11) (some 54) (v := ?_) rfl rfl (by kernel_rfl) (by kernel_rfl) (by kernel_rfl) (fun _ _ _ h => h) (by kernel_rfl) ?_ (by assumption) ?_
            rotate_left
            · intro wx hSw
              obtain ⟨hS1, hS2⟩ := hSw
              go_simp
              try (with_reducible rfl)
            try simp only [Act.put, List.setIfInBounds_toArray, List.set_cons_zero, List.set_cons_succ]
            refine takeD (i := 12) (some 55) (v := ?_) rfl rfl (by kernel_rfl) (by kernel_rfl) (by kernel_rfl) (fun _ _ _ h => h) (by kernel_rfl) ?_ (by assumption) ?_
            rotate_left
            · intro wx hSw
              obtain ⟨hS1, hS2⟩ := hSw
              go_simp
              try (with_reducible rfl)
            try simp only [Act.put, List.setIfInBounds_toArray, List.set_cons_zero, List.set_cons_succ]
            refine wpAnyH_ready (rs := [7]) (by kernel_rfl) (by simp) ?_
            refine AllReadyH.cons rfl (fun K hK => ?_) AllReadyH.nil
            go_simp
            refine hK.out _ _ ⟨cgd, cqd⟩ (fun hHeld => ?_)
            clear hK K
            try simp only [Act.put, List.setIfInBounds_toArray, List.set_cons_zero, List.set_cons_succ]
            refine takeD (i := 13) (some 56) (v := ?_) rfl rfl (by kernel_rfl) (by kernel_rfl) (by kernel_rfl) (fun _ _ _ h => h) (by kernel_rfl) ?_ (by assumption) ?_
            rotate_left
            · intro wx hSw
              obtain ⟨hS1, hS2⟩ := hSw
              go_simp
              try (with_reducible rfl)
            try simp only [Act.put, List.setIfInBounds_toArray, List.set_cons_zero, List.set_cons_succ]
            refine takeD (i := 14) (some 57) (v := ?_) rfl rfl (by kernel_rfl) (by kernel_rfl) (by kernel_rfl) (fun _ _ _ h => h) (by kernel_rfl) ?_ (by assumption) ?_
            rotate_left
            · intro wx hSw
              obtain ⟨hS1, hS2⟩ := hSw
              go_simp
              try (with_reducible rfl)
            try simp only [Act.put, List.setIfInBounds_toArray, List.set_cons_zero, List.set_cons_succ]
            refine wpAnyH_ready (rs := [15]) (by kernel_rfl) (by simp) ?_
            refine AllReadyH.cons rfl (fun K hK => ?_) AllReadyH.nil
            go_simp
            try rw [eWx]
            refine hK.out _ _ ⟨cgx, cqx⟩ (fun hHeld => ?_)
            clear hK K
            try simp only [Act.put, List.setIfInBounds_toArray, List.set_cons_zero, List.set_cons_succ]
            refine wpAnyH_done (by kernel_rfl) ?_ _
            clear hHeld cgd cqd cdd fdd cqx hw0 cg cs
            have crg := HRg.out.own.rd
            have cgg := blk_cell HRg.out.box
            have fgg := blk_free HRg.out.box
            unfold Rnd.cells at cgg
            dsimp only at cgg
            have csg : Wg.cell? ⟨gS, tn, none⟩ = some (.slice (some ⟨gz, 0, none⟩) (L1 tn) (C1 tn)) := by
              obtain ⟨g, o, e, hc⟩ := crg.s tn (by show tn < nS1; omega)
              cases e
              rw [Nat.zero_add] at hc
              have hc2 : Wg.cell? ⟨gS, tn, none⟩ = some (.slice (A1 tn) (L1 tn) (C1 tn)) := hc
              rw [HeA.out] at hc2
              exact hc2
            have czg : Wg.cell? ⟨gz, 0, none⟩ = some (.int .i64 (z1 tn 0)) := by
              have hz9 : RdRow Wg (A1 tn) (L1 tn) fun j => .int .i64 (z1 tn j) := crg.z tn (by show tn < nS1; omega)
              rw [HeA.out] at hz9
              obtain ⟨g, o, e, hc⟩ := hz9 0 (by omega)
              cases e
              exact hc
            have cdg : Wg.cell? ⟨gD, tn, none⟩ = some (.int .i64 (dg tn)) := by
              obtain ⟨g, o, e, hc⟩ := crg.d tn (by show tn < nD1; omega)
              cases e
              rw [Nat.zero_add] at hc
              exact hc
            clear crg
            by_cases hcmp : dg tn < z1 tn 0
            · have Hcmp : Hid ((grantR ⟨some ⟨gq, 0, none⟩, nQ, cQ1, q1, some ⟨gD, 0, none⟩, nD1, cD1, d1, (tn : Int), true, some ⟨gS, 0, none⟩, nS1, cS1, A1, L1, C1, z1⟩).d (Rnd.now ⟨some ⟨gq, 0, none⟩, nQ, cQ1, q1, some ⟨gD, 0, none⟩, nD1, cD1, d1, (tn : Int), true, some ⟨gS, 0, none⟩, nS1, cS1, A1, L1, C1, z1⟩) < z1 (Rnd.now ⟨some ⟨gq, 0, none⟩, nQ, cQ1, q1, some ⟨gD, 0, none⟩, nD1, cD1, d1, (tn : Int), true, some ⟨gS, 0, none⟩, nS1, cS1, A1, L1, C1, z1⟩) 0) := by
                rw [Hid, HG.out, HN.out]
                exact hcmp
              have HOt : Hid (Rnd.Ok (turnR ⟨some ⟨gq, 0, none⟩, nQ, cQ1, q1, some ⟨gD, 0, none⟩, nD1, cD1, dg, (tn : Int), false, some ⟨gS, 0, none⟩, nS1, cS1, A1, L1, C1, z1⟩)) := by
                rw [Hid, ← HG.out]
                refine turn_ok HOg.out (fun _ => ?_)
                rw [grantR_now]
                have h1 := Hcmp.out
                have h2 := Hzr.out
                rw [HN.out] at h1 ⊢
                omega
              have HRx := HRg
              have HBx := HBg
              have HOc : Hid (Rnd.Ok ⟨some ⟨gq, 0, none⟩, nQ, cQ1, q1, some ⟨gD, 0, none⟩, nD1, cD1, dg, (tn : Int), false, some ⟨gS, 0, none⟩, nS1, cS1, A1, L1, C1, z1⟩) := by rw [Hid, ← HG.out]; exact HOg.out
              go_wp2_with fail
              refine (l4Turn_any ⟨some ⟨gq, 0, none⟩, nQ, cQ1, q1, some ⟨gD, 0, none⟩, nD1, cD1, dg, (tn : Int), false, some ⟨gS, 0, none⟩, nS1, cS1, A1, L1, C1, z1⟩ _ HOc.out).mono ?_
              rintro e w' ⟨rfl, hb⟩
              clear hcmp csg czg cdg cgg fgg hw1
              have hup := HRx.out.up hb
              have hr2 := hup.turn
              have hkk := hup.box
              have hBn : Below (w.heap.size + 2) ((w.alloc (.cells #[.slice aQ nQ cQ, .slice aD nD cD, .int .i64 turn, .bool fresh, .slice aS j cS] 27)).alloc (.cells #[.slice none 0 0, .slice none 0 0, .int .i64 0, .bool false, .slice none 0 0] 27)) (w'.setRow gb (turnR ⟨some ⟨gq, 0, none⟩, nQ, cQ1, q1, some ⟨gD, 0, none⟩, nD1, cD1, dg, (tn : Int), false, some ⟨gS, 0, none⟩, nS1, cS1, A1, L1, C1, z1⟩).cells) := (next2p HBx.out hb).trans ((setRow_touchR w' gb (turnR ⟨some ⟨gq, 0, none⟩, nQ, cQ1, q1, some ⟨gD, 0, none⟩, nD1, cD1, dg, (tn : Int), false, some ⟨gS, 0, none⟩, nS1, cS1, A1, L1, C1, z1⟩).cells).below (by have := upper2p HBx.out; have := hb.size; omega) (fun x hx => by simp at hx; subst hx; exact Hgb.out))
              have HBn : Hid (Below (w.heap.size + 2) ((w.alloc (.cells #[.slice aQ nQ cQ, .slice aD nD cD, .int .i64 turn, .bool fresh, .slice aS j cS] 27)).alloc (.cells #[.slice none 0 0, .slice none 0 0, .int .i64 0, .bool false, .slice none 0 0] 27)) (w'.setRow gb (turnR ⟨some ⟨gq, 0, none⟩, nQ, cQ1, q1, some ⟨gD, 0, none⟩, nD1, cD1, dg, (tn : Int), false, some ⟨gS, 0, none⟩, nS1, cS1, A1, L1, C1, z1⟩).cells)) := hBn
              have HR2 : Hid (Rep (w'.setRow gb (turnR ⟨some ⟨gq, 0, none⟩, nQ, cQ1, q1, some ⟨gD, 0, none⟩, nD1, cD1, dg, (tn : Int), false, some ⟨gS, 0, none⟩, nS1, cS1, A1, L1, C1, z1⟩).cells) (w.heap.size + 2) gb gD (turnR ⟨some ⟨gq, 0, none⟩, nQ, cQ1, q1, some ⟨gD, 0, none⟩, nD1, cD1, dg, (tn : Int), false, some ⟨gS, 0, none⟩, nS1, cS1, A1, L1, C1, z1⟩) (turnR ⟨some ⟨gq, 0, none⟩, nQ, cQ1, q1, some ⟨gD, 0, none⟩, nD1, cD1, dg, (tn : Int), false, some ⟨gS, 0, none⟩, nS1, cS1, A1, L1, C1, z1⟩)) := hr2
              have HKk : Hid (w'.heap[gb]? = some (.cells (Rnd.cells ⟨some ⟨gq, 0, none⟩, nQ, cQ1, q1, some ⟨gD, 0, none⟩, nD1, cD1, dg, (tn : Int), false, some ⟨gS, 0, none⟩, nS1, cS1, A1, L1, C1, z1⟩) 27 (0, 0))) := hkk
              clear hup hr2 hkk hBn hb
              go_wp2_with (refine wpList_stR rfl (.tmp 7) (.tmp 74) rfl gb rfl (turnR ⟨some ⟨gq, 0, none⟩, nQ, cQ1, q1, some ⟨gD, 0, none⟩, nD1, cD1, dg, (tn : Int), false, some ⟨gS, 0, none⟩, nS1, cS1, A1, L1, C1, z1⟩).cells rfl (Rnd.cells ⟨some ⟨gq, 0, none⟩, nQ, cQ1, q1, some ⟨gD, 0, none⟩, nD1, cD1, dg, (tn : Int), false, some ⟨gS, 0, none⟩, nS1, cS1, A1, L1, C1, z1⟩) HKk.out rfl rfl (Rnd.cells_one _) ?_)
              try dsimp only [Act.put]
              go_roundw
              case rel =>
                obtain ⟨k2, rfl, hp2⟩ := HP.out.shortInv (by rw [HN.out]; exact Hz.out) Hcmp.out
                rw [HG.out] at hp2
                exact ⟨k2, _, R2, hp2, HA.out, HOt.out, rfl, HL.out, HR2.out, HBn.out⟩
              case measure =>
                have e1 := HR2.out.left (c0 := c0) Hc0.out HO.out.d
                have e2 := HR.out.left (c0 := c0) Hc0.out HO.out.d
                have e3 := left_short HO.out (c := c0) Hc0.out (by rw [HN.out]; exact Hz.out) Hcmp.out
                show leftW nQ gb gD c0 _ < leftW nQ gb gD c0 wr
                have e4 : leftW nQ gb gD c0 wr = _ := e2
                rw [e4]
                rw [HG.out] at e3
                exact Nat.lt_of_le_of_lt (Nat.le_of_eq e1) e3
            · have HX : Hid (R2 = takeR ⟨some ⟨gq, 0, none⟩, nQ, cQ1, q1, some ⟨gD, 0, none⟩, nD1, cD1, dg, (tn : Int), false, some ⟨gS, 0, none⟩, nS1, cS1, A1, L1, C1, z1⟩ ∧ x = tn ∧ s = z1 tn 0) := by
                have h9 := HP.out.takeInv (by rw [HN.out]; exact Hz.out) (by
                  rw [HG.out, HN.out]
                  show z1 tn 0 ≤ dg tn
                  omega)
                rw [HG.out, HN.out] at h9
                exact h9
              obtain ⟨hR2, hx9, rfl⟩ := HX.out
              have hx8 : tn = x := hx9.symm
              clear HX hx9
              subst hx8
              have HR2 : Hid (R2 = takeR ⟨some ⟨gq, 0, none⟩, nQ, cQ1, q1, some ⟨gD, 0, none⟩, nD1, cD1, dg, (tn : Int), false, some ⟨gS, 0, none⟩, nS1, cS1, A1, L1, C1, z1⟩) := hR2
              clear hR2 HP
              have Hcmp : Hid (z1 (Rnd.now ⟨some ⟨gq, 0, none⟩, nQ, cQ1, q1, some ⟨gD, 0, none⟩, nD1, cD1, d1, (tn : Int), true, some ⟨gS, 0, none⟩, nS1, cS1, A1, L1, C1, z1⟩) 0 ≤ (grantR ⟨some ⟨gq, 0, none⟩, nQ, cQ1, q1, some ⟨gD, 0, none⟩, nD1, cD1, d1, (tn : Int), true, some ⟨gS, 0, none⟩, nS1, cS1, A1, L1, C1, z1⟩).d (Rnd.now ⟨some ⟨gq, 0, none⟩, nQ, cQ1, q1, some ⟨gD, 0, none⟩, nD1, cD1, d1, (tn : Int), true, some ⟨gS, 0, none⟩, nS1, cS1, A1, L1, C1, z1⟩)) := by
                rw [Hid, HG.out, HN.out]
                show z1 tn 0 ≤ dg tn
                omega
              have hLk : L1 tn ≤ 1000 := (HO.out.c tn (by show tn < nQ; omega)).2.1.1
              have hCp : L1 tn ≤ C1 tn := HR.out.cap tn (by show tn < nS1; omega)
              obtain ⟨qz, hqz, hq⟩ : ∃ qz, (if C1 tn = 1 then some (⟨gz, 0, none⟩ : Addr) else some ⟨gz, 1, none⟩) = some ⟨gz, qz, none⟩ ∧ (qz = 1 ∨ L1 tn = 1) := by
                by_cases hC : C1 tn = 1
                · exact ⟨0, by rw [if_pos hC], .inr (by omega)⟩
                · exact ⟨1, by rw [if_neg hC], .inl rfl⟩
              have Hqz : Hid ((if C1 tn = 1 then some (⟨gz, 0, none⟩ : Addr) else some ⟨gz, 1, none⟩) = some ⟨gz, qz, none⟩) := hqz
              have hRe := HRg.out.up ((Below.refl Wg.heap.size Wg).drew)
              have hBe := HBg.out.drew
              obtain ⟨Ve, hVe⟩ : ∃ Ve, Ve = Wg.drew := ⟨_, rfl⟩
              rw [← hVe] at hRe hBe
              obtain ⟨hgD2, fde⟩ : (w.heap.size + 2) ≤ gD ∧ Ve.frozen? ⟨gD, tn, none⟩ = false := by
                rcases hRe.own.d with h0 | ⟨g, hg, h9, hr⟩
                · have h3 : nD1 = 0 := h0
                  omega
                · cases hg
                  exact ⟨h9, hr.free tn⟩
              have cde : Ve.cell? ⟨gD, tn, none⟩ = some (.int .i64 (dg tn)) := by
                obtain ⟨g, o, e, hc⟩ := hRe.own.rd.d tn (by show tn < nD1; omega)
                cases e
                rw [Nat.zero_add] at hc
                exact hc
              have hRx := hRe.def (c := tn) (show tn < nD1 by omega) (dg tn - z1 tn 0)
              have hBx := hBe.trans (((Touch.refl [gD] Ve).set (g := gD) (by simp) tn (.int .i64 (dg tn - z1 tn 0))).below (upper2p hBe) (fun x hx => by simp at hx; subst hx; exact hgD2))
              obtain ⟨Vx, hVx⟩ : ∃ Vx, Vx = Ve.setCell ⟨gD, tn, none⟩ (.int .i64 (dg tn - z1 tn 0)) := ⟨_, rfl⟩
              rw [← hVx] at hRx hBx
              have cge := blk_cell hRe.box
              have cgx := blk_cell hRx.box
              dsimp only [Rnd.cells, Rnd.defTo] at cge cgx
              have hRy := hRx.up ((Below.refl Vx.heap.size Vx).drew)
              have hBy := hBx.drew
              obtain ⟨Vy, hVy⟩ : ∃ Vy, Vy = Vx.drew := ⟨_, rfl⟩
              rw [← hVy] at hRy hBy
              obtain ⟨a', c', Vz, hrun, hcut⟩ := hRy.cut (c := tn) (gS := gS) (gz := gz) (show tn < nS1 by omega) Hz.out hLk (upper2p hBy) rfl HeA.out (C1 tn - 1) qz hq
              dsimp only [Rnd.defTo] at hrun
              have cgy := blk_cell hRy.box
              have cga := blk_cell ((((Below.refl Vy.heap.size Vy).alloc (Nat.le_refl _) (.cells #[] 2)).block _ (blk_lt hRy.box)).trans hRy.box)
              have cgz := blk_cell hcut.box
              have cgf := blk_cell hcut.after
              dsimp only [Rnd.cells, Rnd.defTo] at cgy cga cgz cgf
              have csy : Vy.cell? ⟨gS, tn, none⟩ = some (.slice (some ⟨gz, 0, none⟩) (L1 tn) (C1 tn)) := by
                obtain ⟨g, o, e, hc⟩ := hRy.own.rd.s tn (by show tn < nS1; omega)
                cases e
                rw [Nat.zero_add] at hc
                have hc2 : Vy.cell? ⟨gS, tn, none⟩ = some (.slice (A1 tn) (L1 tn) (C1 tn)) := hc
                rw [HeA.out] at hc2
                exact hc2
              have csa : (Vy.alloc (.cells #[] 2)).cell? ⟨gS, tn, none⟩ = some (.slice (some ⟨gz, 0, none⟩) (L1 tn) (C1 tn)) := by
                rw [← csy]
                exact ((Below.refl Vy.heap.size Vy).alloc (Nat.le_refl _) (.cells #[] 2)).cell (p := ⟨gS, tn, none⟩) (cellLt csy)
              have csz : Vz.cell? ⟨gS, tn, none⟩ = some (.slice (A1 tn) (L1 tn) (C1 tn)) := hcut.row.at tn (show tn < nS1 by omega)
              have fsz := hcut.row.free tn
              obtain ⟨Vf, hVf⟩ : ∃ Vf, Vf = Vz.setCell ⟨gS, tn, none⟩ (.slice a' (L1 tn - 1) c') := ⟨_, rfl⟩
              rw [← hVf] at cgf
              have csf : Vf.cell? ⟨gS, tn, none⟩ = some (.slice a' (L1 tn - 1) c') := by
                obtain ⟨g, o, e, hc⟩ := hcut.own.rd.s tn (show tn < nS1 by omega)
                have e2 : some (⟨gS, 0, none⟩ : Addr) = some ⟨g, o, none⟩ := e
                cases e2
                rw [Nat.zero_add] at hc
                have hc2 : (Vz.setCell ⟨gS, tn, none⟩ (.slice a' (L1 tn - 1) c')).cell? ⟨gS, tn, none⟩ = some (.slice (if tn = tn then a' else A1 tn) (updN L1 tn (L1 tn - 1) tn) (if tn = tn then c' else C1 tn)) := hc
                rw [if_pos rfl, if_pos rfl, updN_self] at hc2
                rw [hVf]
                exact hc2
              have hOf := hcut.own
              have hBf := hBy.trans hcut.below
              have hRf : L1 tn = 1 → _ := fun h9 => hcut.rep h9 rfl HRg.out.cap
              dsimp only [Rnd.defTo] at hOf hBf hRf
              rw [← hVf] at hOf hBf hRf
              have HOf : Hid (OwnRn Vf (w.heap.size + 2) (Rnd.cut (Rnd.defTo ⟨some ⟨gq, 0, none⟩, nQ, cQ1, q1, some ⟨gD, 0, none⟩, nD1, cD1, dg, (tn : Int), false, some ⟨gS, 0, none⟩, nS1, cS1, A1, L1, C1, z1⟩ tn (dg tn - z1 tn 0)) tn a' c')) := hOf
              have HBf : Hid (Below (w.heap.size + 2) ((w.alloc (.cells #[.slice aQ nQ cQ, .slice aD nD cD, .int .i64 turn, .bool fresh, .slice aS j cS] 27)).alloc (.cells #[.slice none 0 0, .slice none 0 0, .int .i64 0, .bool false, .slice none 0 0] 27)) Vf) := hBf
              have HRf : Hid (L1 tn = 1 → Rep Vf (w.heap.size + 2) gb gD (Rnd.cut (Rnd.defTo ⟨some ⟨gq, 0, none⟩, nQ, cQ1, q1, some ⟨gD, 0, none⟩, nD1, cD1, dg, (tn : Int), false, some ⟨gS, 0, none⟩, nS1, cS1, A1, L1, C1, z1⟩ tn (dg tn - z1 tn 0)) tn a' c') (Rnd.cut (Rnd.defTo ⟨some ⟨gq, 0, none⟩, nQ, cQ1, q1, some ⟨gD, 0, none⟩, nD1, cD1, dg, (tn : Int), false, some ⟨gS, 0, none⟩, nS1, cS1, A1, L1, C1, z1⟩ tn (dg tn - z1 tn 0)) tn a' c')) := hRf
              have HNc : Hid (Rnd.now ⟨some ⟨gq, 0, none⟩, nQ, cQ1, q1, some ⟨gD, 0, none⟩, nD1, cD1, dg, (tn : Int), false, some ⟨gS, 0, none⟩, nS1, cS1, A1, L1, C1, z1⟩ = tn) := HN.out
              clear hOf hBf hRf
              have HCut : Hid (Cut (Rnd.defTo ⟨some ⟨gq, 0, none⟩, nQ, cQ1, q1, some ⟨gD, 0, none⟩, nD1, cD1, dg, (tn : Int), false, some ⟨gS, 0, none⟩, nS1, cS1, A1, L1, C1, z1⟩ tn (dg tn - z1 tn 0)) (w.heap.size + 2) gb gD Vy Vz tn gS a' c') := hcut
              have eVx : Ve.setCell ⟨gD, tn, none⟩ (.int .i64 (dg tn - z1 tn 0)) = Vx := hVx.symm
              have eVf : Vz.setCell ⟨gS, tn, none⟩ (.slice a' (L1 tn - 1) c') = Vf := hVf.symm
              have HVe : Hid (Ve = Wg.drew) := hVe
              have HVy : Hid (Vy = Vx.drew) := hVy
              have HBy : Hid (Below (w.heap.size + 2) ((w.alloc (.cells #[.slice aQ nQ cQ, .slice aD nD cD, .int .i64 turn, .bool fresh, .slice aS j cS] 27)).alloc (.cells #[.slice none 0 0, .slice none 0 0, .int .i64 0, .bool false, .slice none 0 0] 27)) Vy) := hBy
              clear hVe hVx hVy hVf hcut hRe hBe hRx hBx hRy hBy hgD2 hLk hCp hqz hq
              go_wp2_with fail
              refine wp_region_held_drew (S := fun w' => ∀ o, w'.cell? ⟨gb, o, none⟩ = (#[.slice (some ⟨gq, 0, none⟩) nQ cQ1, .slice (some ⟨gD, 0, none⟩) nD1 cD1, .int .i64 (tn : Int), .bool false, .slice (some ⟨gS, 0, none⟩) nS1 cS1] : Array Value)[o]?) (by kernel_rfl) (by rw [← HVe.out]; exact cge) (fun hHeld => ?_)
              rw [← HVe.out] at hHeld ⊢
              refine takeD (i := 0) (some 75) (v := ?_) rfl rfl (by kernel_rfl) (by kernel_rfl) (by kernel_rfl) (fun _ _ _ h => h) (by kernel_rfl) ?_ (by assumption) ?_
              rotate_left
              · intro wx hSw
                try dsimp only at hSw
                go_simp
                try (with_reducible rfl)
              try simp only [Act.put, List.setIfInBounds_toArray, List.set_cons_zero, List.set_cons_succ]
              refine takeD (i := 1) (some 76) (v := ?_) rfl rfl (by kernel_rfl) (by kernel_rfl) (by kernel_rfl) (fun _ _ _ h => h) (by kernel_rfl) ?_ (by assumption) ?_
              rotate_left
              · intro wx hSw
                try dsimp only at hSw
                go_simp
                try (with_reducible rfl)
              try simp only [Act.put, List.setIfInBounds_toArray, List.set_cons_zero, List.set_cons_succ]
              refine takeD (i := 2) (some 77) (v := ?_) rfl rfl (by kernel_rfl) (by kernel_rfl) (by kernel_rfl) (fun _ _ _ h => h) (by kernel_rfl) ?_ (by assumption) ?_
              rotate_left
              · intro wx hSw
                try dsimp only at hSw
                go_simp
                try (with_reducible rfl)
              try simp only [Act.put, List.setIfInBounds_toArray, List.set_cons_zero, List.set_cons_succ]
              refine takeD (i := 3) (some 78) (v := ?_) rfl rfl (by kernel_rfl) (by kernel_rfl) (by kernel_rfl) (fun _ _ _ h => h) (by kernel_rfl) ?_ (by assumption) ?_
              rotate_left
              · intro wx hSw
                try dsimp only at hSw
                go_simp
                try (with_reducible rfl)
              try simp only [Act.put, List.setIfInBounds_toArray, List.set_cons_zero, List.set_cons_succ]
              refine takeD (i := 4) (some 79) (v := ?_) rfl rfl (by kernel_rfl) (by kernel_rfl) (by kernel_rfl) (fun _ _ _ h => h) (by kernel_rfl) ?_ (by assumption) ?_
              rotate_left
              · intro wx hSw
                try dsimp only at hSw
                go_simp
                try (with_reducible rfl)
              try simp only [Act.put, List.setIfInBounds_toArray, List.set_cons_zero, List.set_cons_succ]
              refine takeD (i := 5) (some 80) (v := ?_) rfl rfl (by kernel_rfl) (by kernel_rfl) (by kernel_rfl) (fun _ _ _ h => h) (by kernel_rfl) ?_ (by assumption) ?_
              rotate_left
              · intro wx hSw
                try dsimp only at hSw
                go_simp
                try (with_reducible rfl)
              try simp only [Act.put, List.setIfInBounds_toArray, List.set_cons_zero, List.set_cons_succ]
              refine takeD (i := 6) (some 81) (v := ?_) rfl rfl (by kernel_rfl) (by kernel_rfl) (by kernel_rfl) (fun _ _ _ h => h) (by kernel_rfl) ?_ (by assumption) ?_
              rotate_left
              · intro wx hSw
                try dsimp only at hSw
                go_simp
                try (with_reducible rfl)
              try simp only [Act.put, List.setIfInBounds_toArray, List.set_cons_zero, List.set_cons_succ]
              refine takeD (i := 8) (some 83) (v := ?_) rfl rfl (by kernel_rfl) (by kernel_rfl) (by kernel_rfl) (fun _ _ _ h => h) (by kernel_rfl) ?_ (by assumption) ?_
              rotate_left
              · intro wx hSw
                try dsimp only at hSw
                go_simp
                try (with_reducible rfl)
              try simp only [Act.put, List.setIfInBounds_toArray, List.set_cons_zero, List.set_cons_succ]
              refine wpAnyH_ready (rs := [7]) (by kernel_rfl) (by simp) ?_
              refine AllReadyH.cons rfl (fun K hK => ?_) AllReadyH.nil
              go_simp
              refine hK.out _ _ cge (fun hHeld => ?_)
              clear hK K
              try simp only [Act.put, List.setIfInBounds_toArray, List.set_cons_zero, List.set_cons_succ]
              refine takeD (i := 9) (some 84) (v := ?_) rfl rfl (by kernel_rfl) (by kernel_rfl) (by kernel_rfl) (fun _ _ _ h => h) (by kernel_rfl) ?_ (by assumption) ?_
              rotate_left
              · intro wx hSw
                try dsimp only at hSw
                go_simp
                try (with_reducible rfl)
              try simp only [Act.put, List.setIfInBounds_toArray, List.set_cons_zero, List.set_cons_succ]
              refine takeD (i := 10) (some 85) (v := ?_) rfl rfl (by kernel_rfl) (by kernel_rfl) (by kernel_rfl) (fun _ _ _ h => h) (by kernel_rfl) ?_ (by assumption) ?_
              rotate_left
              · intro wx hSw
                try dsimp only at hSw
                go_simp
                try (with_reducible rfl)
              try simp only [Act.put, List.setIfInBounds_toArray, List.set_cons_zero, List.set_cons_succ]
              refine wpAnyH_ready (rs := [11]) (by kernel_rfl) (by simp) ?_
              refine AllReadyH.cons rfl (fun K hK => ?_) AllReadyH.nil
              go_simp
              try rw [eVx]
              refine hK.out _ _ cgx (fun hHeld => ?_)
              clear hK K
              try simp only [Act.put, List.setIfInBounds_toArray, List.set_cons_zero, List.set_cons_succ]
              refine wpAnyH_done (by kernel_rfl) ?_ _
              clear hHeld cge cde fde cgx hw1 eVx cgg fgg csg czg cdg
              go_wp2_with fail
              refine wp_region_held_drew (S := fun w' => ∀ o, w'.cell? ⟨gb, o, none⟩ = (#[.slice (some ⟨gq, 0, none⟩) nQ cQ1, .slice (some ⟨gD, 0, none⟩) nD1 cD1, .int .i64 (tn : Int), .bool false, .slice (some ⟨gS, 0, none⟩) nS1 cS1] : Array Value)[o]?) (by kernel_rfl) (by rw [← HVy.out]; exact cgy) (fun hHeld => ?_)
              rw [← HVy.out] at hHeld ⊢
              refine takeD (i := 0) (some 86) (v := ?_) rfl rfl (by kernel_rfl) (by kernel_rfl) (by kernel_rfl) (fun _ _ _ h => h) (by kernel_rfl) ?_ (by assumption) ?_
              rotate_left
              · intro wx hSw
                try dsimp only at hSw
                go_simp
                try (with_reducible rfl)
              try simp only [Act.put, List.setIfInBounds_toArray, List.set_cons_zero, List.set_cons_succ]
              refine takeD (i := 1) (some 87) (v := ?_) rfl rfl (by kernel_rfl) (by kernel_rfl) (by kernel_rfl) (fun _ _ _ h => h) (by kernel_rfl) ?_ (by assumption) ?_
              rotate_left
              · intro wx hSw
                try dsimp only at hSw
                go_simp
                try (with_reducible rfl)
              try simp only [Act.put, List.setIfInBounds_toArray, List.set_cons_zero, List.set_cons_succ]
              refine takeD (i := 2) (some 88) (v := ?_) rfl rfl (by kernel_rfl) (by kernel_rfl) (by kernel_rfl) (fun _ _ _ h => h) (by kernel_rfl) ?_ (by assumption) ?_
              rotate_left
              · intro wx hSw
                try dsimp only at hSw
                go_simp
                try (with_reducible rfl)
              try simp only [Act.put, List.setIfInBounds_toArray, List.set_cons_zero, List.set_cons_succ]
              refine takeD (i := 4) (some 90) (v := ?_) rfl rfl (by kernel_rfl) (by kernel_rfl) (by kernel_rfl) (fun _ _ _ h => h) (by kernel_rfl) ?_ (by assumption) ?_
              rotate_left
              · intro wx hSw
                try dsimp only at hSw
                go_simp
                try (with_reducible rfl)
              try simp only [Act.put, List.setIfInBounds_toArray, List.set_cons_zero, List.set_cons_succ]
              refine takeD (i := 5) (some 91) (v := ?_) rfl rfl (by kernel_rfl) (by kernel_rfl) (by kernel_rfl) (fun _ _ _ h => h) (by kernel_rfl) ?_ (by assumption) ?_
              rotate_left
              · intro wx hSw
                try dsimp only at hSw
                go_simp
                try (with_reducible rfl)
              try simp only [Act.put, List.setIfInBounds_toArray, List.set_cons_zero, List.set_cons_succ]
              refine takeD (i := 6) (some 92) (v := ?_) rfl rfl (by kernel_rfl) (by kernel_rfl) (by kernel_rfl) (fun _ _ _ h => h) (by kernel_rfl) ?_ (by assumption) ?_
              rotate_left
              · intro wx hSw
                try dsimp only at hSw
                go_simp
                try (with_reducible rfl)
              try simp only [Act.put, List.setIfInBounds_toArray, List.set_cons_zero, List.set_cons_succ]
              refine takeD (i := 7) (some 93) (v := ?_) rfl rfl (by kernel_rfl) (by kernel_rfl) (by kernel_rfl) (fun _ _ _ h => h) (by kernel_rfl) ?_ (by assumption) ?_
              rotate_left
              · intro wx hSw
                try dsimp only at hSw
                go_simp
                try (with_reducible rfl)
              try simp only [Act.put, List.setIfInBounds_toArray, List.set_cons_zero, List.set_cons_succ]
              refine wpAnyH_ready (rs := [3, 8]) (by kernel_rfl) (by simp) ?_
              refine AllReadyH.cons rfl (fun K hK => ?_) (AllReadyH.cons rfl (fun K hK => ?_) AllReadyH.nil)
              · go_simp
                refine hK.out _ _ cga (fun hHeld => ?_)
                clear hK K
                try simp only [Act.put, List.setIfInBounds_toArray, List.set_cons_zero, List.set_cons_succ]
                refine wpAnyH_ready (rs := [8]) (by kernel_rfl) (by simp) ?_
                refine AllReadyH.cons rfl (fun K hK => ?_) AllReadyH.nil
                go_simp
                refine hK.out _ _ cga (fun hHeld => ?_)
                clear hK K
                try simp only [Act.put, List.setIfInBounds_toArray, List.set_cons_zero, List.set_cons_succ]
                refine takeD (i := 9) (some 95) (v := .slice (some ⟨gz, qz, none⟩) (L1 tn - 1) (C1 tn - 1)) rfl rfl (by kernel_rfl) (by kernel_rfl) (by kernel_rfl) (fun _ _ _ h => h) (by kernel_rfl) ?_ (by assumption) ?_
                · intro wx hSw
                  have h9 := run_cutS gz qz (L1 tn) (C1 tn) wx Hz.out Hqz.out
                  clear hSw
                  go_simp
                  first | done | exact Hqz.out
                try simp only [Act.put, List.setIfInBounds_toArray, List.set_cons_zero, List.set_cons_succ]
                refine wpAnyH_ready (rs := [10]) (by kernel_rfl) (by simp) ?_
                refine AllReadyH.cons rfl (fun K hK => ?_) AllReadyH.nil
                refine wp_appD (by kernel_rfl) (some 96) (.tmp 89) (.tmp 95) 24 _ _ _ rfl rfl rfl rfl rfl hrun ?_
                refine hK.out _ _ cgz (fun hHeld => ?_)
                clear hK K
                try simp only [Act.put, List.setIfInBounds_toArray, List.set_cons_zero, List.set_cons_succ]
                refine takeD (i := 11) (some 97) (v := ?_) rfl rfl (by kernel_rfl) (by kernel_rfl) (by kernel_rfl) (fun _ _ _ h => h) (by kernel_rfl) ?_ (by assumption) ?_
                rotate_left
                · intro wx hSw
                  try dsimp only at hSw
                  go_simp
                  try (with_reducible rfl)
                try simp only [Act.put, List.setIfInBounds_toArray, List.set_cons_zero, List.set_cons_succ]
                refine wpAnyH_ready (rs := [12]) (by kernel_rfl) (by simp) ?_
                refine AllReadyH.cons rfl (fun K hK => ?_) AllReadyH.nil
                go_simp
                try rw [eVf]
                refine hK.out _ _ cgf (fun hHeld => ?_)
                clear hK K
                try simp only [Act.put, List.setIfInBounds_toArray, List.set_cons_zero, List.set_cons_succ]
                refine wpAnyH_done (by kernel_rfl) ?_ _
                clear hHeld cgy cga cgz csy csa csz fsz hrun eVf
                by_cases hone : L1 tn = 1
                · have HN1 : Hid (L1 tn = 1) := hone
                  have hone2 : L1 tn - 1 = 0 := by omega
                  have hRf := HRf.out hone
                  rw [hone2] at csf
                  have hgD2 : (w.heap.size + 2) ≤ gD := by
                    rcases hRf.own.d with h0 | ⟨g, hg, h9, hr⟩
                    · have h3 : nD1 = 0 := h0
                      omega
                    · cases hg
                      exact h9
                  obtain ⟨cdf, fdf⟩ : (∃ vd, Vf.cell? ⟨gD, tn, none⟩ = some (.int .i64 vd)) ∧ Vf.frozen? ⟨gD, tn, none⟩ = false := by
                    rcases hRf.own.d with h0 | ⟨g, hg, h9, hr⟩
                    · have h3 : nD1 = 0 := h0
                      omega
                    · cases hg
                      exact ⟨⟨_, hr.at tn (show tn < nD1 by omega)⟩, hr.free tn⟩
                  obtain ⟨vd, cdf⟩ := cdf
                  have hR3 := hRf.def (c := tn) (show tn < nD1 by omega) 0
                  have hB3 := HBf.out.trans (((Touch.refl [gD] Vf).set (g := gD) (by simp) tn (.int .i64 0)).below (upper2p HBf.out) (fun x hx => by simp at hx; subst hx; exact hgD2))
                  obtain ⟨Vg, hVg⟩ : ∃ Vg, Vg = Vf.setCell ⟨gD, tn, none⟩ (.int .i64 0) := ⟨_, rfl⟩
                  rw [← hVg] at hR3 hB3
                  have eVg : Vf.setCell ⟨gD, tn, none⟩ (.int .i64 0) = Vg := hVg.symm
                  have cgg := blk_cell hR3.box
                  dsimp only [Rnd.cells, Rnd.defTo, Rnd.cut] at cgg
                  have HR3 : Hid (Rep Vg (w.heap.size + 2) gb gD (Rnd.defTo (Rnd.cut (Rnd.defTo ⟨some ⟨gq, 0, none⟩, nQ, cQ1, q1, some ⟨gD, 0, none⟩, nD1, cD1, dg, (tn : Int), false, some ⟨gS, 0, none⟩, nS1, cS1, A1, L1, C1, z1⟩ tn (dg tn - z1 tn 0)) tn a' c') tn 0) (Rnd.defTo (Rnd.cut (Rnd.defTo ⟨some ⟨gq, 0, none⟩, nQ, cQ1, q1, some ⟨gD, 0, none⟩, nD1, cD1, dg, (tn : Int), false, some ⟨gS, 0, none⟩, nS1, cS1, A1, L1, C1, z1⟩ tn (dg tn - z1 tn 0)) tn a' c') tn 0)) := hR3
                  have HB3 : Hid (Below (w.heap.size + 2) ((w.alloc (.cells #[.slice aQ nQ cQ, .slice aD nD cD, .int .i64 turn, .bool fresh, .slice aS j cS] 27)).alloc (.cells #[.slice none 0 0, .slice none 0 0, .int .i64 0, .bool false, .slice none 0 0] 27)) Vg) := hB3
                  clear hRf hgD2 hR3 hB3 hVg hone
                  go_wp2_with fail
                  refine (l4Turn_w (Rnd.defTo (Rnd.cut (Rnd.defTo ⟨some ⟨gq, 0, none⟩, nQ, cQ1, q1, some ⟨gD, 0, none⟩, nD1, cD1, dg, (tn : Int), false, some ⟨gS, 0, none⟩, nS1, cS1, A1, L1, C1, z1⟩ tn (dg tn - z1 tn 0)) tn a' c') tn 0) _ HO.out.n HO.out.t).mono ?_
                  rintro e w' ⟨rfl, hb⟩
                  have hup := HR3.out.up hb
                  have hr4 := hup.turn
                  have hB4 : Below (w.heap.size + 2) ((w.alloc (.cells #[.slice aQ nQ cQ, .slice aD nD cD, .int .i64 turn, .bool fresh, .slice aS j cS] 27)).alloc (.cells #[.slice none 0 0, .slice none 0 0, .int .i64 0, .bool false, .slice none 0 0] 27)) (w'.setRow gb (turnR (Rnd.defTo (Rnd.cut (Rnd.defTo ⟨some ⟨gq, 0, none⟩, nQ, cQ1, q1, some ⟨gD, 0, none⟩, nD1, cD1, dg, (tn : Int), false, some ⟨gS, 0, none⟩, nS1, cS1, A1, L1, C1, z1⟩ tn (dg tn - z1 tn 0)) tn a' c') tn 0)).cells) := (next2p HB3.out hb).trans ((setRow_touchR w' gb (turnR (Rnd.defTo (Rnd.cut (Rnd.defTo ⟨some ⟨gq, 0, none⟩, nQ, cQ1, q1, some ⟨gD, 0, none⟩, nD1, cD1, dg, (tn : Int), false, some ⟨gS, 0, none⟩, nS1, cS1, A1, L1, C1, z1⟩ tn (dg tn - z1 tn 0)) tn a' c') tn 0)).cells).below (by have := upper2p HB3.out; have := hb.size; omega) (fun x hx => by simp at hx; subst hx; exact Hgb.out))
                  have HKk : Hid (w'.heap[gb]? = some (.cells (Rnd.cells (Rnd.defTo (Rnd.cut (Rnd.defTo ⟨some ⟨gq, 0, none⟩, nQ, cQ1, q1, some ⟨gD, 0, none⟩, nD1, cD1, dg, (tn : Int), false, some ⟨gS, 0, none⟩, nS1, cS1, A1, L1, C1, z1⟩ tn (dg tn - z1 tn 0)) tn a' c') tn 0)) 27 (0, 0))) := hup.box
                  obtain ⟨Vh, hVh⟩ : ∃ Vh, Vh = w'.setRow gb (turnR (Rnd.defTo (Rnd.cut (Rnd.defTo ⟨some ⟨gq, 0, none⟩, nQ, cQ1, q1, some ⟨gD, 0, none⟩, nD1, cD1, dg, (tn : Int), false, some ⟨gS, 0, none⟩, nS1, cS1, A1, L1, C1, z1⟩ tn (dg tn - z1 tn 0)) tn a' c') tn 0)).cells := ⟨_, rfl⟩
                  rw [← hVh] at hr4 hB4
                  have eVh : w'.setRow gb (turnR (Rnd.defTo (Rnd.cut (Rnd.defTo ⟨some ⟨gq, 0, none⟩, nQ, cQ1, q1, some ⟨gD, 0, none⟩, nD1, cD1, dg, (tn : Int), false, some ⟨gS, 0, none⟩, nS1, cS1, A1, L1, C1, z1⟩ tn (dg tn - z1 tn 0)) tn a' c') tn 0)).cells = Vh := hVh.symm
                  have cgh := blk_cell hr4.box
                  have HR4 : Hid (Rep Vh (w.heap.size + 2) gb gD (turnR (Rnd.defTo (Rnd.cut (Rnd.defTo ⟨some ⟨gq, 0, none⟩, nQ, cQ1, q1, some ⟨gD, 0, none⟩, nD1, cD1, dg, (tn : Int), false, some ⟨gS, 0, none⟩, nS1, cS1, A1, L1, C1, z1⟩ tn (dg tn - z1 tn 0)) tn a' c') tn 0)) (turnR (Rnd.defTo (Rnd.cut (Rnd.defTo ⟨some ⟨gq, 0, none⟩, nQ, cQ1, q1, some ⟨gD, 0, none⟩, nD1, cD1, dg, (tn : Int), false, some ⟨gS, 0, none⟩, nS1, cS1, A1, L1, C1, z1⟩ tn (dg tn - z1 tn 0)) tn a' c') tn 0))) := hr4
                  have HB4 : Hid (Below (w.heap.size + 2) ((w.alloc (.cells #[.slice aQ nQ cQ, .slice aD nD cD, .int .i64 turn, .bool fresh, .slice aS j cS] 27)).alloc (.cells #[.slice none 0 0, .slice none 0 0, .int .i64 0, .bool false, .slice none 0 0] 27)) Vh) := hB4
                  dsimp only [Rnd.cells, turnR, Rnd.defTo, Rnd.cut] at cgh
                  clear hup hr4 hB4 hVh hb cgg csf cgf eVg cdf fdf
                  have kOut := out2p HB4.out
                  have ht := setRow_touchR Vh (w.heap.size + 1) (Rnd.cells (turnR (Rnd.defTo (Rnd.cut (Rnd.defTo ⟨some ⟨gq, 0, none⟩, nQ, cQ1, q1, some ⟨gD, 0, none⟩, nD1, cD1, dg, (tn : Int), false, some ⟨gS, 0, none⟩, nS1, cS1, A1, L1, C1, z1⟩ tn (dg tn - z1 tn 0)) tn a' c') tn 0)))
                  have cF := blk_cell (setRow_blkR kOut (cs := Rnd.cells (turnR (Rnd.defTo (Rnd.cut (Rnd.defTo ⟨some ⟨gq, 0, none⟩, nQ, cQ1, q1, some ⟨gD, 0, none⟩, nD1, cD1, dg, (tn : Int), false, some ⟨gS, 0, none⟩, nS1, cS1, A1, L1, C1, z1⟩ tn (dg tn - z1 tn 0)) tn a' c') tn 0))))
                  have hBfin : Below w.heap.size w (Vh.setRow (w.heap.size + 1) (Rnd.cells (turnR (Rnd.defTo (Rnd.cut (Rnd.defTo ⟨some ⟨gq, 0, none⟩, nQ, cQ1, q1, some ⟨gD, 0, none⟩, nD1, cD1, dg, (tn : Int), false, some ⟨gS, 0, none⟩, nS1, cS1, A1, L1, C1, z1⟩ tn (dg tn - z1 tn 0)) tn a' c') tn 0)))) := (under2p HB4.out).trans (ht.below (by have := upper2p HB4.out; omega) (fun x hx => by simp at hx; omega))
                  have hOfin := (HR4.out.own.touch ht (fun x hx => by simp at hx; omega)).mono (show w.heap.size ≤ (w.heap.size + 2) by omega)
                  have HKo : Hid (Vh.heap[w.heap.size + 1]? = some (.cells #[.slice none 0 0, .slice none 0 0, .int .i64 0, .bool false, .slice none 0 0] 27 (0, 0))) := kOut
                  obtain ⟨Vo, hVo⟩ : ∃ Vo, Vo = Vh.setRow (w.heap.size + 1) (Rnd.cells (turnR (Rnd.defTo (Rnd.cut (Rnd.defTo ⟨some ⟨gq, 0, none⟩, nQ, cQ1, q1, some ⟨gD, 0, none⟩, nD1, cD1, dg, (tn : Int), false, some ⟨gS, 0, none⟩, nS1, cS1, A1, L1, C1, z1⟩ tn (dg tn - z1 tn 0)) tn a' c') tn 0))) := ⟨_, rfl⟩
                  have eVo : Vh.setRow (w.heap.size + 1) (Rnd.cells (turnR (Rnd.defTo (Rnd.cut (Rnd.defTo ⟨some ⟨gq, 0, none⟩, nQ, cQ1, q1, some ⟨gD, 0, none⟩, nD1, cD1, dg, (tn : Int), false, some ⟨gS, 0, none⟩, nS1, cS1, A1, L1, C1, z1⟩ tn (dg tn - z1 tn 0)) tn a' c') tn 0))) = Vo := hVo.symm
                  rw [← hVo] at hBfin hOfin cF
                  have HBfin : Hid (Below w.heap.size w Vo) := hBfin
                  have HOfin : Hid (OwnRn Vo w.heap.size (turnR (Rnd.defTo (Rnd.cut (Rnd.defTo ⟨some ⟨gq, 0, none⟩, nQ, cQ1, q1, some ⟨gD, 0, none⟩, nD1, cD1, dg, (tn : Int), false, some ⟨gS, 0, none⟩, nS1, cS1, A1, L1, C1, z1⟩ tn (dg tn - z1 tn 0)) tn a' c') tn 0))) := hOfin
                  have HcF : Hid (∀ o, Vo.cell? ⟨w.heap.size + 1, o, none⟩ = (Rnd.cells (turnR (Rnd.defTo (Rnd.cut (Rnd.defTo ⟨some ⟨gq, 0, none⟩, nQ, cQ1, q1, some ⟨gD, 0, none⟩, nD1, cD1, dg, (tn : Int), false, some ⟨gS, 0, none⟩, nS1, cS1, A1, L1, C1, z1⟩ tn (dg tn - z1 tn 0)) tn a' c') tn 0)))[o]?) := cF
                  have HeVo : Hid (Vh.setRow (w.heap.size + 1) (Rnd.cells (turnR (Rnd.defTo (Rnd.cut (Rnd.defTo ⟨some ⟨gq, 0, none⟩, nQ, cQ1, q1, some ⟨gD, 0, none⟩, nD1, cD1, dg, (tn : Int), false, some ⟨gS, 0, none⟩, nS1, cS1, A1, L1, C1, z1⟩ tn (dg tn - z1 tn 0)) tn a' c') tn 0))) = Vo) := eVo
                  clear kOut ht cF hBfin hOfin hVo eVo
                  go_wp2_with (first | refine wpList_stR rfl (.tmp 7) (.tmp 110) rfl gb rfl (turnR (Rnd.defTo (Rnd.cut (Rnd.defTo ⟨some ⟨gq, 0, none⟩, nQ, cQ1, q1, some ⟨gD, 0, none⟩, nD1, cD1, dg, (tn : Int), false, some ⟨gS, 0, none⟩, nS1, cS1, A1, L1, C1, z1⟩ tn (dg tn - z1 tn 0)) tn a' c') tn 0)).cells rfl (Rnd.cells (Rnd.defTo (Rnd.cut (Rnd.defTo ⟨some ⟨gq, 0, none⟩, nQ, cQ1, q1, some ⟨gD, 0, none⟩, nD1, cD1, dg, (tn : Int), false, some ⟨gS, 0, none⟩, nS1, cS1, A1, L1, C1, z1⟩ tn (dg tn - z1 tn 0)) tn a' c') tn 0)) HKk.out rfl rfl (Rnd.cells_one _) (eVh ▸ ?_) | refine wpList_stR rfl (.tmp 2) (.tmp 111) rfl (w.heap.size + 1) rfl (Rnd.cells (turnR (Rnd.defTo (Rnd.cut (Rnd.defTo ⟨some ⟨gq, 0, none⟩, nQ, cQ1, q1, some ⟨gD, 0, none⟩, nD1, cD1, dg, (tn : Int), false, some ⟨gS, 0, none⟩, nS1, cS1, A1, L1, C1, z1⟩ tn (dg tn - z1 tn 0)) tn a' c') tn 0))) rfl #[.slice none 0 0, .slice none 0 0, .int .i64 0, .bool false, .slice none 0 0] HKo.out rfl rfl (Rnd.cells_one _) (HeVo.out ▸ ?_))
                  have cF := HcF.out
                  exact bodyPost_ret (v := .tuple #[.agg (Rnd.cells (turnR (Rnd.defTo (Rnd.cut (Rnd.defTo ⟨some ⟨gq, 0, none⟩, nQ, cQ1, q1, some ⟨gD, 0, none⟩, nD1, cD1, dg, (tn : Int), false, some ⟨gS, 0, none⟩, nS1, cS1, A1, L1, C1, z1⟩ tn (dg tn - z1 tn 0)) tn a' c') tn 0))), .int .i64 (tn : Int), .int .i64 (z1 tn 0)]) (by simp [results, Try.results27, go_sem, cF, Rnd.cells]) rfl ⟨(turnR (Rnd.defTo (Rnd.cut (Rnd.defTo ⟨some ⟨gq, 0, none⟩, nQ, cQ1, q1, some ⟨gD, 0, none⟩, nD1, cD1, dg, (tn : Int), false, some ⟨gS, 0, none⟩, nS1, cS1, A1, L1, C1, z1⟩ tn (dg tn - z1 tn 0)) tn a' c') tn 0)), rfl, HOfin.out, HBfin.out, HA.out.trans (HR2.out ▸ last_alike HNc.out HN1.out a' c')⟩
                · have hone2 : ¬ L1 tn - 1 = 0 := by omega
                  have HN1 : Hid (L1 tn ≠ 1) := hone
                  clear hone
                  have kOut := out2p HBf.out
                  have ht := setRow_touchR Vf (w.heap.size + 1) (Rnd.cells (Rnd.cut (Rnd.defTo ⟨some ⟨gq, 0, none⟩, nQ, cQ1, q1, some ⟨gD, 0, none⟩, nD1, cD1, dg, (tn : Int), false, some ⟨gS, 0, none⟩, nS1, cS1, A1, L1, C1, z1⟩ tn (dg tn - z1 tn 0)) tn a' c'))
                  have cF := blk_cell (setRow_blkR kOut (cs := Rnd.cells (Rnd.cut (Rnd.defTo ⟨some ⟨gq, 0, none⟩, nQ, cQ1, q1, some ⟨gD, 0, none⟩, nD1, cD1, dg, (tn : Int), false, some ⟨gS, 0, none⟩, nS1, cS1, A1, L1, C1, z1⟩ tn (dg tn - z1 tn 0)) tn a' c')))
                  have hBfin : Below w.heap.size w (Vf.setRow (w.heap.size + 1) (Rnd.cells (Rnd.cut (Rnd.defTo ⟨some ⟨gq, 0, none⟩, nQ, cQ1, q1, some ⟨gD, 0, none⟩, nD1, cD1, dg, (tn : Int), false, some ⟨gS, 0, none⟩, nS1, cS1, A1, L1, C1, z1⟩ tn (dg tn - z1 tn 0)) tn a' c'))) := (under2p HBf.out).trans (ht.below (by have := upper2p HBf.out; omega) (fun x hx => by simp at hx; omega))
                  have hOfin := (HOf.out.touch ht (fun x hx => by simp at hx; omega)).mono (show w.heap.size ≤ (w.heap.size + 2) by omega)
                  have HKo : Hid (Vf.heap[w.heap.size + 1]? = some (.cells #[.slice none 0 0, .slice none 0 0, .int .i64 0, .bool false, .slice none 0 0] 27 (0, 0))) := kOut
                  obtain ⟨Vo, hVo⟩ : ∃ Vo, Vo = Vf.setRow (w.heap.size + 1) (Rnd.cells (Rnd.cut (Rnd.defTo ⟨some ⟨gq, 0, none⟩, nQ, cQ1, q1, some ⟨gD, 0, none⟩, nD1, cD1, dg, (tn : Int), false, some ⟨gS, 0, none⟩, nS1, cS1, A1, L1, C1, z1⟩ tn (dg tn - z1 tn 0)) tn a' c')) := ⟨_, rfl⟩
                  have eVo : Vf.setRow (w.heap.size + 1) (Rnd.cells (Rnd.cut (Rnd.defTo ⟨some ⟨gq, 0, none⟩, nQ, cQ1, q1, some ⟨gD, 0, none⟩, nD1, cD1, dg, (tn : Int), false, some ⟨gS, 0, none⟩, nS1, cS1, A1, L1, C1, z1⟩ tn (dg tn - z1 tn 0)) tn a' c')) = Vo := hVo.symm
                  rw [← hVo] at hBfin hOfin cF
                  have HBfin : Hid (Below w.heap.size w Vo) := hBfin
                  have HOfin : Hid (OwnRn Vo w.heap.size (Rnd.cut (Rnd.defTo ⟨some ⟨gq, 0, none⟩, nQ, cQ1, q1, some ⟨gD, 0, none⟩, nD1, cD1, dg, (tn : Int), false, some ⟨gS, 0, none⟩, nS1, cS1, A1, L1, C1, z1⟩ tn (dg tn - z1 tn 0)) tn a' c')) := hOfin
                  have HcF : Hid (∀ o, Vo.cell? ⟨w.heap.size + 1, o, none⟩ = (Rnd.cells (Rnd.cut (Rnd.defTo ⟨some ⟨gq, 0, none⟩, nQ, cQ1, q1, some ⟨gD, 0, none⟩, nD1, cD1, dg, (tn : Int), false, some ⟨gS, 0, none⟩, nS1, cS1, A1, L1, C1, z1⟩ tn (dg tn - z1 tn 0)) tn a' c'))[o]?) := cF
                  have HeVo : Hid (Vf.setRow (w.heap.size + 1) (Rnd.cells (Rnd.cut (Rnd.defTo ⟨some ⟨gq, 0, none⟩, nQ, cQ1, q1, some ⟨gD, 0, none⟩, nD1, cD1, dg, (tn : Int), false, some ⟨gS, 0, none⟩, nS1, cS1, A1, L1, C1, z1⟩ tn (dg tn - z1 tn 0)) tn a' c')) = Vo) := eVo
                  clear kOut ht cF hBfin hOfin hVo eVo
                  go_wp2_with (refine wpList_stR rfl (.tmp 2) (.tmp 111) rfl (w.heap.size + 1) rfl (Rnd.cells (Rnd.cut (Rnd.defTo ⟨some ⟨gq, 0, none⟩, nQ, cQ1, q1, some ⟨gD, 0, none⟩, nD1, cD1, dg, (tn : Int), false, some ⟨gS, 0, none⟩, nS1, cS1, A1, L1, C1, z1⟩ tn (dg tn - z1 tn 0)) tn a' c')) rfl #[.slice none 0 0, .slice none 0 0, .int .i64 0, .bool false, .slice none 0 0] HKo.out rfl rfl (Rnd.cells_one _) (HeVo.out ▸ ?_))
                  have cF := HcF.out
                  exact bodyPost_ret (v := .tuple #[.agg (Rnd.cells (Rnd.cut (Rnd.defTo ⟨some ⟨gq, 0, none⟩, nQ, cQ1, q1, some ⟨gD, 0, none⟩, nD1, cD1, dg, (tn : Int), false, some ⟨gS, 0, none⟩, nS1, cS1, A1, L1, C1, z1⟩ tn (dg tn - z1 tn 0)) tn a' c')), .int .i64 (tn : Int), .int .i64 (z1 tn 0)]) (by simp [results, Try.results27, go_sem, cF, Rnd.cells]) rfl ⟨(Rnd.cut (Rnd.defTo ⟨some ⟨gq, 0, none⟩, nQ, cQ1, q1, some ⟨gD, 0, none⟩, nD1, cD1, dg, (tn : Int), false, some ⟨gS, 0, none⟩, nS1, cS1, A1, L1, C1, z1⟩ tn (dg tn - z1 tn 0)) tn a' c'), rfl, HOfin.out, HBfin.out, HA.out.trans (HR2.out ▸ took_alike HNc.out HN1.out a' c')⟩
              · go_simp
                refine hK.out _ _ cgy (fun hHeld => ?_)
                clear hK K
                try simp only [Act.put, List.setIfInBounds_toArray, List.set_cons_zero, List.set_cons_succ]
                refine takeD (i := 9) (some 95) (v := .slice (some ⟨gz, qz, none⟩) (L1 tn - 1) (C1 tn - 1)) rfl rfl (by kernel_rfl) (by kernel_rfl) (by kernel_rfl) (fun _ _ _ h => h) (by kernel_rfl) ?_ (by assumption) ?_
                · intro wx hSw
                  have h9 := run_cutS gz qz (L1 tn) (C1 tn) wx Hz.out Hqz.out
                  clear hSw
                  go_simp
                  first | done | exact Hqz.out
                try simp only [Act.put, List.setIfInBounds_toArray, List.set_cons_zero, List.set_cons_succ]
                refine wpAnyH_ready (rs := [3]) (by kernel_rfl) (by simp) ?_
                refine AllReadyH.cons rfl (fun K hK => ?_) AllReadyH.nil
                go_simp
                refine hK.out _ _ cga (fun hHeld => ?_)
                clear hK K
                try simp only [Act.put, List.setIfInBounds_toArray, List.set_cons_zero, List.set_cons_succ]
                refine wpAnyH_ready (rs := [10]) (by kernel_rfl) (by simp) ?_
                refine AllReadyH.cons rfl (fun K hK => ?_) AllReadyH.nil
                refine wp_appD (by kernel_rfl) (some 96) (.tmp 89) (.tmp 95) 24 _ _ _ rfl rfl rfl rfl rfl hrun ?_
                refine hK.out _ _ cgz (fun hHeld => ?_)
                clear hK K
                try simp only [Act.put, List.setIfInBounds_toArray, List.set_cons_zero, List.set_cons_succ]
                refine takeD (i := 11) (some 97) (v := ?_) rfl rfl (by kernel_rfl) (by kernel_rfl) (by kernel_rfl) (fun _ _ _ h => h) (by kernel_rfl) ?_ (by assumption) ?_
                rotate_left
                · intro wx hSw
                  try dsimp only at hSw
                  go_simp
                  try (with_reducible rfl)
                try simp only [Act.put, List.setIfInBounds_toArray, List.set_cons_zero, List.set_cons_succ]
                refine wpAnyH_ready (rs := [12]) (by kernel_rfl) (by simp) ?_
                refine AllReadyH.cons rfl (fun K hK => ?_) AllReadyH.nil
                go_simp
                try rw [eVf]
                refine hK.out _ _ cgf (fun hHeld => ?_)
                clear hK K
                try simp only [Act.put, List.setIfInBounds_toArray, List.set_cons_zero, List.set_cons_succ]
                refine wpAnyH_done (by kernel_rfl) ?_ _
                clear hHeld cgy cga cgz csy csa csz fsz hrun eVf
                by_cases hone : L1 tn = 1
                · have HN1 : Hid (L1 tn = 1) := hone
                  have hone2 : L1 tn - 1 = 0 := by omega
                  have hRf := HRf.out hone
                  rw [hone2] at csf
                  have hgD2 : (w.heap.size + 2) ≤ gD := by
                    rcases hRf.own.d with h0 | ⟨g, hg, h9, hr⟩
                    · have h3 : nD1 = 0 := h0
                      omega
                    · cases hg
                      exact h9
                  obtain ⟨cdf, fdf⟩ : (∃ vd, Vf.cell? ⟨gD, tn, none⟩ = some (.int .i64 vd)) ∧ Vf.frozen? ⟨gD, tn, none⟩ = false := by
                    rcases hRf.own.d with h0 | ⟨g, hg, h9, hr⟩
                    · have h3 : nD1 = 0 := h0
                      omega
                    · cases hg
                      exact ⟨⟨_, hr.at tn (show tn < nD1 by omega)⟩, hr.free tn⟩
                  obtain ⟨vd, cdf⟩ := cdf
                  have hR3 := hRf.def (c := tn) (show tn < nD1 by omega) 0
                  have hB3 := HBf.out.trans (((Touch.refl [gD] Vf).set (g := gD) (by simp) tn (.int .i64 0)).below (upper2p HBf.out) (fun x hx => by simp at hx; subst hx; exact hgD2))
                  obtain ⟨Vg, hVg⟩ : ∃ Vg, Vg = Vf.setCell ⟨gD, tn, none⟩ (.int .i64 0) := ⟨_, rfl⟩
                  rw [← hVg] at hR3 hB3
                  have eVg : Vf.setCell ⟨gD, tn, none⟩ (.int .i64 0) = Vg := hVg.symm
                  have cgg := blk_cell hR3.box
                  dsimp only [Rnd.cells, Rnd.defTo, Rnd.cut] at cgg
                  have HR3 : Hid (Rep Vg (w.heap.size + 2) gb gD (Rnd.defTo (Rnd.cut (Rnd.defTo ⟨some ⟨gq, 0, none⟩, nQ, cQ1, q1, some ⟨gD, 0, none⟩, nD1, cD1, dg, (tn : Int), false, some ⟨gS, 0, none⟩, nS1, cS1, A1, L1, C1, z1⟩ tn (dg tn - z1 tn 0)) tn a' c') tn 0) (Rnd.defTo (Rnd.cut (Rnd.defTo ⟨some ⟨gq, 0, none⟩, nQ, cQ1, q1, some ⟨gD, 0, none⟩, nD1, cD1, dg, (tn : Int), false, some ⟨gS, 0, none⟩, nS1, cS1, A1, L1, C1, z1⟩ tn (dg tn - z1 tn 0)) tn a' c') tn 0)) := hR3
                  have HB3 : Hid (Below (w.heap.size + 2) ((w.alloc (.cells #[.slice aQ nQ cQ, .slice aD nD cD, .int .i64 turn, .bool fresh, .slice aS j cS] 27)).alloc (.cells #[.slice none 0 0, .slice none 0 0, .int .i64 0, .bool false, .slice none 0 0] 27)) Vg) := hB3
                  clear hRf hgD2 hR3 hB3 hVg hone
                  go_wp2_with fail
                  refine (l4Turn_w (Rnd.defTo (Rnd.cut (Rnd.defTo ⟨some ⟨gq, 0, none⟩, nQ, cQ1, q1, some ⟨gD, 0, none⟩, nD1, cD1, dg, (tn : Int), false, some ⟨gS, 0, none⟩, nS1, cS1, A1, L1, C1, z1⟩ tn (dg tn - z1 tn 0)) tn a' c') tn 0) _ HO.out.n HO.out.t).mono ?_
                  rintro e w' ⟨rfl, hb⟩
                  have hup := HR3.out.up hb
                  have hr4 := hup.turn
                  have hB4 : Below (w.heap.size + 2) ((w.alloc (.cells #[.slice aQ nQ cQ, .slice aD nD cD, .int .i64 turn, .bool fresh, .slice aS j cS] 27)).alloc (.cells #[.slice none 0 0, .slice none 0 0, .int .i64 0, .bool false, .slice none 0 0] 27)) (w'.setRow gb (turnR (Rnd.defTo (Rnd.cut (Rnd.defTo ⟨some ⟨gq, 0, none⟩, nQ, cQ1, q1, some ⟨gD, 0, none⟩, nD1, cD1, dg, (tn : Int), false, some ⟨gS, 0, none⟩, nS1, cS1, A1, L1, C1, z1⟩ tn (dg tn - z1 tn 0)) tn a' c') tn 0)).cells) := (next2p HB3.out hb).trans ((setRow_touchR w' gb (turnR (Rnd.defTo (Rnd.cut (Rnd.defTo ⟨some ⟨gq, 0, none⟩, nQ, cQ1, q1, some ⟨gD, 0, none⟩, nD1, cD1, dg, (tn : Int), false, some ⟨gS, 0, none⟩, nS1, cS1, A1, L1, C1, z1⟩ tn (dg tn - z1 tn 0)) tn a' c') tn 0)).cells).below (by have := upper2p HB3.out; have := hb.size; omega) (fun x hx => by simp at hx; subst hx; exact Hgb.out))
                  have HKk : Hid (w'.heap[gb]? = some (.cells (Rnd.cells (Rnd.defTo (Rnd.cut (Rnd.defTo ⟨some ⟨gq, 0, none⟩, nQ, cQ1, q1, some ⟨gD, 0, none⟩, nD1, cD1, dg, (tn : Int), false, some ⟨gS, 0, none⟩, nS1, cS1, A1, L1, C1, z1⟩ tn (dg tn - z1 tn 0)) tn a' c') tn 0)) 27 (0, 0))) := hup.box
                  obtain ⟨Vh, hVh⟩ : ∃ Vh, Vh = w'.setRow gb (turnR (Rnd.defTo (Rnd.cut (Rnd.defTo ⟨some ⟨gq, 0, none⟩, nQ, cQ1, q1, some ⟨gD, 0, none⟩, nD1, cD1, dg, (tn : Int), false, some ⟨gS, 0, none⟩, nS1, cS1, A1, L1, C1, z1⟩ tn (dg tn - z1 tn 0)) tn a' c') tn 0)).cells := ⟨_, rfl⟩
                  rw [← hVh] at hr4 hB4
                  have eVh : w'.setRow gb (turnR (Rnd.defTo (Rnd.cut (Rnd.defTo ⟨some ⟨gq, 0, none⟩, nQ, cQ1, q1, some ⟨gD, 0, none⟩, nD1, cD1, dg, (tn : Int), false, some ⟨gS, 0, none⟩, nS1, cS1, A1, L1, C1, z1⟩ tn (dg tn - z1 tn 0)) tn a' c') tn 0)).cells = Vh := hVh.symm
                  have cgh := blk_cell hr4.box
                  have HR4 : Hid (Rep Vh (w.heap.size + 2) gb gD (turnR (Rnd.defTo (Rnd.cut (Rnd.defTo ⟨some ⟨gq, 0, none⟩, nQ, cQ1, q1, some ⟨gD, 0, none⟩, nD1, cD1, dg, (tn : Int), false, some ⟨gS, 0, none⟩, nS1, cS1, A1, L1, C1, z1⟩ tn (dg tn - z1 tn 0)) tn a' c') tn 0)) (turnR (Rnd.defTo (Rnd.cut (Rnd.defTo ⟨some ⟨gq, 0, none⟩, nQ, cQ1, q1, some ⟨gD, 0, none⟩, nD1, cD1, dg, (tn : Int), false, some ⟨gS, 0, none⟩, nS1, cS1, A1, L1, C1, z1⟩ tn (dg tn - z1 tn 0)) tn a' c') tn 0))) := hr4
                  have HB4 : Hid (Below (w.heap.size + 2) ((w.alloc (.cells #[.slice aQ nQ cQ, .slice aD nD cD, .int .i64 turn, .bool fresh, .slice aS j cS] 27)).alloc (.cells #[.slice none 0 0, .slice none 0 0, .int .i64 0, .bool false, .slice none 0 0] 27)) Vh) := hB4
                  dsimp only [Rnd.cells, turnR, Rnd.defTo, Rnd.cut] at cgh
                  clear hup hr4 hB4 hVh hb cgg csf cgf eVg cdf fdf
                  have kOut := out2p HB4.out
                  have ht := setRow_touchR Vh (w.heap.size + 1) (Rnd.cells (turnR (Rnd.defTo (Rnd.cut (Rnd.defTo ⟨some ⟨gq, 0, none⟩, nQ, cQ1, q1, some ⟨gD, 0, none⟩, nD1, cD1, dg, (tn : Int), false, some ⟨gS, 0, none⟩, nS1, cS1, A1, L1, C1, z1⟩ tn (dg tn - z1 tn 0)) tn a' c') tn 0)))
                  have cF := blk_cell (setRow_blkR kOut (cs := Rnd.cells (turnR (Rnd.defTo (Rnd.cut (Rnd.defTo ⟨some ⟨gq, 0, none⟩, nQ, cQ1, q1, some ⟨gD, 0, none⟩, nD1, cD1, dg, (tn : Int), false, some ⟨gS, 0, none⟩, nS1, cS1, A1, L1, C1, z1⟩ tn (dg tn - z1 tn 0)) tn a' c') tn 0))))
                  have hBfin : Below w.heap.size w (Vh.setRow (w.heap.size + 1) (Rnd.cells (turnR (Rnd.defTo (Rnd.cut (Rnd.defTo ⟨some ⟨gq, 0, none⟩, nQ, cQ1, q1, some ⟨gD, 0, none⟩, nD1, cD1, dg, (tn : Int), false, some ⟨gS, 0, none⟩, nS1, cS1, A1, L1, C1, z1⟩ tn (dg tn - z1 tn 0)) tn a' c') tn 0)))) := (under2p HB4.out).trans (ht.below (by have := upper2p HB4.out; omega) (fun x hx => by simp at hx; omega))
                  have hOfin := (HR4.out.own.touch ht (fun x hx => by simp at hx; omega)).mono (show w.heap.size ≤ (w.heap.size + 2) by omega)
                  have HKo : Hid (Vh.heap[w.heap.size + 1]? = some (.cells #[.slice none 0 0, .slice none 0 0, .int .i64 0, .bool false, .slice none 0 0] 27 (0, 0))) := kOut
                  obtain ⟨Vo, hVo⟩ : ∃ Vo, Vo = Vh.setRow (w.heap.size + 1) (Rnd.cells (turnR (Rnd.defTo (Rnd.cut (Rnd.defTo ⟨some ⟨gq, 0, none⟩, nQ, cQ1, q1, some ⟨gD, 0, none⟩, nD1, cD1, dg, (tn : Int), false, some ⟨gS, 0, none⟩, nS1, cS1, A1, L1, C1, z1⟩ tn (dg tn - z1 tn 0)) tn a' c') tn 0))) := ⟨_, rfl⟩
                  have eVo : Vh.setRow (w.heap.size + 1) (Rnd.cells (turnR (Rnd.defTo (Rnd.cut (Rnd.defTo ⟨some ⟨gq, 0, none⟩, nQ, cQ1, q1, some ⟨gD, 0, none⟩, nD1, cD1, dg, (tn : Int), false, some ⟨gS, 0, none⟩, nS1, cS1, A1, L1, C1, z1⟩ tn (dg tn - z1 tn 0)) tn a' c') tn 0))) = Vo := hVo.symm
                  rw [← hVo] at hBfin hOfin cF
                  have HBfin : Hid (Below w.heap.size w Vo) := hBfin
                  have HOfin : Hid (OwnRn Vo w.heap.size (turnR (Rnd.defTo (Rnd.cut (Rnd.defTo ⟨some ⟨gq, 0, none⟩, nQ, cQ1, q1, some ⟨gD, 0, none⟩, nD1, cD1, dg, (tn : Int), false, some ⟨gS, 0, none⟩, nS1, cS1, A1, L1, C1, z1⟩ tn (dg tn - z1 tn 0)) tn a' c') tn 0))) := hOfin
                  have HcF : Hid (∀ o, Vo.cell? ⟨w.heap.size + 1, o, none⟩ = (Rnd.cells (turnR (Rnd.defTo (Rnd.cut (Rnd.defTo ⟨some ⟨gq, 0, none⟩, nQ, cQ1, q1, some ⟨gD, 0, none⟩, nD1, cD1, dg, (tn : Int), false, some ⟨gS, 0, none⟩, nS1, cS1, A1, L1, C1, z1⟩ tn (dg tn - z1 tn 0)) tn a' c') tn 0)))[o]?) := cF
                  have HeVo : Hid (Vh.setRow (w.heap.size + 1) (Rnd.cells (turnR (Rnd.defTo (Rnd.cut (Rnd.defTo ⟨some ⟨gq, 0, none⟩, nQ, cQ1, q1, some ⟨gD, 0, none⟩, nD1, cD1, dg, (tn : Int), false, some ⟨gS, 0, none⟩, nS1, cS1, A1, L1, C1, z1⟩ tn (dg tn - z1 tn 0)) tn a' c') tn 0))) = Vo) := eVo
                  clear kOut ht cF hBfin hOfin hVo eVo
                  go_wp2_with (first | refine wpList_stR rfl (.tmp 7) (.tmp 110) rfl gb rfl (turnR (Rnd.defTo (Rnd.cut (Rnd.defTo ⟨some ⟨gq, 0, none⟩, nQ, cQ1, q1, some ⟨gD, 0, none⟩, nD1, cD1, dg, (tn : Int), false, some ⟨gS, 0, none⟩, nS1, cS1, A1, L1, C1, z1⟩ tn (dg tn - z1 tn 0)) tn a' c') tn 0)).cells rfl (Rnd.cells (Rnd.defTo (Rnd.cut (Rnd.defTo ⟨some ⟨gq, 0, none⟩, nQ, cQ1, q1, some ⟨gD, 0, none⟩, nD1, cD1, dg, (tn : Int), false, some ⟨gS, 0, none⟩, nS1, cS1, A1, L1, C1, z1⟩ tn (dg tn - z1 tn 0)) tn a' c') tn 0)) HKk.out rfl rfl (Rnd.cells_one _) (eVh ▸ ?_) | refine wpList_stR rfl (.tmp 2) (.tmp 111) rfl (w.heap.size + 1) rfl (Rnd.cells (turnR (Rnd.defTo (Rnd.cut (Rnd.defTo ⟨some ⟨gq, 0, none⟩, nQ, cQ1, q1, some ⟨gD, 0, none⟩, nD1, cD1, dg, (tn : Int), false, some ⟨gS, 0, none⟩, nS1, cS1, A1, L1, C1, z1⟩ tn (dg tn - z1 tn 0)) tn a' c') tn 0))) rfl #[.slice none 0 0, .slice none 0 0, .int .i64 0, .bool false, .slice none 0 0] HKo.out rfl rfl (Rnd.cells_one _) (HeVo.out ▸ ?_))
                  have cF := HcF.out
                  exact bodyPost_ret (v := .tuple #[.agg (Rnd.cells (turnR (Rnd.defTo (Rnd.cut (Rnd.defTo ⟨some ⟨gq, 0, none⟩, nQ, cQ1, q1, some ⟨gD, 0, none⟩, nD1, cD1, dg, (tn : Int), false, some ⟨gS, 0, none⟩, nS1, cS1, A1, L1, C1, z1⟩ tn (dg tn - z1 tn 0)) tn a' c') tn 0))), .int .i64 (tn : Int), .int .i64 (z1 tn 0)]) (by simp [results, Try.results27, go_sem, cF, Rnd.cells]) rfl ⟨(turnR (Rnd.defTo (Rnd.cut (Rnd.defTo ⟨some ⟨gq, 0, none⟩, nQ, cQ1, q1, some ⟨gD, 0, none⟩, nD1, cD1, dg, (tn : Int), false, some ⟨gS, 0, none⟩, nS1, cS1, A1, L1, C1, z1⟩ tn (dg tn - z1 tn 0)) tn a' c') tn 0)), rfl, HOfin.out, HBfin.out, HA.out.trans (HR2.out ▸ last_alike HNc.out HN1.out a' c')⟩
                · have hone2 : ¬ L1 tn - 1 = 0 := by omega
                  have HN1 : Hid (L1 tn ≠ 1) := hone
                  clear hone
                  have kOut := out2p HBf.out
                  have ht := setRow_touchR Vf (w.heap.size + 1) (Rnd.cells (Rnd.cut (Rnd.defTo ⟨some ⟨gq, 0, none⟩, nQ, cQ1, q1, some ⟨gD, 0, none⟩, nD1, cD1, dg, (tn : Int), false, some ⟨gS, 0, none⟩, nS1, cS1, A1, L1, C1, z1⟩ tn (dg tn - z1 tn 0)) tn a' c'))
                  have cF := blk_cell (setRow_blkR kOut (cs := Rnd.cells (Rnd.cut (Rnd.defTo ⟨some ⟨gq, 0, none⟩, nQ, cQ1, q1, some ⟨gD, 0, none⟩, nD1, cD1, dg, (tn : Int), false, some ⟨gS, 0, none⟩, nS1, cS1, A1, L1, C1, z1⟩ tn (dg tn - z1 tn 0)) tn a' c')))
                  have hBfin : Below w.heap.size w (Vf.setRow (w.heap.size + 1) (Rnd.cells (Rnd.cut (Rnd.defTo ⟨some ⟨gq, 0, none⟩, nQ, cQ1, q1, some ⟨gD, 0, none⟩, nD1, cD1, dg, (tn : Int), false, some ⟨gS, 0, none⟩, nS1, cS1, A1, L1, C1, z1⟩ tn (dg tn - z1 tn 0)) tn a' c'))) := (under2p HBf.out).trans (ht.below (by have := upper2p HBf.out; omega) (fun x hx => by simp at hx; omega))
                  have hOfin := (HOf.out.touch ht (fun x hx => by simp at hx; omega)).mono (show w.heap.size ≤ (w.heap.size + 2) by omega)
                  have HKo : Hid (Vf.heap[w.heap.size + 1]? = some (.cells #[.slice none 0 0, .slice none 0 0, .int .i64 0, .bool false, .slice none 0 0] 27 (0, 0))) := kOut
                  obtain ⟨Vo, hVo⟩ : ∃ Vo, Vo = Vf.setRow (w.heap.size + 1) (Rnd.cells (Rnd.cut (Rnd.defTo ⟨some ⟨gq, 0, none⟩, nQ, cQ1, q1, some ⟨gD, 0, none⟩, nD1, cD1, dg, (tn : Int), false, some ⟨gS, 0, none⟩, nS1, cS1, A1, L1, C1, z1⟩ tn (dg tn - z1 tn 0)) tn a' c')) := ⟨_, rfl⟩
                  have eVo : Vf.setRow (w.heap.size + 1) (Rnd.cells (Rnd.cut (Rnd.defTo ⟨some ⟨gq, 0, none⟩, nQ, cQ1, q1, some ⟨gD, 0, none⟩, nD1, cD1, dg, (tn : Int), false, some ⟨gS, 0, none⟩, nS1, cS1, A1, L1, C1, z1⟩ tn (dg tn - z1 tn 0)) tn a' c')) = Vo := hVo.symm
                  rw [← hVo] at hBfin hOfin cF
                  have HBfin : Hid (Below w.heap.size w Vo) := hBfin
                  have HOfin : Hid (OwnRn Vo w.heap.size (Rnd.cut (Rnd.defTo ⟨some ⟨gq, 0, none⟩, nQ, cQ1, q1, some ⟨gD, 0, none⟩, nD1, cD1, dg, (tn : Int), false, some ⟨gS, 0, none⟩, nS1, cS1, A1, L1, C1, z1⟩ tn (dg tn - z1 tn 0)) tn a' c')) := hOfin
                  have HcF : Hid (∀ o, Vo.cell? ⟨w.heap.size + 1, o, none⟩ = (Rnd.cells (Rnd.cut (Rnd.defTo ⟨some ⟨gq, 0, none⟩, nQ, cQ1, q1, some ⟨gD, 0, none⟩, nD1, cD1, dg, (tn : Int), false, some ⟨gS, 0, none⟩, nS1, cS1, A1, L1, C1, z1⟩ tn (dg tn - z1 tn 0)) tn a' c'))[o]?) := cF
                  have HeVo : Hid (Vf.setRow (w.heap.size + 1) (Rnd.cells (Rnd.cut (Rnd.defTo ⟨some ⟨gq, 0, none⟩, nQ, cQ1, q1, some ⟨gD, 0, none⟩, nD1, cD1, dg, (tn : Int), false, some ⟨gS, 0, none⟩, nS1, cS1, A1, L1, C1, z1⟩ tn (dg tn - z1 tn 0)) tn a' c')) = Vo) := eVo
                  clear kOut ht cF hBfin hOfin hVo eVo
                  go_wp2_with (refine wpList_stR rfl (.tmp 2) (.tmp 111) rfl (w.heap.size + 1) rfl (Rnd.cells (Rnd.cut (Rnd.defTo ⟨some ⟨gq, 0, none⟩, nQ, cQ1, q1, some ⟨gD, 0, none⟩, nD1, cD1, dg, (tn : Int), false, some ⟨gS, 0, none⟩, nS1, cS1, A1, L1, C1, z1⟩ tn (dg tn - z1 tn 0)) tn a' c')) rfl #[.slice none 0 0, .slice none 0 0, .int .i64 0, .bool false, .slice none 0 0] HKo.out rfl rfl (Rnd.cells_one _) (HeVo.out ▸ ?_))
                  have cF := HcF.out
                  exact bodyPost_ret (v := .tuple #[.agg (Rnd.cells (Rnd.cut (Rnd.defTo ⟨some ⟨gq, 0, none⟩, nQ, cQ1, q1, some ⟨gD, 0, none⟩, nD1, cD1, dg, (tn : Int), false, some ⟨gS, 0, none⟩, nS1, cS1, A1, L1, C1, z1⟩ tn (dg tn - z1 tn 0)) tn a' c')), .int .i64 (tn : Int), .int .i64 (z1 tn 0)]) (by simp [results, Try.results27, go_sem, cF, Rnd.cells]) rfl ⟨(Rnd.cut (Rnd.defTo ⟨some ⟨gq, 0, none⟩, nQ, cQ1, q1, some ⟨gD, 0, none⟩, nD1, cD1, dg, (tn : Int), false, some ⟨gS, 0, none⟩, nS1, cS1, A1, L1, C1, z1⟩ tn (dg tn - z1 tn 0)) tn a' c'), rfl, HOfin.out, HBfin.out, HA.out.trans (HR2.out ▸ took_alike HNc.out HN1.out a' c')⟩
end Go.Proofs.Ytnfcmiiibkbmfaa
