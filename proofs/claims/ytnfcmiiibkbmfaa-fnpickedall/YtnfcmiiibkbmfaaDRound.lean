/- A round, as the reader draws it. -/
import Derived.Test.YtnfcmiiibkbmfaaDRa
import Derived.Test.YtnfcmiiibkbmfaaRnNewS
import Derived.Deep.Cut
import Derived.Deep.DeepCutAuto
namespace Go.Proofs.Ytnfcmiiibkbmfaa
open Go.RowKit
set_option linter.unusedVariables false
set_option linter.unusedSimpArgs false

theorem wrapD (x : Int) (h1 : 0 ≤ x) (h2 : x ≤ 9223372036854775807) : IntKind.i64.wrap x = x := by
  rw [IntKind.wrap_i64]; omega
set_option maxRecDepth 100000 in
set_option maxHeartbeats 20000000 in
theorem drawRound_any (g : Nat) (cv : Value) (w : World) (h : Rd g cv w) :
    Calls Try.prog 24 #[.pointer (some ⟨g, 0, none⟩)] w fun e w' => ∃ R : Rnd, e = .returned (.agg R.cells) ∧ R.Small ∧ OwnRn w' w.heap.size R ∧ Rd g cv w' ∧ Kept g w w' := by
  have Hg : Hid (g < w.heap.size) := h.lt
  have HD0 : Hid (DQ g cv w _ [] _) := DQ.start h
  clear h
  go_enter Try.func24, Try.ntmps24
  go_wp2_with fail
  refine (below_any g cv 3 _ HD0.out.rd (by omega) (by omega)).mono ?_
  rintro e w1 ⟨x, hx, rfl, hR, hJ⟩
  have HD1 : Hid (DQ g cv w _ [] w1) := HD0.out.keptBy Hg.out hR hJ
  clear hR hJ HD0
  go_wp2_with fail
  go_loopw [3, 4] (fun q i wr => ∃ (k : Nat) (a : Option Addr) (c : Nat) (cs : List Int), i = .int .i64 k ∧ q = .slice a cs.length c ∧ cs.length + k = 1 + x ∧ DQ g cv w (.slice a cs.length c) cs wr) (fun _ i _ => (intOf i).toNat)
  case atStart => exact ⟨1 + x, _, _, [], by go_num, rfl, by simp, HD1.out⟩
  case round =>
    obtain ⟨k, a, c, cs, rfl, rfl, hl, hD⟩ := hrel
    have HD : Hid (DQ g cv w (.slice a cs.length c) cs wr) := hD
    clear hD HD1
    cases k with
    | succ k =>
      have hk' : (0 : Int) < ((k + 1 : Nat) : Int) := by omega
      go_wp2_with fail
      refine (below_any g cv 6 _ HD.out.rd (by omega) (by omega)).mono ?_
      rintro e w2 ⟨y, hy, rfl, hR, hJ⟩
      replace HD : Hid (DQ g cv w (.slice a cs.length c) cs w2) := HD.out.keptBy Hg.out hR hJ
      obtain ⟨a', c', W', hrun, hN⟩ := HD.out.app Hg.out (1 + (y : Int)) (by omega) (by omega)
      have HN : Hid (DQ g cv w (.slice a' (cs.length + 1) c') (cs ++ [1 + (y : Int)]) W') := hN
      clear hN hR hJ
      have hw1 : IntKind.i64.wrap (1 + (y : Int)) = 1 + (y : Int) := wrapD _ (by omega) (by omega)
      go_wp2_with (at_builtin; refine Lib.wpList_append_run _ rfl _ _ _ _ rfl _ _ rfl rfl _ _ hrun ?_)
      go_roundw
      case rel => exact ⟨k, a', c', cs ++ [1 + (y : Int)], by go_num, by simp, by simp; omega, by simpa using HN.out⟩
      case measure => simp [intOf] <;> omega
    | zero =>
      have hkz : ¬ (0 : Int) < ((0 : Nat) : Int) := by omega
      obtain ⟨gq, rfl⟩ : ∃ gq, a = some ⟨gq, 0, none⟩ := by
        obtain ⟨_, ⟨e, h0⟩ | ⟨gq, cap, cur, e, _⟩⟩ := HD.out.own
        · omega
        · cases e
          exact ⟨gq, rfl⟩
      obtain ⟨N, hN⟩ : ∃ N, cs.length = N := ⟨_, rfl⟩
      obtain ⟨f, hf⟩ : ∃ f : Nat → Int, (fun i => cs.getD i 0) = f := ⟨_, rfl⟩
      have hNb : 1 ≤ N ∧ N ≤ 3 := by omega
      have HNo : Hid ((newR N f none 0 0 0).Ok) := by rw [Hid, ← hN, ← hf]; exact HD.out.ok (by omega)
      have HRw : Hid (RdRow wr (some ⟨gq, 0, none⟩) N fun i => .int .i64 (f i)) := by rw [Hid, ← hN, ← hf]; exact (own_viA HD.out.own).read
      have HDr : Hid (Rd g cv wr ∧ Kept g w wr) := ⟨HD.out.rd, HD.out.kept⟩
      have HDs := HD.out.res
      rw [hN]
      clear HD hl hN hf
      go_wp2_with fail
      refine (sRoundNew_any gq 0 N c f _ (by omega) HRw.out true ⟨fun _ => HNo.out, fun _ => rfl⟩).mono ?_
      rintro e w3 ⟨R0, rfl, hO, hb, hA⟩
      have HD : Hid (DR g cv w N w3.heap.size R0 (w3.alloc (.cells #[.slice R0.aQ R0.nQ R0.cQ, .slice R0.aD R0.nD R0.cD, .int .i64 R0.turn, .bool R0.fresh, .slice R0.aS R0.nS R0.cS] 27))) := by
        have hs := blk_lt HDs
        have hb2 : Below w3.heap.size w3 (w3.alloc (.cells #[.slice R0.aQ R0.nQ R0.cQ, .slice R0.aD R0.nD R0.cD, .int .i64 R0.turn, .bool R0.fresh, .slice R0.aS R0.nS R0.cS] 27)) := (Below.refl _ _).alloc (Nat.le_refl _) _
        exact ⟨(HDr.out.1.below hb).alloc _, (HDr.out.2.trans (Kept.ofBelow hb)).alloc _, blk_new _ _, (hO.up hb2).mono (by omega), hA.okI.2 HNo.out, hA.nQ, (hb2.block _ (by have := hb.size; omega)).trans ((hb.block _ hs).trans HDs), by have := hb.size; omega⟩
      clear hO hb hA HDr HDs HRw HNo
      unfold Rnd.cells
      go_wp2_with fail
      generalize w3.alloc (.cells #[.slice R0.aQ R0.nQ R0.cQ, .slice R0.aD R0.nD R0.cD, .int .i64 R0.turn, .bool R0.fresh, .slice R0.aS R0.nS R0.cS] 27) = w4 at *
      generalize w3.heap.size = bx at *
      refine (below_any g cv 24 _ HD.out.rd (by omega) (by omega)).mono ?_
      rintro e w5 ⟨y, hy, rfl, hR, hJ⟩
      replace HD : Hid (DR g cv w N bx R0 w5) := HD.out.keptBy Hg.out hR hJ
      clear hR hJ
      go_wp2_with fail
      go_loopw [7] (fun i wr => ∃ (k : Nat) (X : Rnd), i = .int .i64 k ∧ k ≤ 24 ∧ DR g cv w N bx X wr) (fun i _ => (intOf i).toNat)
      case atStart => exact ⟨y, R0, rfl, by omega, HD.out⟩
      case round =>
        clear HD
        obtain ⟨k, X, rfl, hk, hD⟩ := hrel
        have HD : Hid (DR g cv w N bx X wr) := hD
        clear hD
        cases k with
        | succ k =>
          have hk' : (0 : Int) < ((k + 1 : Nat) : Int) := by omega
          go_wp2_with fail
          refine (once_any g cv 4 _ HD.out.rd (by omega) (by omega)).mono ?_
          rintro e w6 ⟨b, rfl, hR, hJ⟩
          replace HD : Hid (DR g cv w N bx X w6) := HD.out.keptBy Hg.out hR hJ
          clear hR hJ
          cases b
          · go_wp2_with fail
            go_cut [8, 9] (fun s8 s9 wc => WaitSt g cv w N bx X s8 s9 wc)
            case first =>
              replace HD : Hid (DR g cv w N bx X w6.drew) := HD.out.below ((Below.refl _ _).drew)
              have cA : (∀ o, w6.drew.cell? ⟨bx, o, none⟩ = (#[.slice X.aQ X.nQ X.cQ, .slice X.aD X.nD X.cD, .int .i64 X.turn, .bool X.fresh, .slice X.aS X.nS X.cS] : Array Value)[o]?) := blk_cell HD.out.box
              refine wp_region_held_drew (S := fun w' => (∀ o, w'.cell? ⟨bx, o, none⟩ = (#[.slice X.aQ X.nQ X.cQ, .slice X.aD X.nD X.cD, .int .i64 X.turn, .bool X.fresh, .slice X.aS X.nS X.cS] : Array Value)[o]?)) (by kernel_rfl) cA (fun hHeld => ?_)
              generalize w6.drew = V at *
              refine takeD (i := 0) (some 44) (v := ?_) rfl rfl (by kernel_rfl) (by kernel_rfl) (by kernel_rfl) (fun _ _ _ h => h) (by kernel_rfl) ?_ (by assumption) ?_
              rotate_left
              · intro wx hSw
                try dsimp only at hSw
                go_simp
                try (with_reducible rfl)
              try simp only [Act.put, List.setIfInBounds_toArray, List.set_cons_zero, List.set_cons_succ]
              refine takeD (i := 1) (some 45) (v := ?_) rfl rfl (by kernel_rfl) (by kernel_rfl) (by kernel_rfl) (fun _ _ _ h => h) (by kernel_rfl) ?_ (by assumption) ?_
              rotate_left
              · intro wx hSw
                try dsimp only at hSw
                go_simp
                try (with_reducible rfl)
              try simp only [Act.put, List.setIfInBounds_toArray, List.set_cons_zero, List.set_cons_succ]
              refine takeD (i := 2) (some 46) (v := ?_) rfl rfl (by kernel_rfl) (by kernel_rfl) (by kernel_rfl) (fun _ _ _ h => h) (by kernel_rfl) ?_ (by assumption) ?_
              rotate_left
              · intro wx hSw
                try dsimp only at hSw
                go_simp
                try (with_reducible rfl)
              try simp only [Act.put, List.setIfInBounds_toArray, List.set_cons_zero, List.set_cons_succ]
              refine takeD (i := 3) (some 47) (v := ?_) rfl rfl (by kernel_rfl) (by kernel_rfl) (by kernel_rfl) (fun _ _ _ h => h) (by kernel_rfl) ?_ (by assumption) ?_
              rotate_left
              · intro wx hSw
                try dsimp only at hSw
                go_simp
                try (with_reducible rfl)
              try simp only [Act.put, List.setIfInBounds_toArray, List.set_cons_zero, List.set_cons_succ]
              refine takeD (i := 5) (some 49) (v := ?_) rfl rfl (by kernel_rfl) (by kernel_rfl) (by kernel_rfl) (fun _ _ _ h => h) (by kernel_rfl) ?_ (by assumption) ?_
              rotate_left
              · intro wx hSw
                try dsimp only at hSw
                go_simp
                try (with_reducible rfl)
              try simp only [Act.put, List.setIfInBounds_toArray, List.set_cons_zero, List.set_cons_succ]
              clear hHeld
              refine wpAnyH_ready (rs := [4, 12]) (by kernel_rfl) (by simp) ?_
              refine AllReadyH.cons rfl (fun K hK => ?_) (AllReadyH.cons rfl (fun K hK => ?_) AllReadyH.nil)
              · go_simp
                refine (below_any g cv (N : Int) _ HD.out.rd (by omega) (by omega)).mono ?_
                rintro e V1 ⟨xc, hxc, rfl, hR, hJ⟩
                replace HD : Hid (DR g cv w N bx X V1) := HD.out.keptBy Hg.out hR hJ
                clear hR hJ cA
                have cA : (∀ o, V1.cell? ⟨bx, o, none⟩ = (#[.slice X.aQ X.nQ X.cQ, .slice X.aD X.nD X.cD, .int .i64 X.turn, .bool X.fresh, .slice X.aS X.nS X.cS] : Array Value)[o]?) := blk_cell HD.out.box
                refine hK.out _ _ cA (fun hHeld => ?_)
                clear hK K
                try simp only [Act.put, List.setIfInBounds_toArray, List.set_cons_zero, List.set_cons_succ]
                clear hHeld
                refine wpAnyH_ready (rs := [6, 12]) (by kernel_rfl) (by simp) ?_
                refine AllReadyH.cons rfl (fun K hK => ?_) (AllReadyH.cons rfl (fun K hK => ?_) AllReadyH.nil)
                · go_simp
                  refine (below_any g cv 5 _ HD.out.rd (by omega) (by omega)).mono ?_
                  rintro e V2 ⟨xs, hxs, rfl, hR, hJ⟩
                  replace HD : Hid (DR g cv w N bx X V2) := HD.out.keptBy Hg.out hR hJ
                  clear hR hJ cA
                  have cA : (∀ o, V2.cell? ⟨bx, o, none⟩ = (#[.slice X.aQ X.nQ X.cQ, .slice X.aD X.nD X.cD, .int .i64 X.turn, .bool X.fresh, .slice X.aS X.nS X.cS] : Array Value)[o]?) := blk_cell HD.out.box
                  have hw1 : IntKind.i64.wrap (1 + (xs : Int)) = 1 + (xs : Int) := wrapD _ (by omega) (by omega)
                  refine hK.out _ _ cA (fun hHeld => ?_)
                  clear hK K
                  try simp only [Act.put, List.setIfInBounds_toArray, List.set_cons_zero, List.set_cons_succ]
                  refine takeD (i := 7) (some 51) (v := ?_) rfl rfl (by kernel_rfl) (by kernel_rfl) (by kernel_rfl) (fun _ _ _ h => h) (by kernel_rfl) ?_ (by assumption) ?_
                  rotate_left
                  · intro wx hSw
                    try dsimp only at hSw
                    go_simp
                    try (with_reducible rfl)
                  try simp only [Act.put, List.setIfInBounds_toArray, List.set_cons_zero, List.set_cons_succ]
                  clear hHeld
                  refine wpAnyH_ready (rs := [8, 12]) (by kernel_rfl) (by simp) ?_
                  refine AllReadyH.cons rfl (fun K hK => ?_) (AllReadyH.cons rfl (fun K hK => ?_) AllReadyH.nil)
                  · go_simp
                    obtain ⟨ok, hok⟩ := ok_decR (waitsP X xc (1 + xs))
                    have HOk : Hid (ok = true ↔ waitsP X xc (1 + xs)) := hok
                    refine (sWaits_any X xc (1 + xs) _ (ok_smallA HD.out.ok) HD.out.own.rd ok hok).mono ?_
                    clear hok
                    rintro e V3 ⟨Y, rfl, hO, hb, hY⟩
                    have HY : Hid (ok = true → Y.Ok ∧ Y.nQ = N) := fun e => by
                      subst e
                      exact ⟨hY.okI.2 (waitsM_okP (HOk.out.1 rfl)), hY.nQ.trans HD.out.n⟩
                    have hlo : w.heap.size + 1 ≤ V2.heap.size := blk_lt HD.out.res
                    have HO : Hid (OwnRn V3 (w.heap.size + 1) Y) := hO.mono hlo
                    replace HD : Hid (DR g cv w N bx X V3) := HD.out.below hb
                    clear hO hY hb HOk hlo cA
                    have cA : (∀ o, V3.cell? ⟨bx, o, none⟩ = (#[.slice X.aQ X.nQ X.cQ, .slice X.aD X.nD X.cD, .int .i64 X.turn, .bool X.fresh, .slice X.aS X.nS X.cS] : Array Value)[o]?) := blk_cell HD.out.box
                    refine hK.out _ _ cA (fun hHeld => ?_)
                    clear hK K
                    try simp only [Act.put, List.setIfInBounds_toArray, List.set_cons_zero, List.set_cons_succ]
                    try unfold Rnd.cells
                    refine takeD (i := 9) (some 43) (v := ?_) rfl rfl (by kernel_rfl) (by kernel_rfl) (by kernel_rfl) (fun _ _ _ h => h) (by kernel_rfl) ?_ (by assumption) ?_
                    rotate_left
                    · intro wx hSw
                      try dsimp only at hSw
                      go_simp
                      try (with_reducible rfl)
                    try simp only [Act.put, List.setIfInBounds_toArray, List.set_cons_zero, List.set_cons_succ]
                    refine takeD (i := 10) (some 53) (v := ?_) rfl rfl (by kernel_rfl) (by kernel_rfl) (by kernel_rfl) (fun _ _ _ h => h) (by kernel_rfl) ?_ (by assumption) ?_
                    rotate_left
                    · intro wx hSw
                      try dsimp only at hSw
                      go_simp
                      try (with_reducible rfl)
                    try simp only [Act.put, List.setIfInBounds_toArray, List.set_cons_zero, List.set_cons_succ]
                    refine takeD (i := 11) (some 54) (v := ?_) rfl rfl (by kernel_rfl) (by kernel_rfl) (by kernel_rfl) (fun _ _ _ h => h) (by kernel_rfl) ?_ (by assumption) ?_
                    rotate_left
                    · intro wx hSw
                      try dsimp only at hSw
                      go_simp
                      try (with_reducible rfl)
                    try simp only [Act.put, List.setIfInBounds_toArray, List.set_cons_zero, List.set_cons_succ]
                    clear hHeld
                    refine wpAnyH_ready (rs := [12]) (by kernel_rfl) (by simp) ?_
                    refine AllReadyH.cons rfl (fun K hK => ?_) AllReadyH.nil
                    go_simp
                    have hbX : Below V3.heap.size V3 (V3.alloc (.cells #[.slice none 0 0, .slice none 0 0, .int .i64 0, .bool false, .slice none 0 0] 27)) := (Below.refl _ _).alloc (Nat.le_refl _) _
                    have kN := blk_new V3 (.cells #[.slice none 0 0, .slice none 0 0, .int .i64 0, .bool false, .slice none 0 0] 27)
                    have hN1 : w.heap.size < V3.heap.size := by have := blk_lt HD.out.res; omega
                    have hN2 : V3.heap.size ≠ bx := by have := blk_lt HD.out.box; omega
                    replace HD : Hid (DR g cv w N bx X (V3.alloc (.cells #[.slice none 0 0, .slice none 0 0, .int .i64 0, .bool false, .slice none 0 0] 27))) := HD.out.below hbX
                    clear cA
                    replace HO : Hid (OwnRn (V3.alloc (.cells #[.slice none 0 0, .slice none 0 0, .int .i64 0, .bool false, .slice none 0 0] 27)) (w.heap.size + 1) Y) := HO.out.up hbX
                    generalize hbN : V3.heap.size = bN at *
                    generalize V3.alloc (.cells #[.slice none 0 0, .slice none 0 0, .int .i64 0, .bool false, .slice none 0 0] 27) = V4 at *
                    clear hbX
                    have cA : (∀ o, V4.cell? ⟨bx, o, none⟩ = (#[.slice X.aQ X.nQ X.cQ, .slice X.aD X.nD X.cD, .int .i64 X.turn, .bool X.fresh, .slice X.aS X.nS X.cS] : Array Value)[o]?) := blk_cell HD.out.box
                    refine hK.out _ _ cA (fun hHeld => ?_)
                    clear hK K
                    try simp only [Act.put, List.setIfInBounds_toArray, List.set_cons_zero, List.set_cons_succ]
                    clear hHeld
                    refine wpAnyH_ready (rs := [13]) (by kernel_rfl) (by simp) ?_
                    refine AllReadyH.cons rfl (fun K hK => ?_) AllReadyH.nil
                    have cN := blk_cell kN
                    have fN := blk_free kN
                    go_simp
                    have HST : Hid (WaitSt g cv w N bx X (.pointer (some ⟨bN, 0, none⟩)) (.bool ok) (put5 V4 bN (.slice Y.aQ Y.nQ Y.cQ) (.slice Y.aD Y.nD Y.cD) (.int .i64 Y.turn) (.bool Y.fresh) (.slice Y.aS Y.nS Y.cS))) := waitSt_mk HD.out Hg.out hN1 hN2 kN HO.out HY.out
                    clear cA
                    have cA : (∀ o, (put5 V4 bN (.slice Y.aQ Y.nQ Y.cQ) (.slice Y.aD Y.nD Y.cD) (.int .i64 Y.turn) (.bool Y.fresh) (.slice Y.aS Y.nS Y.cS)).cell? ⟨bx, o, none⟩ = (#[.slice X.aQ X.nQ X.cQ, .slice X.aD X.nD X.cD, .int .i64 X.turn, .bool X.fresh, .slice X.aS X.nS X.cS] : Array Value)[o]?) := by
                      obtain ⟨_, _, _, _, _, d, _⟩ := HST.out
                      exact blk_cell d.box
                    unfold put5 at cA HST
                    refine hK.out _ _ cA (fun hHeld => ?_)
                    clear hK K
                    try simp only [Act.put, List.setIfInBounds_toArray, List.set_cons_zero, List.set_cons_succ]
                    clear cN fN
                    clear hHeld
                    refine wpAnyH_ready (rs := [14]) (by kernel_rfl) (by simp) ?_
                    refine AllReadyH.cons rfl (fun K hK => ?_) AllReadyH.nil
                    go_simp
                    refine hK.out _ _ cA (fun hHeld => ?_)
                    clear hK K
                    try simp only [Act.put, List.setIfInBounds_toArray, List.set_cons_zero, List.set_cons_succ]
                    refine wpAnyH_done (by kernel_rfl) ?_ _
                    clear hHeld cA
                    go_wp2_with fail
                    go_meet
                    case rel => exact HST.out
                  · go_simp
                    have hbX : Below V2.heap.size V2 (V2.alloc (.cells #[.slice none 0 0, .slice none 0 0, .int .i64 0, .bool false, .slice none 0 0] 27)) := (Below.refl _ _).alloc (Nat.le_refl _) _
                    have kN := blk_new V2 (.cells #[.slice none 0 0, .slice none 0 0, .int .i64 0, .bool false, .slice none 0 0] 27)
                    have hN1 : w.heap.size < V2.heap.size := by have := blk_lt HD.out.res; omega
                    have hN2 : V2.heap.size ≠ bx := by have := blk_lt HD.out.box; omega
                    replace HD : Hid (DR g cv w N bx X (V2.alloc (.cells #[.slice none 0 0, .slice none 0 0, .int .i64 0, .bool false, .slice none 0 0] 27))) := HD.out.below hbX
                    clear cA
                    generalize hbN : V2.heap.size = bN at *
                    generalize V2.alloc (.cells #[.slice none 0 0, .slice none 0 0, .int .i64 0, .bool false, .slice none 0 0] 27) = V5 at *
                    clear hbX
                    have cA : (∀ o, V5.cell? ⟨bx, o, none⟩ = (#[.slice X.aQ X.nQ X.cQ, .slice X.aD X.nD X.cD, .int .i64 X.turn, .bool X.fresh, .slice X.aS X.nS X.cS] : Array Value)[o]?) := blk_cell HD.out.box
                    refine hK.out _ _ cA (fun hHeld => ?_)
                    clear hK K
                    try simp only [Act.put, List.setIfInBounds_toArray, List.set_cons_zero, List.set_cons_succ]
                    clear hHeld
                    refine wpAnyH_ready (rs := [8]) (by kernel_rfl) (by simp) ?_
                    refine AllReadyH.cons rfl (fun K hK => ?_) AllReadyH.nil
                    go_simp
                    obtain ⟨ok, hok⟩ := ok_decR (waitsP X xc (1 + xs))
                    have HOk : Hid (ok = true ↔ waitsP X xc (1 + xs)) := hok
                    refine (sWaits_any X xc (1 + xs) _ (ok_smallA HD.out.ok) HD.out.own.rd ok hok).mono ?_
                    clear hok
                    rintro e V6 ⟨Y, rfl, hO, hb, hY⟩
                    have HY : Hid (ok = true → Y.Ok ∧ Y.nQ = N) := fun e => by
                      subst e
                      exact ⟨hY.okI.2 (waitsM_okP (HOk.out.1 rfl)), hY.nQ.trans HD.out.n⟩
                    have hlo : w.heap.size + 1 ≤ V5.heap.size := blk_lt HD.out.res
                    have HO : Hid (OwnRn V6 (w.heap.size + 1) Y) := hO.mono hlo
                    replace HD : Hid (DR g cv w N bx X V6) := HD.out.below hb
                    replace kN := (hb.block _ (blk_lt kN)).trans kN
                    clear hO hY hb HOk hlo cA
                    have cA : (∀ o, V6.cell? ⟨bx, o, none⟩ = (#[.slice X.aQ X.nQ X.cQ, .slice X.aD X.nD X.cD, .int .i64 X.turn, .bool X.fresh, .slice X.aS X.nS X.cS] : Array Value)[o]?) := blk_cell HD.out.box
                    refine hK.out _ _ cA (fun hHeld => ?_)
                    clear hK K
                    try simp only [Act.put, List.setIfInBounds_toArray, List.set_cons_zero, List.set_cons_succ]
                    try unfold Rnd.cells
                    refine takeD (i := 9) (some 43) (v := ?_) rfl rfl (by kernel_rfl) (by kernel_rfl) (by kernel_rfl) (fun _ _ _ h => h) (by kernel_rfl) ?_ (by assumption) ?_
                    rotate_left
                    · intro wx hSw
                      try dsimp only at hSw
                      go_simp
                      try (with_reducible rfl)
                    try simp only [Act.put, List.setIfInBounds_toArray, List.set_cons_zero, List.set_cons_succ]
                    refine takeD (i := 10) (some 53) (v := ?_) rfl rfl (by kernel_rfl) (by kernel_rfl) (by kernel_rfl) (fun _ _ _ h => h) (by kernel_rfl) ?_ (by assumption) ?_
                    rotate_left
                    · intro wx hSw
                      try dsimp only at hSw
                      go_simp
                      try (with_reducible rfl)
                    try simp only [Act.put, List.setIfInBounds_toArray, List.set_cons_zero, List.set_cons_succ]
                    refine takeD (i := 11) (some 54) (v := ?_) rfl rfl (by kernel_rfl) (by kernel_rfl) (by kernel_rfl) (fun _ _ _ h => h) (by kernel_rfl) ?_ (by assumption) ?_
                    rotate_left
                    · intro wx hSw
                      try dsimp only at hSw
                      go_simp
                      try (with_reducible rfl)
                    try simp only [Act.put, List.setIfInBounds_toArray, List.set_cons_zero, List.set_cons_succ]
                    clear hHeld
                    refine wpAnyH_ready (rs := [13]) (by kernel_rfl) (by simp) ?_
                    refine AllReadyH.cons rfl (fun K hK => ?_) AllReadyH.nil
                    have cN := blk_cell kN
                    have fN := blk_free kN
                    go_simp
                    have HST : Hid (WaitSt g cv w N bx X (.pointer (some ⟨bN, 0, none⟩)) (.bool ok) (put5 V6 bN (.slice Y.aQ Y.nQ Y.cQ) (.slice Y.aD Y.nD Y.cD) (.int .i64 Y.turn) (.bool Y.fresh) (.slice Y.aS Y.nS Y.cS))) := waitSt_mk HD.out Hg.out hN1 hN2 kN HO.out HY.out
                    clear cA
                    have cA : (∀ o, (put5 V6 bN (.slice Y.aQ Y.nQ Y.cQ) (.slice Y.aD Y.nD Y.cD) (.int .i64 Y.turn) (.bool Y.fresh) (.slice Y.aS Y.nS Y.cS)).cell? ⟨bx, o, none⟩ = (#[.slice X.aQ X.nQ X.cQ, .slice X.aD X.nD X.cD, .int .i64 X.turn, .bool X.fresh, .slice X.aS X.nS X.cS] : Array Value)[o]?) := by
                      obtain ⟨_, _, _, _, _, d, _⟩ := HST.out
                      exact blk_cell d.box
                    unfold put5 at cA HST
                    refine hK.out _ _ cA (fun hHeld => ?_)
                    clear hK K
                    try simp only [Act.put, List.setIfInBounds_toArray, List.set_cons_zero, List.set_cons_succ]
                    clear cN fN
                    clear hHeld
                    refine wpAnyH_ready (rs := [14]) (by kernel_rfl) (by simp) ?_
                    refine AllReadyH.cons rfl (fun K hK => ?_) AllReadyH.nil
                    go_simp
                    refine hK.out _ _ cA (fun hHeld => ?_)
                    clear hK K
                    try simp only [Act.put, List.setIfInBounds_toArray, List.set_cons_zero, List.set_cons_succ]
                    refine wpAnyH_done (by kernel_rfl) ?_ _
                    clear hHeld cA
                    go_wp2_with fail
                    go_meet
                    case rel => exact HST.out
                · go_simp
                  have hbX : Below V1.heap.size V1 (V1.alloc (.cells #[.slice none 0 0, .slice none 0 0, .int .i64 0, .bool false, .slice none 0 0] 27)) := (Below.refl _ _).alloc (Nat.le_refl _) _
                  have kN := blk_new V1 (.cells #[.slice none 0 0, .slice none 0 0, .int .i64 0, .bool false, .slice none 0 0] 27)
                  have hN1 : w.heap.size < V1.heap.size := by have := blk_lt HD.out.res; omega
                  have hN2 : V1.heap.size ≠ bx := by have := blk_lt HD.out.box; omega
                  replace HD : Hid (DR g cv w N bx X (V1.alloc (.cells #[.slice none 0 0, .slice none 0 0, .int .i64 0, .bool false, .slice none 0 0] 27))) := HD.out.below hbX
                  clear cA
                  generalize hbN : V1.heap.size = bN at *
                  generalize V1.alloc (.cells #[.slice none 0 0, .slice none 0 0, .int .i64 0, .bool false, .slice none 0 0] 27) = V7 at *
                  clear hbX
                  have cA : (∀ o, V7.cell? ⟨bx, o, none⟩ = (#[.slice X.aQ X.nQ X.cQ, .slice X.aD X.nD X.cD, .int .i64 X.turn, .bool X.fresh, .slice X.aS X.nS X.cS] : Array Value)[o]?) := blk_cell HD.out.box
                  refine hK.out _ _ cA (fun hHeld => ?_)
                  clear hK K
                  try simp only [Act.put, List.setIfInBounds_toArray, List.set_cons_zero, List.set_cons_succ]
                  clear hHeld
                  refine wpAnyH_ready (rs := [6]) (by kernel_rfl) (by simp) ?_
                  refine AllReadyH.cons rfl (fun K hK => ?_) AllReadyH.nil
                  go_simp
                  refine (below_any g cv 5 _ HD.out.rd (by omega) (by omega)).mono ?_
                  rintro e V8 ⟨xs, hxs, rfl, hR, hJ⟩
                  replace HD : Hid (DR g cv w N bx X V8) := HD.out.keptBy Hg.out hR hJ
                  replace kN := kblk hJ kN (by have := Hg.out; have := hN1; omega)
                  clear hR hJ cA
                  have cA : (∀ o, V8.cell? ⟨bx, o, none⟩ = (#[.slice X.aQ X.nQ X.cQ, .slice X.aD X.nD X.cD, .int .i64 X.turn, .bool X.fresh, .slice X.aS X.nS X.cS] : Array Value)[o]?) := blk_cell HD.out.box
                  have hw1 : IntKind.i64.wrap (1 + (xs : Int)) = 1 + (xs : Int) := wrapD _ (by omega) (by omega)
                  refine hK.out _ _ cA (fun hHeld => ?_)
                  clear hK K
                  try simp only [Act.put, List.setIfInBounds_toArray, List.set_cons_zero, List.set_cons_succ]
                  refine takeD (i := 7) (some 51) (v := ?_) rfl rfl (by kernel_rfl) (by kernel_rfl) (by kernel_rfl) (fun _ _ _ h => h) (by kernel_rfl) ?_ (by assumption) ?_
                  rotate_left
                  · intro wx hSw
                    try dsimp only at hSw
                    go_simp
                    try (with_reducible rfl)
                  try simp only [Act.put, List.setIfInBounds_toArray, List.set_cons_zero, List.set_cons_succ]
                  clear hHeld
                  refine wpAnyH_ready (rs := [8]) (by kernel_rfl) (by simp) ?_
                  refine AllReadyH.cons rfl (fun K hK => ?_) AllReadyH.nil
                  go_simp
                  obtain ⟨ok, hok⟩ := ok_decR (waitsP X xc (1 + xs))
                  have HOk : Hid (ok = true ↔ waitsP X xc (1 + xs)) := hok
                  refine (sWaits_any X xc (1 + xs) _ (ok_smallA HD.out.ok) HD.out.own.rd ok hok).mono ?_
                  clear hok
                  rintro e V9 ⟨Y, rfl, hO, hb, hY⟩
                  have HY : Hid (ok = true → Y.Ok ∧ Y.nQ = N) := fun e => by
                    subst e
                    exact ⟨hY.okI.2 (waitsM_okP (HOk.out.1 rfl)), hY.nQ.trans HD.out.n⟩
                  have hlo : w.heap.size + 1 ≤ V8.heap.size := blk_lt HD.out.res
                  have HO : Hid (OwnRn V9 (w.heap.size + 1) Y) := hO.mono hlo
                  replace HD : Hid (DR g cv w N bx X V9) := HD.out.below hb
                  replace kN := (hb.block _ (blk_lt kN)).trans kN
                  clear hO hY hb HOk hlo cA
                  have cA : (∀ o, V9.cell? ⟨bx, o, none⟩ = (#[.slice X.aQ X.nQ X.cQ, .slice X.aD X.nD X.cD, .int .i64 X.turn, .bool X.fresh, .slice X.aS X.nS X.cS] : Array Value)[o]?) := blk_cell HD.out.box
                  refine hK.out _ _ cA (fun hHeld => ?_)
                  clear hK K
                  try simp only [Act.put, List.setIfInBounds_toArray, List.set_cons_zero, List.set_cons_succ]
                  try unfold Rnd.cells
                  refine takeD (i := 9) (some 43) (v := ?_) rfl rfl (by kernel_rfl) (by kernel_rfl) (by kernel_rfl) (fun _ _ _ h => h) (by kernel_rfl) ?_ (by assumption) ?_
                  rotate_left
                  · intro wx hSw
                    try dsimp only at hSw
                    go_simp
                    try (with_reducible rfl)
                  try simp only [Act.put, List.setIfInBounds_toArray, List.set_cons_zero, List.set_cons_succ]
                  refine takeD (i := 10) (some 53) (v := ?_) rfl rfl (by kernel_rfl) (by kernel_rfl) (by kernel_rfl) (fun _ _ _ h => h) (by kernel_rfl) ?_ (by assumption) ?_
                  rotate_left
                  · intro wx hSw
                    try dsimp only at hSw
                    go_simp
                    try (with_reducible rfl)
                  try simp only [Act.put, List.setIfInBounds_toArray, List.set_cons_zero, List.set_cons_succ]
                  refine takeD (i := 11) (some 54) (v := ?_) rfl rfl (by kernel_rfl) (by kernel_rfl) (by kernel_rfl) (fun _ _ _ h => h) (by kernel_rfl) ?_ (by assumption) ?_
                  rotate_left
                  · intro wx hSw
                    try dsimp only at hSw
                    go_simp
                    try (with_reducible rfl)
                  try simp only [Act.put, List.setIfInBounds_toArray, List.set_cons_zero, List.set_cons_succ]
                  clear hHeld
                  refine wpAnyH_ready (rs := [13]) (by kernel_rfl) (by simp) ?_
                  refine AllReadyH.cons rfl (fun K hK => ?_) AllReadyH.nil
                  have cN := blk_cell kN
                  have fN := blk_free kN
                  go_simp
                  have HST : Hid (WaitSt g cv w N bx X (.pointer (some ⟨bN, 0, none⟩)) (.bool ok) (put5 V9 bN (.slice Y.aQ Y.nQ Y.cQ) (.slice Y.aD Y.nD Y.cD) (.int .i64 Y.turn) (.bool Y.fresh) (.slice Y.aS Y.nS Y.cS))) := waitSt_mk HD.out Hg.out hN1 hN2 kN HO.out HY.out
                  clear cA
                  have cA : (∀ o, (put5 V9 bN (.slice Y.aQ Y.nQ Y.cQ) (.slice Y.aD Y.nD Y.cD) (.int .i64 Y.turn) (.bool Y.fresh) (.slice Y.aS Y.nS Y.cS)).cell? ⟨bx, o, none⟩ = (#[.slice X.aQ X.nQ X.cQ, .slice X.aD X.nD X.cD, .int .i64 X.turn, .bool X.fresh, .slice X.aS X.nS X.cS] : Array Value)[o]?) := by
                    obtain ⟨_, _, _, _, _, d, _⟩ := HST.out
                    exact blk_cell d.box
                  unfold put5 at cA HST
                  refine hK.out _ _ cA (fun hHeld => ?_)
                  clear hK K
                  try simp only [Act.put, List.setIfInBounds_toArray, List.set_cons_zero, List.set_cons_succ]
                  clear cN fN
                  clear hHeld
                  refine wpAnyH_ready (rs := [14]) (by kernel_rfl) (by simp) ?_
                  refine AllReadyH.cons rfl (fun K hK => ?_) AllReadyH.nil
                  go_simp
                  refine hK.out _ _ cA (fun hHeld => ?_)
                  clear hK K
                  try simp only [Act.put, List.setIfInBounds_toArray, List.set_cons_zero, List.set_cons_succ]
                  refine wpAnyH_done (by kernel_rfl) ?_ _
                  clear hHeld cA
                  go_wp2_with fail
                  go_meet
                  case rel => exact HST.out
              · go_simp
                have hbX : Below V.heap.size V (V.alloc (.cells #[.slice none 0 0, .slice none 0 0, .int .i64 0, .bool false, .slice none 0 0] 27)) := (Below.refl _ _).alloc (Nat.le_refl _) _
                have kN := blk_new V (.cells #[.slice none 0 0, .slice none 0 0, .int .i64 0, .bool false, .slice none 0 0] 27)
                have hN1 : w.heap.size < V.heap.size := by have := blk_lt HD.out.res; omega
                have hN2 : V.heap.size ≠ bx := by have := blk_lt HD.out.box; omega
                replace HD : Hid (DR g cv w N bx X (V.alloc (.cells #[.slice none 0 0, .slice none 0 0, .int .i64 0, .bool false, .slice none 0 0] 27))) := HD.out.below hbX
                clear cA
                generalize hbN : V.heap.size = bN at *
                generalize V.alloc (.cells #[.slice none 0 0, .slice none 0 0, .int .i64 0, .bool false, .slice none 0 0] 27) = V10 at *
                clear hbX
                have cA : (∀ o, V10.cell? ⟨bx, o, none⟩ = (#[.slice X.aQ X.nQ X.cQ, .slice X.aD X.nD X.cD, .int .i64 X.turn, .bool X.fresh, .slice X.aS X.nS X.cS] : Array Value)[o]?) := blk_cell HD.out.box
                refine hK.out _ _ cA (fun hHeld => ?_)
                clear hK K
                try simp only [Act.put, List.setIfInBounds_toArray, List.set_cons_zero, List.set_cons_succ]
                clear hHeld
                refine wpAnyH_ready (rs := [4]) (by kernel_rfl) (by simp) ?_
                refine AllReadyH.cons rfl (fun K hK => ?_) AllReadyH.nil
                go_simp
                refine (below_any g cv (N : Int) _ HD.out.rd (by omega) (by omega)).mono ?_
                rintro e V11 ⟨xc, hxc, rfl, hR, hJ⟩
                replace HD : Hid (DR g cv w N bx X V11) := HD.out.keptBy Hg.out hR hJ
                replace kN := kblk hJ kN (by have := Hg.out; have := hN1; omega)
                clear hR hJ cA
                have cA : (∀ o, V11.cell? ⟨bx, o, none⟩ = (#[.slice X.aQ X.nQ X.cQ, .slice X.aD X.nD X.cD, .int .i64 X.turn, .bool X.fresh, .slice X.aS X.nS X.cS] : Array Value)[o]?) := blk_cell HD.out.box
                refine hK.out _ _ cA (fun hHeld => ?_)
                clear hK K
                try simp only [Act.put, List.setIfInBounds_toArray, List.set_cons_zero, List.set_cons_succ]
                clear hHeld
                refine wpAnyH_ready (rs := [6]) (by kernel_rfl) (by simp) ?_
                refine AllReadyH.cons rfl (fun K hK => ?_) AllReadyH.nil
                go_simp
                refine (below_any g cv 5 _ HD.out.rd (by omega) (by omega)).mono ?_
                rintro e V12 ⟨xs, hxs, rfl, hR, hJ⟩
                replace HD : Hid (DR g cv w N bx X V12) := HD.out.keptBy Hg.out hR hJ
                replace kN := kblk hJ kN (by have := Hg.out; have := hN1; omega)
                clear hR hJ cA
                have cA : (∀ o, V12.cell? ⟨bx, o, none⟩ = (#[.slice X.aQ X.nQ X.cQ, .slice X.aD X.nD X.cD, .int .i64 X.turn, .bool X.fresh, .slice X.aS X.nS X.cS] : Array Value)[o]?) := blk_cell HD.out.box
                have hw1 : IntKind.i64.wrap (1 + (xs : Int)) = 1 + (xs : Int) := wrapD _ (by omega) (by omega)
                refine hK.out _ _ cA (fun hHeld => ?_)
                clear hK K
                try simp only [Act.put, List.setIfInBounds_toArray, List.set_cons_zero, List.set_cons_succ]
                refine takeD (i := 7) (some 51) (v := ?_) rfl rfl (by kernel_rfl) (by kernel_rfl) (by kernel_rfl) (fun _ _ _ h => h) (by kernel_rfl) ?_ (by assumption) ?_
                rotate_left
                · intro wx hSw
                  try dsimp only at hSw
                  go_simp
                  try (with_reducible rfl)
                try simp only [Act.put, List.setIfInBounds_toArray, List.set_cons_zero, List.set_cons_succ]
                clear hHeld
                refine wpAnyH_ready (rs := [8]) (by kernel_rfl) (by simp) ?_
                refine AllReadyH.cons rfl (fun K hK => ?_) AllReadyH.nil
                go_simp
                obtain ⟨ok, hok⟩ := ok_decR (waitsP X xc (1 + xs))
                have HOk : Hid (ok = true ↔ waitsP X xc (1 + xs)) := hok
                refine (sWaits_any X xc (1 + xs) _ (ok_smallA HD.out.ok) HD.out.own.rd ok hok).mono ?_
                clear hok
                rintro e V13 ⟨Y, rfl, hO, hb, hY⟩
                have HY : Hid (ok = true → Y.Ok ∧ Y.nQ = N) := fun e => by
                  subst e
                  exact ⟨hY.okI.2 (waitsM_okP (HOk.out.1 rfl)), hY.nQ.trans HD.out.n⟩
                have hlo : w.heap.size + 1 ≤ V12.heap.size := blk_lt HD.out.res
                have HO : Hid (OwnRn V13 (w.heap.size + 1) Y) := hO.mono hlo
                replace HD : Hid (DR g cv w N bx X V13) := HD.out.below hb
                replace kN := (hb.block _ (blk_lt kN)).trans kN
                clear hO hY hb HOk hlo cA
                have cA : (∀ o, V13.cell? ⟨bx, o, none⟩ = (#[.slice X.aQ X.nQ X.cQ, .slice X.aD X.nD X.cD, .int .i64 X.turn, .bool X.fresh, .slice X.aS X.nS X.cS] : Array Value)[o]?) := blk_cell HD.out.box
                refine hK.out _ _ cA (fun hHeld => ?_)
                clear hK K
                try simp only [Act.put, List.setIfInBounds_toArray, List.set_cons_zero, List.set_cons_succ]
                try unfold Rnd.cells
                refine takeD (i := 9) (some 43) (v := ?_) rfl rfl (by kernel_rfl) (by kernel_rfl) (by kernel_rfl) (fun _ _ _ h => h) (by kernel_rfl) ?_ (by assumption) ?_
                rotate_left
                · intro wx hSw
                  try dsimp only at hSw
                  go_simp
                  try (with_reducible rfl)
                try simp only [Act.put, List.setIfInBounds_toArray, List.set_cons_zero, List.set_cons_succ]
                refine takeD (i := 10) (some 53) (v := ?_) rfl rfl (by kernel_rfl) (by kernel_rfl) (by kernel_rfl) (fun _ _ _ h => h) (by kernel_rfl) ?_ (by assumption) ?_
                rotate_left
                · intro wx hSw
                  try dsimp only at hSw
                  go_simp
                  try (with_reducible rfl)
                try simp only [Act.put, List.setIfInBounds_toArray, List.set_cons_zero, List.set_cons_succ]
                refine takeD (i := 11) (some 54) (v := ?_) rfl rfl (by kernel_rfl) (by kernel_rfl) (by kernel_rfl) (fun _ _ _ h => h) (by kernel_rfl) ?_ (by assumption) ?_
                rotate_left
                · intro wx hSw
                  try dsimp only at hSw
                  go_simp
                  try (with_reducible rfl)
                try simp only [Act.put, List.setIfInBounds_toArray, List.set_cons_zero, List.set_cons_succ]
                clear hHeld
                refine wpAnyH_ready (rs := [13]) (by kernel_rfl) (by simp) ?_
                refine AllReadyH.cons rfl (fun K hK => ?_) AllReadyH.nil
                have cN := blk_cell kN
                have fN := blk_free kN
                go_simp
                have HST : Hid (WaitSt g cv w N bx X (.pointer (some ⟨bN, 0, none⟩)) (.bool ok) (put5 V13 bN (.slice Y.aQ Y.nQ Y.cQ) (.slice Y.aD Y.nD Y.cD) (.int .i64 Y.turn) (.bool Y.fresh) (.slice Y.aS Y.nS Y.cS))) := waitSt_mk HD.out Hg.out hN1 hN2 kN HO.out HY.out
                clear cA
                have cA : (∀ o, (put5 V13 bN (.slice Y.aQ Y.nQ Y.cQ) (.slice Y.aD Y.nD Y.cD) (.int .i64 Y.turn) (.bool Y.fresh) (.slice Y.aS Y.nS Y.cS)).cell? ⟨bx, o, none⟩ = (#[.slice X.aQ X.nQ X.cQ, .slice X.aD X.nD X.cD, .int .i64 X.turn, .bool X.fresh, .slice X.aS X.nS X.cS] : Array Value)[o]?) := by
                  obtain ⟨_, _, _, _, _, d, _⟩ := HST.out
                  exact blk_cell d.box
                unfold put5 at cA HST
                refine hK.out _ _ cA (fun hHeld => ?_)
                clear hK K
                try simp only [Act.put, List.setIfInBounds_toArray, List.set_cons_zero, List.set_cons_succ]
                clear cN fN
                clear hHeld
                refine wpAnyH_ready (rs := [14]) (by kernel_rfl) (by simp) ?_
                refine AllReadyH.cons rfl (fun K hK => ?_) AllReadyH.nil
                go_simp
                refine hK.out _ _ cA (fun hHeld => ?_)
                clear hK K
                try simp only [Act.put, List.setIfInBounds_toArray, List.set_cons_zero, List.set_cons_succ]
                refine wpAnyH_done (by kernel_rfl) ?_ _
                clear hHeld cA
                go_wp2_with fail
                go_meet
                case rel => exact HST.out
            case rest =>
              obtain ⟨bN, Y, ok, rfl, rfl, hD, hne, kN, hO, hok⟩ := hcut
              have HD2 : Hid (DR g cv w N bx X wc) := hD
              have HOk : Hid (ok = true → Y.Ok ∧ Y.nQ = N) := hok
              have HO2 : Hid (OwnRn wc (w.heap.size + 1) Y) := hO
              have hne2 : bx ≠ bN := fun e => hne e.symm
              have cN := blk_cell kN
              unfold Rnd.cells at cN
              have cA := blk_cell HD2.out.box
              have fA := blk_free HD2.out.box
              unfold Rnd.cells at cA
              clear hD hok hO kN
              cases ok
              · go_wp2_with fail
                go_roundw
                case rel => exact ⟨k, X, by go_num, by omega, HD2.out⟩
                case measure => simp [intOf] <;> omega
              · have HL : Hid (DR g cv w N bx Y (put5 wc bx (.slice Y.aQ Y.nQ Y.cQ) (.slice Y.aD Y.nD Y.cD) (.int .i64 Y.turn) (.bool Y.fresh) (.slice Y.aS Y.nS Y.cS))) := HD2.out.lay Hg.out HO2.out (HOk.out rfl).1 (HOk.out rfl).2
                unfold put5 at HL
                go_wp2_with fail
                go_roundw
                case rel => exact ⟨k, Y, by go_num, by omega, HL.out⟩
                case measure => simp [intOf] <;> omega
          · obtain ⟨M, xx, ss, hp⟩ := pickM_ex X
            have HP : Hid (PickM X M xx ss) := hp
            have cA := blk_cell HD.out.box
            unfold Rnd.cells at cA
            clear hp
            go_wp2_with fail
            refine (sPicked_any X M xx ss _ (ok_smallA HD.out.ok) HD.out.own.rd HP.out).mono ?_
            rintro e w7 ⟨Y, rfl, hO, hb, hA⟩
            have hMo := pickM_okD HP.out HD.out.ok
            have HL : Hid (DR g cv w N bx Y (put5 w7 bx (.slice Y.aQ Y.nQ Y.cQ) (.slice Y.aD Y.nD Y.cD) (.int .i64 Y.turn) (.bool Y.fresh) (.slice Y.aS Y.nS Y.cS))) := by
              have hlo : w.heap.size + 1 ≤ w6.heap.size := blk_lt HD.out.res
              exact (HD.out.below hb).lay Hg.out (hO.mono hlo) (hA.okI.2 hMo.1) (hA.nQ.trans (hMo.2.trans HD.out.n))
            have HB7 := (HD.out.below hb).box
            clear hO hb hA hMo HP cA
            have cA := blk_cell HB7
            have fA := blk_free HB7
            unfold Rnd.cells at cA
            unfold put5 at HL
            clear HB7
            unfold Rnd.cells
            go_wp2_with fail
            go_roundw
            case rel => exact ⟨k, Y, by go_num, by omega, HL.out⟩
            case measure => simp [intOf] <;> omega
        | zero =>
          have hkz : ¬ (0 : Int) < ((0 : Nat) : Int) := by omega
          go_wp2_with fail
          refine (below_any g cv 30 _ HD.out.rd (by omega) (by omega)).mono ?_
          rintro e w6 ⟨v, hv, rfl, hR, hJ⟩
          replace HD : Hid (DR g cv w N bx X w6) := HD.out.keptBy Hg.out hR hJ
          clear hR hJ
          by_cases h28 : v = 28
          · subst h28
            go_wp2_with fail
            refine (off_any g cv 0 2 _ HD.out.rd (by omega) (by omega) (by omega)).mono ?_
            rintro e w7 ⟨t, rfl, hR, hJ⟩
            replace HD : Hid (DR g cv w N bx X w7) := HD.out.keptBy Hg.out hR hJ
            clear hR hJ
            have cA0 := blk_cell HD.out.box
            have fA0 := blk_free HD.out.box
            unfold Rnd.cells at cA0
            have HF : Hid (DF g cv w bx { X with turn := t } (w7.setCell ⟨bx, 2, none⟩ (.int .i64 t))) := HD.out.df.turn Hg.out t
            have cA := blk_cell HF.out.box
            have cX := blk_cell HF.out.res
            have fX := blk_free HF.out.res
            unfold Rnd.cells at cA
            have hne1 : bx ≠ w.heap.size := by have := HF.out.lo; omega
            have hne2 : w.heap.size ≠ bx := by have := HF.out.lo; omega
            obtain ⟨f1, f2, f3, f4⟩ := HF.out.fin Hg.out
            have HE : Hid (_ ∧ _ ∧ _) := ⟨f2, f3, f4⟩
            have HSm := HF.out.small
            unfold put5 at f1 HE
            clear f2 f3 f4
            dsimp only at cA f1 HE HSm
            go_wp2_with fail
            exact bodyPost_ret (v := .agg #[.slice X.aQ X.nQ X.cQ, .slice X.aD X.nD X.cD, .int .i64 t, .bool X.fresh, .slice X.aS X.nS X.cS]) (by simp [results, Try.results24, go_sem, f1]) rfl ⟨{ X with turn := t }, rfl, HSm, HE.out.1, HE.out.2.1, HE.out.2.2⟩
          by_cases h29 : v = 29
          · subst h29
            go_wp2_with fail
            obtain ⟨gd, haD⟩ : ∃ gd, X.aD = some ⟨gd, 0, none⟩ := by
              rcases HD.out.own.d with h0 | ⟨gd, e, _⟩
              · have := HD.out.ok.d
                have := HD.out.ok.n
                omega
              · exact ⟨gd, e⟩
            have HaD : Hid (X.aD = some ⟨gd, 0, none⟩) := haD
            have HnD : Hid (X.nD = N) := HD.out.ok.d.trans HD.out.n
            clear haD
            replace HD : Hid (DR g cv w N bx X w6.drew) := HD.out.below ((Below.refl _ _).drew)
            have cA : ∀ o, World.cell? w6.drew ⟨bx, o, none⟩ = (#[.slice X.aQ X.nQ X.cQ, .slice (some ⟨gd, 0, none⟩) X.nD X.cD, .int .i64 X.turn, .bool X.fresh, .slice X.aS X.nS X.cS] : Array Value)[o]? := by have := blk_cell HD.out.box; unfold Rnd.cells at this; rw [HaD.out] at this; exact this
            refine wp_region_held_drew (S := fun w' => ∀ o, w'.cell? ⟨bx, o, none⟩ = (#[.slice X.aQ X.nQ X.cQ, .slice (some ⟨gd, 0, none⟩) X.nD X.cD, .int .i64 X.turn, .bool X.fresh, .slice X.aS X.nS X.cS] : Array Value)[o]?) (by kernel_rfl) cA (fun hHeld => ?_)
            generalize w6.drew = V at *
            refine takeD (i := 0) (some 66) (v := ?_) rfl rfl (by kernel_rfl) (by kernel_rfl) (by kernel_rfl) (fun _ _ _ h => h) (by kernel_rfl) ?_ (by assumption) ?_
            rotate_left
            · intro wx hSw
              try dsimp only at hSw
              go_simp
              try (with_reducible rfl)
            try simp only [Act.put, List.setIfInBounds_toArray, List.set_cons_zero, List.set_cons_succ]
            refine takeD (i := 1) (some 67) (v := ?_) rfl rfl (by kernel_rfl) (by kernel_rfl) (by kernel_rfl) (fun _ _ _ h => h) (by kernel_rfl) ?_ (by assumption) ?_
            rotate_left
            · intro wx hSw
              try dsimp only at hSw
              go_simp
              try (with_reducible rfl)
            try simp only [Act.put, List.setIfInBounds_toArray, List.set_cons_zero, List.set_cons_succ]
            refine takeD (i := 2) (some 68) (v := ?_) rfl rfl (by kernel_rfl) (by kernel_rfl) (by kernel_rfl) (fun _ _ _ h => h) (by kernel_rfl) ?_ (by assumption) ?_
            rotate_left
            · intro wx hSw
              try dsimp only at hSw
              go_simp
              try (with_reducible rfl)
            try simp only [Act.put, List.setIfInBounds_toArray, List.set_cons_zero, List.set_cons_succ]
            refine takeD (i := 3) (some 69) (v := ?_) rfl rfl (by kernel_rfl) (by kernel_rfl) (by kernel_rfl) (fun _ _ _ h => h) (by kernel_rfl) ?_ (by assumption) ?_
            rotate_left
            · intro wx hSw
              try dsimp only at hSw
              go_simp
              try (with_reducible rfl)
            try simp only [Act.put, List.setIfInBounds_toArray, List.set_cons_zero, List.set_cons_succ]
            refine takeD (i := 4) (some 70) (v := ?_) rfl rfl (by kernel_rfl) (by kernel_rfl) (by kernel_rfl) (fun _ _ _ h => h) (by kernel_rfl) ?_ (by assumption) ?_
            rotate_left
            · intro wx hSw
              try dsimp only at hSw
              go_simp
              try (with_reducible rfl)
            try simp only [Act.put, List.setIfInBounds_toArray, List.set_cons_zero, List.set_cons_succ]
            refine takeD (i := 6) (some 72) (v := ?_) rfl rfl (by kernel_rfl) (by kernel_rfl) (by kernel_rfl) (fun _ _ _ h => h) (by kernel_rfl) ?_ (by assumption) ?_
            rotate_left
            · intro wx hSw
              try dsimp only at hSw
              go_simp
              try (with_reducible rfl)
            try simp only [Act.put, List.setIfInBounds_toArray, List.set_cons_zero, List.set_cons_succ]
            clear hHeld
            refine wpAnyH_ready (rs := [5]) (by kernel_rfl) (by simp) ?_
            refine AllReadyH.cons rfl (fun K hK => ?_) AllReadyH.nil
            go_simp
            refine (below_any g cv (N : Int) _ HD.out.rd (by omega) (by omega)).mono ?_
            rintro e V1 ⟨y, hy, rfl, hR, hJ⟩
            replace HD : Hid (DR g cv w N bx X V1) := HD.out.keptBy Hg.out hR hJ
            clear hR hJ cA
            have cA : ∀ o, World.cell? V1 ⟨bx, o, none⟩ = (#[.slice X.aQ X.nQ X.cQ, .slice (some ⟨gd, 0, none⟩) X.nD X.cD, .int .i64 X.turn, .bool X.fresh, .slice X.aS X.nS X.cS] : Array Value)[o]? := by have := blk_cell HD.out.box; unfold Rnd.cells at this; rw [HaD.out] at this; exact this
            refine hK.out _ _ cA (fun hHeld => ?_)
            clear hK K
            try simp only [Act.put, List.setIfInBounds_toArray, List.set_cons_zero, List.set_cons_succ]
            clear hHeld
            refine wpAnyH_ready (rs := [7]) (by kernel_rfl) (by simp) ?_
            refine AllReadyH.cons rfl (fun K hK => ?_) AllReadyH.nil
            go_simp
            refine (off_any g cv 0 9 _ HD.out.rd (by omega) (by omega) (by omega)).mono ?_
            rintro e V2 ⟨t, rfl, hR, hJ⟩
            replace HD : Hid (DR g cv w N bx X V2) := HD.out.keptBy Hg.out hR hJ
            clear hR hJ cA
            have cA : ∀ o, World.cell? V2 ⟨bx, o, none⟩ = (#[.slice X.aQ X.nQ X.cQ, .slice (some ⟨gd, 0, none⟩) X.nD X.cD, .int .i64 X.turn, .bool X.fresh, .slice X.aS X.nS X.cS] : Array Value)[o]? := by have := blk_cell HD.out.box; unfold Rnd.cells at this; rw [HaD.out] at this; exact this
            refine hK.out _ _ cA (fun hHeld => ?_)
            clear hK K
            try simp only [Act.put, List.setIfInBounds_toArray, List.set_cons_zero, List.set_cons_succ]
            have hyD : (y : Int) < (X.nD : Int) := by rw [HnD.out]; exact hy
            have hy0 : y < X.nD := by omega
            refine takeD (i := 8) (some 74) (v := ?_) rfl rfl (by kernel_rfl) (by kernel_rfl) (by kernel_rfl) (fun _ _ _ h => h) (by kernel_rfl) ?_ (by assumption) ?_
            rotate_left
            · intro wx hSw
              try dsimp only at hSw
              go_simp
              try (with_reducible rfl)
            try simp only [Act.put, List.setIfInBounds_toArray, List.set_cons_zero, List.set_cons_succ]
            obtain ⟨⟨u, cU⟩, fU, hF⟩ := HD.out.df.def_ Hg.out HaD.out hy0 t
            have HF : Hid (DF g cv w bx { X with d := fun i => if i = y then t else X.d i } (V2.setCell ⟨gd, y, none⟩ (.int .i64 t))) := hF
            clear hF cA
            clear hHeld
            refine wpAnyH_ready (rs := [9]) (by kernel_rfl) (by simp) ?_
            refine AllReadyH.cons rfl (fun K hK => ?_) AllReadyH.nil
            go_simp
            have cA : ∀ o, World.cell? (V2.setCell ⟨gd, y, none⟩ (.int .i64 t)) ⟨bx, o, none⟩ = (#[.slice X.aQ X.nQ X.cQ, .slice (some ⟨gd, 0, none⟩) X.nD X.cD, .int .i64 X.turn, .bool X.fresh, .slice X.aS X.nS X.cS] : Array Value)[o]? := by have := blk_cell HF.out.box; unfold Rnd.cells at this; rw [HaD.out] at this; exact this
            refine hK.out _ _ cA (fun hHeld => ?_)
            clear hK K
            try simp only [Act.put, List.setIfInBounds_toArray, List.set_cons_zero, List.set_cons_succ]
            refine wpAnyH_done (by kernel_rfl) ?_ _
            clear cA cU fU hHeld HaD HnD hyD hy0 hy
            generalize V2.setCell ⟨gd, y, none⟩ (.int .i64 t) = V3 at *
            have cA := blk_cell HF.out.box
            have cX := blk_cell HF.out.res
            have fX := blk_free HF.out.res
            unfold Rnd.cells at cA
            have hne1 : bx ≠ w.heap.size := by have := HF.out.lo; omega
            have hne2 : w.heap.size ≠ bx := by have := HF.out.lo; omega
            obtain ⟨f1, f2, f3, f4⟩ := HF.out.fin Hg.out
            have HE : Hid (_ ∧ _ ∧ _) := ⟨f2, f3, f4⟩
            have HSm := HF.out.small
            unfold put5 at f1 HE
            clear f2 f3 f4
            dsimp only at cA f1 HE HSm
            go_wp2_with fail
            exact bodyPost_ret (v := .agg #[.slice X.aQ X.nQ X.cQ, .slice X.aD X.nD X.cD, .int .i64 X.turn, .bool X.fresh, .slice X.aS X.nS X.cS]) (by simp [results, Try.results24, go_sem, f1]) rfl ⟨{ X with d := fun i => if i = y then t else X.d i }, rfl, HSm, HE.out.1, HE.out.2.1, HE.out.2.2⟩
          · have HF : Hid (DF g cv w bx X w6) := HD.out.df
            have cA := blk_cell HF.out.box
            have cX := blk_cell HF.out.res
            have fX := blk_free HF.out.res
            unfold Rnd.cells at cA
            have hne1 : bx ≠ w.heap.size := by have := HF.out.lo; omega
            have hne2 : w.heap.size ≠ bx := by have := HF.out.lo; omega
            obtain ⟨f1, f2, f3, f4⟩ := HF.out.fin Hg.out
            have HE : Hid (_ ∧ _ ∧ _) := ⟨f2, f3, f4⟩
            have HSm := HF.out.small
            unfold put5 at f1 HE
            clear f2 f3 f4
            have e28 : (v : Int) ≠ 28 := by omega
            have e29 : (v : Int) ≠ 29 := by omega
            go_wp2_with fail
            exact bodyPost_ret (v := .agg #[.slice X.aQ X.nQ X.cQ, .slice X.aD X.nD X.cD, .int .i64 X.turn, .bool X.fresh, .slice X.aS X.nS X.cS]) (by simp [results, Try.results24, go_sem, f1]) rfl ⟨X, rfl, HSm, HE.out.1, HE.out.2.1, HE.out.2.2⟩
end Go.Proofs.Ytnfcmiiibkbmfaa
