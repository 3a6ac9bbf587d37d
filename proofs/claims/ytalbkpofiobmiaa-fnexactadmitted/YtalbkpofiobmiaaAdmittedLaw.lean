/- At every configuration, counts, port, priority and number of cells Admitted answers as the specification does, writes into no argument, and its answer owns its memory: the law FnExactAdmitted returns true for every argument, under no condition. -/
import Derived.Test.YtalbkpofiobmiaaRows
import Derived.Test.YtalbkpofiobmiaaCnLaw
import Derived.Test.YtalbkpofiobmiaaLiftC
import Derived.ProofKit
import Derived.Deep.Cut
import Derived.Deep.DeepCutAuto
import Derived.OpenShut
import Derived.ShutString
import Derived.ChangeOld
import Derived.Below
namespace Go.Proofs.Ytalbkpofiobmiaa
open Go.ChangeShapes Go.WideShapes Go.ChangeAt Go.RowKit
set_option linter.unusedVariables false

set_option maxRecDepth 100000 in
set_option maxHeartbeats 20000000 in
theorem admitted_law (C : Cfg) (N : Cnt) (port prio cells : Int) (w : World) (hf : N.Fit) (h : RdCnt w N) :
    Calls Try.prog 6 #[.agg C.cells, .agg N.cells, .int .i64 port, .int .i64 prio, .int .i64 cells] w fun e w' => e = .returned (.bool true) ∧ Below w.heap.size w w' := by
  obtain ⟨ok, hok⟩ := ok_decC (formP C N port prio cells ∧ Cnt.Ok C (addN N port prio cells))
  have HOc : Hid (∀ gU gP, ok = true ↔ formP C (N.copy gU gP) port prio cells ∧ Cnt.Ok C (addN (N.copy gU gP) port prio cells)) := fun gU gP => hok.trans addOk_copy.symm
  have HMc : Hid (∀ gU gP, AlikeC (orZero (addN N port prio cells) ok) (orZero (addN (N.copy gU gP) port prio cells) ok)) := fun gU gP => addN_copy.orZero ok
  have HR : Hid (RdCnt w N) := h
  have HF : Hid N.Fit := hf
  have hbb : (ok != ok) = false := by cases ok <;> rfl
  have HB0 : Hid (Below (w.heap.size + 2) ((w.alloc (.cells #[.int .i64 C.p, .int .i64 C.c, .int .i64 C.xo, .int .i64 C.xn, .int .i64 C.hd, .int .i64 C.lo, .int .i64 C.dl] 23)).alloc (.cells #[.slice N.aU N.nU N.cU, .int .i64 N.lo, .slice N.aP N.nP N.cP] 31)) ((w.alloc (.cells #[.int .i64 C.p, .int .i64 C.c, .int .i64 C.xo, .int .i64 C.xn, .int .i64 C.hd, .int .i64 C.lo, .int .i64 C.dl] 23)).alloc (.cells #[.slice N.aU N.nU N.cU, .int .i64 N.lo, .slice N.aP N.nP N.cP] 31))) := Below.refl _ _
  clear h hf hok
  unfold Cfg.cells
  rw [show N.cells = #[.slice N.aU N.nU N.cU, .int .i64 N.lo, .slice N.aP N.nP N.cP] from rfl]
  go_enter Try.func6, Try.ntmps6
  go_wp2_with fail
  refine (szCounts_any N _ HF.out).mono ?_
  rintro e w1 ⟨⟨r, rfl, hr⟩, hb⟩
  have hB := next2 HB0.out hb
  clear hb
  rcases hr with rfl | ⟨r0, hs⟩
  · have B := under2 hB
    go_wp2_with fail
    go_ret
    exact ⟨rfl, B⟩
  have HS : Hid N.Small := hs
  clear hs
  have hr0 : ¬ r < 0 := by omega
  have HB1 : Hid (Below (w.heap.size + 2) ((w.alloc (.cells #[.int .i64 C.p, .int .i64 C.c, .int .i64 C.xo, .int .i64 C.xn, .int .i64 C.hd, .int .i64 C.lo, .int .i64 C.dl] 23)).alloc (.cells #[.slice N.aU N.nU N.cU, .int .i64 N.lo, .slice N.aP N.nP N.cP] 31)) w1) := hB
  have HSf : Hid (∀ w', Below w1.heap.size w1 w' → (∀ o, w'.cell? ⟨w.heap.size, o, none⟩ = (#[.int .i64 C.p, .int .i64 C.c, .int .i64 C.xo, .int .i64 C.xn, .int .i64 C.hd, .int .i64 C.lo, .int .i64 C.dl] : Array Value)[o]?) ∧ (∀ o, w'.cell? ⟨w.heap.size + 1, o, none⟩ = (#[.slice N.aU N.nU N.cU, .int .i64 N.lo, .slice N.aP N.nP N.cP] : Array Value)[o]?)) := fun w' hw => boxed2 (next2 HB1.out hw)
  have HRd : Hid (∀ W, Below w1.heap.size w1 W → RdCnt W N) := fun W hw => HR.out.up (under2 (next2 HB1.out hw))
  clear hB
  go_wp2_with fail
  go_cut [12, 13] (fun s12 s13 wc => ∃ gA R, s12 = .pointer (some ⟨gA, 0, none⟩) ∧ s13 = .bool ok ∧ Ans w1 wc (orZero (addN N port prio cells) ok) gA R)
  case first =>
    have hBs : Below w1.heap.size w1 w1.drew := (Below.refl _ _).drew
    have s := HSf.out _ hBs
    refine wp_region_held_drew (S := fun w' => (∀ o, w'.cell? ⟨w.heap.size, o, none⟩ = (#[.int .i64 C.p, .int .i64 C.c, .int .i64 C.xo, .int .i64 C.xn, .int .i64 C.hd, .int .i64 C.lo, .int .i64 C.dl] : Array Value)[o]?) ∧ (∀ o, w'.cell? ⟨w.heap.size + 1, o, none⟩ = (#[.slice N.aU N.nU N.cU, .int .i64 N.lo, .slice N.aP N.nP N.cP] : Array Value)[o]?)) (by kernel_rfl) s (fun hHeld => ?_)
    clear s
    generalize w1.drew = W at *
    refine takeD (i := 0) (some 28) (v := ?_) rfl rfl (by kernel_rfl) (by kernel_rfl) (by kernel_rfl) (fun _ _ _ h => h) (by kernel_rfl) ?_ (by assumption) ?_
    rotate_left
    · intro wx hSw
      obtain ⟨hS1, hS2⟩ := hSw
      go_simp
      try (with_reducible rfl)
    try simp only [Act.put, List.setIfInBounds_toArray, List.set_cons_zero, List.set_cons_succ]
    refine takeD (i := 2) (some 30) (v := ?_) rfl rfl (by kernel_rfl) (by kernel_rfl) (by kernel_rfl) (fun _ _ _ h => h) (by kernel_rfl) ?_ (by assumption) ?_
    rotate_left
    · intro wx hSw
      obtain ⟨hS1, hS2⟩ := hSw
      go_simp
      try (with_reducible rfl)
    try simp only [Act.put, List.setIfInBounds_toArray, List.set_cons_zero, List.set_cons_succ]
    refine takeD (i := 4) (some 32) (v := ?_) rfl rfl (by kernel_rfl) (by kernel_rfl) (by kernel_rfl) (fun _ _ _ h => h) (by kernel_rfl) ?_ (by assumption) ?_
    rotate_left
    · intro wx hSw
      obtain ⟨hS1, hS2⟩ := hSw
      go_simp
      try (with_reducible rfl)
    try simp only [Act.put, List.setIfInBounds_toArray, List.set_cons_zero, List.set_cons_succ]
    refine takeD (i := 5) (some 33) (v := ?_) rfl rfl (by kernel_rfl) (by kernel_rfl) (by kernel_rfl) (fun _ _ _ h => h) (by kernel_rfl) ?_ (by assumption) ?_
    rotate_left
    · intro wx hSw
      obtain ⟨hS1, hS2⟩ := hSw
      go_simp
      try (with_reducible rfl)
    try simp only [Act.put, List.setIfInBounds_toArray, List.set_cons_zero, List.set_cons_succ]
    refine takeD (i := 6) (some 34) (v := ?_) rfl rfl (by kernel_rfl) (by kernel_rfl) (by kernel_rfl) (fun _ _ _ h => h) (by kernel_rfl) ?_ (by assumption) ?_
    rotate_left
    · intro wx hSw
      obtain ⟨hS1, hS2⟩ := hSw
      go_simp
      try (with_reducible rfl)
    try simp only [Act.put, List.setIfInBounds_toArray, List.set_cons_zero, List.set_cons_succ]
    refine wpAnyH_ready (rs := [1, 11]) (by kernel_rfl) (by simp) ?_
    refine AllReadyH.cons rfl (fun K hK => ?_) (AllReadyH.cons rfl (fun K hK => ?_) AllReadyH.nil)
    · go_simp
      refine (toConfig_any C _).mono ?_
      rintro e W' ⟨rfl, hb⟩
      replace hBs := hBs.trans (hb.mono hBs.size)
      have s := HSf.out _ hBs
      clear hb
      unfold Cfg.cells
      go_wp2_with fail
      clear hHeld
      refine hK.out _ _ s (fun hHeld => ?_)
      clear hK K s
      try simp only [Act.put, List.setIfInBounds_toArray, List.set_cons_zero, List.set_cons_succ]
      clear W
      rename World => W
      refine wpAnyH_ready (rs := [3, 11]) (by kernel_rfl) (by simp) ?_
      refine AllReadyH.cons rfl (fun K hK => ?_) (AllReadyH.cons rfl (fun K hK => ?_) AllReadyH.nil)
      · go_simp
        refine (toCounts_any N _ HS.out (HRd.out _ hBs)).mono ?_
        rintro e W' ⟨gU1, gP1, rfl, hj, hb⟩
        have hr1 := hj.rd
        replace hBs := hBs.trans (hb.mono hBs.size)
        have s := HSf.out _ hBs
        clear hb hj
        dsimp only [Cnt.copy, Cnt.cells]
        go_wp2_with fail
        clear hHeld
        refine hK.out _ _ s (fun hHeld => ?_)
        clear hK K s
        try simp only [Act.put, List.setIfInBounds_toArray, List.set_cons_zero, List.set_cons_succ]
        clear W
        rename World => W
        refine wpAnyH_ready (rs := [7, 11]) (by kernel_rfl) (by simp) ?_
        refine AllReadyH.cons rfl (fun K hK => ?_) (AllReadyH.cons rfl (fun K hK => ?_) AllReadyH.nil)
        · go_simp
          have lF := hBs.size
          refine (sAdmitted_any C (N.copy gU1 gP1) port prio cells _ (copy_smallC HS.out).fit hr1 ok (HOc.out gU1 gP1)).mono ?_
          rintro e W' ⟨R, rfl, hR, hb, hAR⟩
          have HAR : Hid (AlikeC (orZero (addN N port prio cells) ok) R) := (HMc.out gU1 gP1).trans hAR
          replace hR := hR.mono lF
          replace hBs := hBs.trans (hb.mono hBs.size)
          have s := HSf.out _ hBs
          replace hr1 := hr1.up hb
          clear hb hAR lF hr1
          dsimp only [Cnt.cells]
          go_wp2_with fail
          clear hHeld
          refine hK.out _ _ s (fun hHeld => ?_)
          clear hK K s
          try simp only [Act.put, List.setIfInBounds_toArray, List.set_cons_zero, List.set_cons_succ]
          clear W
          rename World => W
          refine takeD (i := 8) (some 27) (v := ?_) rfl rfl (by kernel_rfl) (by kernel_rfl) (by kernel_rfl) (fun _ _ _ h => h) (by kernel_rfl) ?_ (by assumption) ?_
          rotate_left
          · intro wx hSw
            obtain ⟨hS1, hS2⟩ := hSw
            go_simp
            try (with_reducible rfl)
          try simp only [Act.put, List.setIfInBounds_toArray, List.set_cons_zero, List.set_cons_succ]
          refine takeD (i := 9) (some 36) (v := ?_) rfl rfl (by kernel_rfl) (by kernel_rfl) (by kernel_rfl) (fun _ _ _ h => h) (by kernel_rfl) ?_ (by assumption) ?_
          rotate_left
          · intro wx hSw
            obtain ⟨hS1, hS2⟩ := hSw
            go_simp
            try (with_reducible rfl)
          try simp only [Act.put, List.setIfInBounds_toArray, List.set_cons_zero, List.set_cons_succ]
          refine takeD (i := 10) (some 37) (v := ?_) rfl rfl (by kernel_rfl) (by kernel_rfl) (by kernel_rfl) (fun _ _ _ h => h) (by kernel_rfl) ?_ (by assumption) ?_
          rotate_left
          · intro wx hSw
            obtain ⟨hS1, hS2⟩ := hSw
            go_simp
            try (with_reducible rfl)
          try simp only [Act.put, List.setIfInBounds_toArray, List.set_cons_zero, List.set_cons_succ]
          refine wpAnyH_ready (rs := [11]) (by kernel_rfl) (by simp) ?_
          refine AllReadyH.cons rfl (fun K hK => ?_) AllReadyH.nil
          have hb := (Below.refl W.heap.size W).alloc (Nat.le_refl _) (.cells #[.slice none 0 0, .int .i64 0, .slice none 0 0] 34)
          have lA := hBs.size
          replace hBs := hBs.trans (hb.mono hBs.size)
          have s := HSf.out _ hBs
          replace hR := hR.up hb
          have kA := blk_new W (.cells #[.slice none 0 0, .int .i64 0, .slice none 0 0] 34)
          go_simp
          clear hHeld
          refine hK.out _ _ s (fun hHeld => ?_)
          clear hK K s
          try simp only [Act.put, List.setIfInBounds_toArray, List.set_cons_zero, List.set_cons_succ]
          generalize hgA : W.heap.size = gA at *
          generalize W.alloc (.cells #[.slice none 0 0, .int .i64 0, .slice none 0 0] 34) = W' at *
          clear hb hgA
          clear W
          rename World => W
          have cz := blk_cell kA
          have fz := blk_free kA
          have hAns := Ans.of rfl hBs lA kA hR HAR.out
          have s := HSf.out _ hAns.b
          have HAns : Hid (Ans w1 (put3 W gA (.slice R.aU R.nU R.cU) (.int .i64 R.lo) (.slice R.aP R.nP R.cP)) (orZero (addN N port prio cells) ok) gA R) := hAns
          clear hAns hBs lA kA hR HAR
          unfold put3 at s
          refine wpAnyH_ready (rs := [12]) (by kernel_rfl) (by simp) ?_
          refine AllReadyH.cons rfl (fun K hK => ?_) AllReadyH.nil
          go_simp
          clear hHeld
          refine hK.out _ _ s (fun hHeld => ?_)
          clear hK K
          try simp only [Act.put, List.setIfInBounds_toArray, List.set_cons_zero, List.set_cons_succ]
          refine wpAnyH_ready (rs := [13]) (by kernel_rfl) (by simp) ?_
          refine AllReadyH.cons rfl (fun K hK => ?_) AllReadyH.nil
          go_simp
          clear hHeld
          refine hK.out _ _ s (fun hHeld => ?_)
          clear hK K
          try simp only [Act.put, List.setIfInBounds_toArray, List.set_cons_zero, List.set_cons_succ]
          refine wpAnyH_done (by kernel_rfl) ?_ _
          clear s hHeld cz fz
          go_wp2_with fail
          go_meet
          case rel => exact ⟨gA, R, rfl, rfl, HAns.out⟩
        · have hb := (Below.refl W.heap.size W).alloc (Nat.le_refl _) (.cells #[.slice none 0 0, .int .i64 0, .slice none 0 0] 34)
          have lA := hBs.size
          replace hBs := hBs.trans (hb.mono hBs.size)
          have s := HSf.out _ hBs
          replace hr1 := hr1.up hb
          have kA := blk_new W (.cells #[.slice none 0 0, .int .i64 0, .slice none 0 0] 34)
          go_simp
          clear hHeld
          refine hK.out _ _ s (fun hHeld => ?_)
          clear hK K s
          try simp only [Act.put, List.setIfInBounds_toArray, List.set_cons_zero, List.set_cons_succ]
          generalize hgA : W.heap.size = gA at *
          generalize W.alloc (.cells #[.slice none 0 0, .int .i64 0, .slice none 0 0] 34) = W' at *
          clear hb hgA
          clear W
          rename World => W
          refine wpAnyH_ready (rs := [7]) (by kernel_rfl) (by simp) ?_
          refine AllReadyH.cons rfl (fun K hK => ?_) AllReadyH.nil
          go_simp
          have lF := hBs.size
          refine (sAdmitted_any C (N.copy gU1 gP1) port prio cells _ (copy_smallC HS.out).fit hr1 ok (HOc.out gU1 gP1)).mono ?_
          rintro e W' ⟨R, rfl, hR, hb, hAR⟩
          have HAR : Hid (AlikeC (orZero (addN N port prio cells) ok) R) := (HMc.out gU1 gP1).trans hAR
          replace hR := hR.mono lF
          replace hBs := hBs.trans (hb.mono hBs.size)
          have s := HSf.out _ hBs
          replace kA := (hb.block _ (blk_lt kA)).trans kA
          replace hr1 := hr1.up hb
          clear hb hAR lF hr1
          dsimp only [Cnt.cells]
          go_wp2_with fail
          clear hHeld
          refine hK.out _ _ s (fun hHeld => ?_)
          clear hK K s
          try simp only [Act.put, List.setIfInBounds_toArray, List.set_cons_zero, List.set_cons_succ]
          clear W
          rename World => W
          refine takeD (i := 8) (some 27) (v := ?_) rfl rfl (by kernel_rfl) (by kernel_rfl) (by kernel_rfl) (fun _ _ _ h => h) (by kernel_rfl) ?_ (by assumption) ?_
          rotate_left
          · intro wx hSw
            obtain ⟨hS1, hS2⟩ := hSw
            go_simp
            try (with_reducible rfl)
          try simp only [Act.put, List.setIfInBounds_toArray, List.set_cons_zero, List.set_cons_succ]
          refine takeD (i := 9) (some 36) (v := ?_) rfl rfl (by kernel_rfl) (by kernel_rfl) (by kernel_rfl) (fun _ _ _ h => h) (by kernel_rfl) ?_ (by assumption) ?_
          rotate_left
          · intro wx hSw
            obtain ⟨hS1, hS2⟩ := hSw
            go_simp
            try (with_reducible rfl)
          try simp only [Act.put, List.setIfInBounds_toArray, List.set_cons_zero, List.set_cons_succ]
          refine takeD (i := 10) (some 37) (v := ?_) rfl rfl (by kernel_rfl) (by kernel_rfl) (by kernel_rfl) (fun _ _ _ h => h) (by kernel_rfl) ?_ (by assumption) ?_
          rotate_left
          · intro wx hSw
            obtain ⟨hS1, hS2⟩ := hSw
            go_simp
            try (with_reducible rfl)
          try simp only [Act.put, List.setIfInBounds_toArray, List.set_cons_zero, List.set_cons_succ]
          have cz := blk_cell kA
          have fz := blk_free kA
          have hAns := Ans.of rfl hBs lA kA hR HAR.out
          have s := HSf.out _ hAns.b
          have HAns : Hid (Ans w1 (put3 W gA (.slice R.aU R.nU R.cU) (.int .i64 R.lo) (.slice R.aP R.nP R.cP)) (orZero (addN N port prio cells) ok) gA R) := hAns
          clear hAns hBs lA kA hR HAR
          unfold put3 at s
          refine wpAnyH_ready (rs := [12]) (by kernel_rfl) (by simp) ?_
          refine AllReadyH.cons rfl (fun K hK => ?_) AllReadyH.nil
          go_simp
          clear hHeld
          refine hK.out _ _ s (fun hHeld => ?_)
          clear hK K
          try simp only [Act.put, List.setIfInBounds_toArray, List.set_cons_zero, List.set_cons_succ]
          refine wpAnyH_ready (rs := [13]) (by kernel_rfl) (by simp) ?_
          refine AllReadyH.cons rfl (fun K hK => ?_) AllReadyH.nil
          go_simp
          clear hHeld
          refine hK.out _ _ s (fun hHeld => ?_)
          clear hK K
          try simp only [Act.put, List.setIfInBounds_toArray, List.set_cons_zero, List.set_cons_succ]
          refine wpAnyH_done (by kernel_rfl) ?_ _
          clear s hHeld cz fz
          go_wp2_with fail
          go_meet
          case rel => exact ⟨gA, R, rfl, rfl, HAns.out⟩
      · have hb := (Below.refl W.heap.size W).alloc (Nat.le_refl _) (.cells #[.slice none 0 0, .int .i64 0, .slice none 0 0] 34)
        have lA := hBs.size
        replace hBs := hBs.trans (hb.mono hBs.size)
        have s := HSf.out _ hBs
        have kA := blk_new W (.cells #[.slice none 0 0, .int .i64 0, .slice none 0 0] 34)
        go_simp
        clear hHeld
        refine hK.out _ _ s (fun hHeld => ?_)
        clear hK K s
        try simp only [Act.put, List.setIfInBounds_toArray, List.set_cons_zero, List.set_cons_succ]
        generalize hgA : W.heap.size = gA at *
        generalize W.alloc (.cells #[.slice none 0 0, .int .i64 0, .slice none 0 0] 34) = W' at *
        clear hb hgA
        clear W
        rename World => W
        refine wpAnyH_ready (rs := [3]) (by kernel_rfl) (by simp) ?_
        refine AllReadyH.cons rfl (fun K hK => ?_) AllReadyH.nil
        go_simp
        refine (toCounts_any N _ HS.out (HRd.out _ hBs)).mono ?_
        rintro e W' ⟨gU1, gP1, rfl, hj, hb⟩
        have hr1 := hj.rd
        replace hBs := hBs.trans (hb.mono hBs.size)
        have s := HSf.out _ hBs
        replace kA := (hb.block _ (blk_lt kA)).trans kA
        clear hb hj
        dsimp only [Cnt.copy, Cnt.cells]
        go_wp2_with fail
        clear hHeld
        refine hK.out _ _ s (fun hHeld => ?_)
        clear hK K s
        try simp only [Act.put, List.setIfInBounds_toArray, List.set_cons_zero, List.set_cons_succ]
        clear W
        rename World => W
        refine wpAnyH_ready (rs := [7]) (by kernel_rfl) (by simp) ?_
        refine AllReadyH.cons rfl (fun K hK => ?_) AllReadyH.nil
        go_simp
        have lF := hBs.size
        refine (sAdmitted_any C (N.copy gU1 gP1) port prio cells _ (copy_smallC HS.out).fit hr1 ok (HOc.out gU1 gP1)).mono ?_
        rintro e W' ⟨R, rfl, hR, hb, hAR⟩
        have HAR : Hid (AlikeC (orZero (addN N port prio cells) ok) R) := (HMc.out gU1 gP1).trans hAR
        replace hR := hR.mono lF
        replace hBs := hBs.trans (hb.mono hBs.size)
        have s := HSf.out _ hBs
        replace kA := (hb.block _ (blk_lt kA)).trans kA
        replace hr1 := hr1.up hb
        clear hb hAR lF hr1
        dsimp only [Cnt.cells]
        go_wp2_with fail
        clear hHeld
        refine hK.out _ _ s (fun hHeld => ?_)
        clear hK K s
        try simp only [Act.put, List.setIfInBounds_toArray, List.set_cons_zero, List.set_cons_succ]
        clear W
        rename World => W
        refine takeD (i := 8) (some 27) (v := ?_) rfl rfl (by kernel_rfl) (by kernel_rfl) (by kernel_rfl) (fun _ _ _ h => h) (by kernel_rfl) ?_ (by assumption) ?_
        rotate_left
        · intro wx hSw
          obtain ⟨hS1, hS2⟩ := hSw
          go_simp
          try (with_reducible rfl)
        try simp only [Act.put, List.setIfInBounds_toArray, List.set_cons_zero, List.set_cons_succ]
        refine takeD (i := 9) (some 36) (v := ?_) rfl rfl (by kernel_rfl) (by kernel_rfl) (by kernel_rfl) (fun _ _ _ h => h) (by kernel_rfl) ?_ (by assumption) ?_
        rotate_left
        · intro wx hSw
          obtain ⟨hS1, hS2⟩ := hSw
          go_simp
          try (with_reducible rfl)
        try simp only [Act.put, List.setIfInBounds_toArray, List.set_cons_zero, List.set_cons_succ]
        refine takeD (i := 10) (some 37) (v := ?_) rfl rfl (by kernel_rfl) (by kernel_rfl) (by kernel_rfl) (fun _ _ _ h => h) (by kernel_rfl) ?_ (by assumption) ?_
        rotate_left
        · intro wx hSw
          obtain ⟨hS1, hS2⟩ := hSw
          go_simp
          try (with_reducible rfl)
        try simp only [Act.put, List.setIfInBounds_toArray, List.set_cons_zero, List.set_cons_succ]
        have cz := blk_cell kA
        have fz := blk_free kA
        have hAns := Ans.of rfl hBs lA kA hR HAR.out
        have s := HSf.out _ hAns.b
        have HAns : Hid (Ans w1 (put3 W gA (.slice R.aU R.nU R.cU) (.int .i64 R.lo) (.slice R.aP R.nP R.cP)) (orZero (addN N port prio cells) ok) gA R) := hAns
        clear hAns hBs lA kA hR HAR
        unfold put3 at s
        refine wpAnyH_ready (rs := [12]) (by kernel_rfl) (by simp) ?_
        refine AllReadyH.cons rfl (fun K hK => ?_) AllReadyH.nil
        go_simp
        clear hHeld
        refine hK.out _ _ s (fun hHeld => ?_)
        clear hK K
        try simp only [Act.put, List.setIfInBounds_toArray, List.set_cons_zero, List.set_cons_succ]
        refine wpAnyH_ready (rs := [13]) (by kernel_rfl) (by simp) ?_
        refine AllReadyH.cons rfl (fun K hK => ?_) AllReadyH.nil
        go_simp
        clear hHeld
        refine hK.out _ _ s (fun hHeld => ?_)
        clear hK K
        try simp only [Act.put, List.setIfInBounds_toArray, List.set_cons_zero, List.set_cons_succ]
        refine wpAnyH_done (by kernel_rfl) ?_ _
        clear s hHeld cz fz
        go_wp2_with fail
        go_meet
        case rel => exact ⟨gA, R, rfl, rfl, HAns.out⟩
    · have hb := (Below.refl W.heap.size W).alloc (Nat.le_refl _) (.cells #[.slice none 0 0, .int .i64 0, .slice none 0 0] 34)
      have lA := hBs.size
      replace hBs := hBs.trans (hb.mono hBs.size)
      have s := HSf.out _ hBs
      have kA := blk_new W (.cells #[.slice none 0 0, .int .i64 0, .slice none 0 0] 34)
      go_simp
      clear hHeld
      refine hK.out _ _ s (fun hHeld => ?_)
      clear hK K s
      try simp only [Act.put, List.setIfInBounds_toArray, List.set_cons_zero, List.set_cons_succ]
      generalize hgA : W.heap.size = gA at *
      generalize W.alloc (.cells #[.slice none 0 0, .int .i64 0, .slice none 0 0] 34) = W' at *
      clear hb hgA
      clear W
      rename World => W
      refine wpAnyH_ready (rs := [1]) (by kernel_rfl) (by simp) ?_
      refine AllReadyH.cons rfl (fun K hK => ?_) AllReadyH.nil
      go_simp
      refine (toConfig_any C _).mono ?_
      rintro e W' ⟨rfl, hb⟩
      replace hBs := hBs.trans (hb.mono hBs.size)
      have s := HSf.out _ hBs
      replace kA := (hb.block _ (blk_lt kA)).trans kA
      clear hb
      unfold Cfg.cells
      go_wp2_with fail
      clear hHeld
      refine hK.out _ _ s (fun hHeld => ?_)
      clear hK K s
      try simp only [Act.put, List.setIfInBounds_toArray, List.set_cons_zero, List.set_cons_succ]
      clear W
      rename World => W
      refine wpAnyH_ready (rs := [3]) (by kernel_rfl) (by simp) ?_
      refine AllReadyH.cons rfl (fun K hK => ?_) AllReadyH.nil
      go_simp
      refine (toCounts_any N _ HS.out (HRd.out _ hBs)).mono ?_
      rintro e W' ⟨gU1, gP1, rfl, hj, hb⟩
      have hr1 := hj.rd
      replace hBs := hBs.trans (hb.mono hBs.size)
      have s := HSf.out _ hBs
      replace kA := (hb.block _ (blk_lt kA)).trans kA
      clear hb hj
      dsimp only [Cnt.copy, Cnt.cells]
      go_wp2_with fail
      clear hHeld
      refine hK.out _ _ s (fun hHeld => ?_)
      clear hK K s
      try simp only [Act.put, List.setIfInBounds_toArray, List.set_cons_zero, List.set_cons_succ]
      clear W
      rename World => W
      refine wpAnyH_ready (rs := [7]) (by kernel_rfl) (by simp) ?_
      refine AllReadyH.cons rfl (fun K hK => ?_) AllReadyH.nil
      go_simp
      have lF := hBs.size
      refine (sAdmitted_any C (N.copy gU1 gP1) port prio cells _ (copy_smallC HS.out).fit hr1 ok (HOc.out gU1 gP1)).mono ?_
      rintro e W' ⟨R, rfl, hR, hb, hAR⟩
      have HAR : Hid (AlikeC (orZero (addN N port prio cells) ok) R) := (HMc.out gU1 gP1).trans hAR
      replace hR := hR.mono lF
      replace hBs := hBs.trans (hb.mono hBs.size)
      have s := HSf.out _ hBs
      replace kA := (hb.block _ (blk_lt kA)).trans kA
      replace hr1 := hr1.up hb
      clear hb hAR lF hr1
      dsimp only [Cnt.cells]
      go_wp2_with fail
      clear hHeld
      refine hK.out _ _ s (fun hHeld => ?_)
      clear hK K s
      try simp only [Act.put, List.setIfInBounds_toArray, List.set_cons_zero, List.set_cons_succ]
      clear W
      rename World => W
      refine takeD (i := 8) (some 27) (v := ?_) rfl rfl (by kernel_rfl) (by kernel_rfl) (by kernel_rfl) (fun _ _ _ h => h) (by kernel_rfl) ?_ (by assumption) ?_
      rotate_left
      · intro wx hSw
        obtain ⟨hS1, hS2⟩ := hSw
        go_simp
        try (with_reducible rfl)
      try simp only [Act.put, List.setIfInBounds_toArray, List.set_cons_zero, List.set_cons_succ]
      refine takeD (i := 9) (some 36) (v := ?_) rfl rfl (by kernel_rfl) (by kernel_rfl) (by kernel_rfl) (fun _ _ _ h => h) (by kernel_rfl) ?_ (by assumption) ?_
      rotate_left
      · intro wx hSw
        obtain ⟨hS1, hS2⟩ := hSw
        go_simp
        try (with_reducible rfl)
      try simp only [Act.put, List.setIfInBounds_toArray, List.set_cons_zero, List.set_cons_succ]
      refine takeD (i := 10) (some 37) (v := ?_) rfl rfl (by kernel_rfl) (by kernel_rfl) (by kernel_rfl) (fun _ _ _ h => h) (by kernel_rfl) ?_ (by assumption) ?_
      rotate_left
      · intro wx hSw
        obtain ⟨hS1, hS2⟩ := hSw
        go_simp
        try (with_reducible rfl)
      try simp only [Act.put, List.setIfInBounds_toArray, List.set_cons_zero, List.set_cons_succ]
      have cz := blk_cell kA
      have fz := blk_free kA
      have hAns := Ans.of rfl hBs lA kA hR HAR.out
      have s := HSf.out _ hAns.b
      have HAns : Hid (Ans w1 (put3 W gA (.slice R.aU R.nU R.cU) (.int .i64 R.lo) (.slice R.aP R.nP R.cP)) (orZero (addN N port prio cells) ok) gA R) := hAns
      clear hAns hBs lA kA hR HAR
      unfold put3 at s
      refine wpAnyH_ready (rs := [12]) (by kernel_rfl) (by simp) ?_
      refine AllReadyH.cons rfl (fun K hK => ?_) AllReadyH.nil
      go_simp
      clear hHeld
      refine hK.out _ _ s (fun hHeld => ?_)
      clear hK K
      try simp only [Act.put, List.setIfInBounds_toArray, List.set_cons_zero, List.set_cons_succ]
      refine wpAnyH_ready (rs := [13]) (by kernel_rfl) (by simp) ?_
      refine AllReadyH.cons rfl (fun K hK => ?_) AllReadyH.nil
      go_simp
      clear hHeld
      refine hK.out _ _ s (fun hHeld => ?_)
      clear hK K
      try simp only [Act.put, List.setIfInBounds_toArray, List.set_cons_zero, List.set_cons_succ]
      refine wpAnyH_done (by kernel_rfl) ?_ _
      clear s hHeld cz fz
      go_wp2_with fail
      go_meet
      case rel => exact ⟨gA, R, rfl, rfl, HAns.out⟩
  case rest =>
    obtain ⟨gW, RW, rfl, rfl, hAns⟩ := hcut
    have hB := next2 HB1.out hAns.b
    have kW := hAns.k
    have hW := hAns.o
    have HAW : Hid (AlikeC (orZero (addN N port prio cells) ok) RW) := hAns.a
    have HWs : Hid RW.Small := HAW.out.small (orZero_small (addN_small HS.out))
    have HW0 : Hid (OwnCn wc w1.heap.size RW) := hAns.o
    have HgW : Hid (gW < wc.heap.size) := blk_lt hAns.k
    have H15 : Hid (w.heap.size + 2 ≤ wc.heap.size) := upper2 hB
    clear hAns HSf HRd HB1
    generalize wc = w5 at *
    have cb := (boxed2 hB).1
    have cn := (boxed2 hB).2
    go_wp2_with fail
    refine (toCounts_any N _ HS.out (HR.out.up (under2 hB))).mono ?_
    rintro e wx ⟨gU, gP, rfl, hX, hb⟩
    have HX0 : Hid (OwnCn wx w5.heap.size (N.copy gU gP)) := hX
    have H5x : Hid (w5.heap.size ≤ wx.heap.size) := hb.size
    replace hW := hW.up hb
    replace kW := (hb.block _ (blk_lt kW)).trans kW
    replace hB := next2 hB hb
    replace cb := (boxed2 hB).1
    replace cn := (boxed2 hB).2
    clear hb
    have hA := (Below.refl wx.heap.size wx).alloc (Nat.le_refl _) (.cells #[.slice (some ⟨gU, 0, none⟩) N.nU N.nU, .int .i64 N.lo, .slice (some ⟨gP, 0, none⟩) N.nP N.nP] 34)
    have kX := blk_new wx (.cells #[.slice (some ⟨gU, 0, none⟩) N.nU N.nU, .int .i64 N.lo, .slice (some ⟨gP, 0, none⟩) N.nP N.nP] 34)
    replace hX := hX.up hA
    replace hW := hW.up hA
    replace kW := (hA.block _ (blk_lt kW)).trans kW
    replace hB := next2 hB hA
    replace cb := (boxed2 hB).1
    replace cn := (boxed2 hB).2
    have Hxa : Hid ((wx.alloc (.cells #[.slice (some ⟨gU, 0, none⟩) N.nU N.nU, .int .i64 N.lo, .slice (some ⟨gP, 0, none⟩) N.nP N.nP] 34)).heap.size = wx.heap.size + 1) := by rw [Hid]; simp
    clear hA cb cn
    dsimp only [Cnt.copy, Cnt.cells]
    go_wp2_with fail
    generalize wx.alloc (.cells #[.slice (some ⟨gU, 0, none⟩) N.nU N.nU, .int .i64 N.lo, .slice (some ⟨gP, 0, none⟩) N.nP N.nP] 34) = wa at *
    have HBa : Hid (Below (w.heap.size + 2) ((w.alloc (.cells #[.int .i64 C.p, .int .i64 C.c, .int .i64 C.xo, .int .i64 C.xn, .int .i64 C.hd, .int .i64 C.lo, .int .i64 C.dl] 23)).alloc (.cells #[.slice N.aU N.nU N.cU, .int .i64 N.lo, .slice N.aP N.nP N.cP] 31)) wa) := hB
    have HkX : Hid (wa.heap[wx.heap.size]? = some (.cells #[.slice (some ⟨gU, 0, none⟩) N.nU N.nU, .int .i64 N.lo, .slice (some ⟨gP, 0, none⟩) N.nP N.nP] 34 (0, 0))) := kX
    have HSf : Hid (∀ w', Below wa.heap.size wa w' → (∀ o, w'.cell? ⟨w.heap.size, o, none⟩ = (#[.int .i64 C.p, .int .i64 C.c, .int .i64 C.xo, .int .i64 C.xn, .int .i64 C.hd, .int .i64 C.lo, .int .i64 C.dl] : Array Value)[o]?) ∧ (∀ o, w'.cell? ⟨w.heap.size + 1, o, none⟩ = (#[.slice N.aU N.nU N.cU, .int .i64 N.lo, .slice N.aP N.nP N.cP] : Array Value)[o]?) ∧ ∀ o, w'.cell? ⟨wx.heap.size, o, none⟩ = (#[.slice (some ⟨gU, 0, none⟩) N.nU N.nU, .int .i64 N.lo, .slice (some ⟨gP, 0, none⟩) N.nP N.nP] : Array Value)[o]?) := fun w' hw => ⟨(boxed2 (next2 HBa.out hw)).1, (boxed2 (next2 HBa.out hw)).2, blk_cell ((hw.block _ (blk_lt HkX.out)).trans HkX.out)⟩
    have HXa : Hid (OwnCn wa w5.heap.size (N.copy gU gP)) := hX
    have HXr : Hid (∀ W, Below wa.heap.size wa W → RdCnt W (N.copy gU gP)) := fun W hw => (HXa.out.up hw).rd
    have HWa : Hid (OwnCn wa w1.heap.size RW) := hW
    have HkW : Hid (wa.heap[gW]? = some (.cells RW.cells 34 (0, 0))) := kW
    clear hB kX hX hW kW
    go_cut [15, 16] (fun s15 s16 wc => ∃ gA R, s15 = .pointer (some ⟨gA, 0, none⟩) ∧ s16 = .bool ok ∧ Ans wa wc (orZero (addN N port prio cells) ok) gA R)
    case first =>
      have hBs : Below wa.heap.size wa wa.drew := (Below.refl _ _).drew
      have s := HSf.out _ hBs
      refine wp_region_held_drew (S := fun w' => (∀ o, w'.cell? ⟨w.heap.size, o, none⟩ = (#[.int .i64 C.p, .int .i64 C.c, .int .i64 C.xo, .int .i64 C.xn, .int .i64 C.hd, .int .i64 C.lo, .int .i64 C.dl] : Array Value)[o]?) ∧ (∀ o, w'.cell? ⟨w.heap.size + 1, o, none⟩ = (#[.slice N.aU N.nU N.cU, .int .i64 N.lo, .slice N.aP N.nP N.cP] : Array Value)[o]?) ∧ ∀ o, w'.cell? ⟨wx.heap.size, o, none⟩ = (#[.slice (some ⟨gU, 0, none⟩) N.nU N.nU, .int .i64 N.lo, .slice (some ⟨gP, 0, none⟩) N.nP N.nP] : Array Value)[o]?) (by kernel_rfl) s (fun hHeld => ?_)
      clear s
      generalize wa.drew = W at *
      refine takeD (i := 0) (some 41) (v := ?_) rfl rfl (by kernel_rfl) (by kernel_rfl) (by kernel_rfl) (fun _ _ _ h => h) (by kernel_rfl) ?_ (by assumption) ?_
      rotate_left
      · intro wx hSw
        obtain ⟨hS1, hS2, hS3⟩ := hSw
        go_simp
        try (with_reducible rfl)
      try simp only [Act.put, List.setIfInBounds_toArray, List.set_cons_zero, List.set_cons_succ]
      refine takeD (i := 2) (some 43) (v := ?_) rfl rfl (by kernel_rfl) (by kernel_rfl) (by kernel_rfl) (fun _ _ _ h => h) (by kernel_rfl) ?_ (by assumption) ?_
      rotate_left
      · intro wx hSw
        obtain ⟨hS1, hS2, hS3⟩ := hSw
        go_simp
        try (with_reducible rfl)
      try simp only [Act.put, List.setIfInBounds_toArray, List.set_cons_zero, List.set_cons_succ]
      refine takeD (i := 3) (some 44) (v := ?_) rfl rfl (by kernel_rfl) (by kernel_rfl) (by kernel_rfl) (fun _ _ _ h => h) (by kernel_rfl) ?_ (by assumption) ?_
      rotate_left
      · intro wx hSw
        obtain ⟨hS1, hS2, hS3⟩ := hSw
        go_simp
        try (with_reducible rfl)
      try simp only [Act.put, List.setIfInBounds_toArray, List.set_cons_zero, List.set_cons_succ]
      refine takeD (i := 4) (some 45) (v := ?_) rfl rfl (by kernel_rfl) (by kernel_rfl) (by kernel_rfl) (fun _ _ _ h => h) (by kernel_rfl) ?_ (by assumption) ?_
      rotate_left
      · intro wx hSw
        obtain ⟨hS1, hS2, hS3⟩ := hSw
        go_simp
        try (with_reducible rfl)
      try simp only [Act.put, List.setIfInBounds_toArray, List.set_cons_zero, List.set_cons_succ]
      refine takeD (i := 5) (some 46) (v := ?_) rfl rfl (by kernel_rfl) (by kernel_rfl) (by kernel_rfl) (fun _ _ _ h => h) (by kernel_rfl) ?_ (by assumption) ?_
      rotate_left
      · intro wx hSw
        obtain ⟨hS1, hS2, hS3⟩ := hSw
        go_simp
        try (with_reducible rfl)
      try simp only [Act.put, List.setIfInBounds_toArray, List.set_cons_zero, List.set_cons_succ]
      refine wpAnyH_ready (rs := [1, 10]) (by kernel_rfl) (by simp) ?_
      refine AllReadyH.cons rfl (fun K hK => ?_) (AllReadyH.cons rfl (fun K hK => ?_) AllReadyH.nil)
      · go_simp
        refine (toConfig_any C _).mono ?_
        rintro e W' ⟨rfl, hb⟩
        replace hBs := hBs.trans (hb.mono hBs.size)
        have s := HSf.out _ hBs
        clear hb
        unfold Cfg.cells
        go_wp2_with fail
        clear hHeld
        refine hK.out _ _ s (fun hHeld => ?_)
        clear hK K s
        try simp only [Act.put, List.setIfInBounds_toArray, List.set_cons_zero, List.set_cons_succ]
        clear W
        rename World => W
        refine wpAnyH_ready (rs := [6, 10]) (by kernel_rfl) (by simp) ?_
        refine AllReadyH.cons rfl (fun K hK => ?_) (AllReadyH.cons rfl (fun K hK => ?_) AllReadyH.nil)
        · go_simp
          have lF := hBs.size
          refine (iAdmitted_any C (N.copy gU gP) port prio cells _ (copy_smallC HS.out).fit (HXr.out _ hBs) ok (HOc.out gU gP)).mono ?_
          rintro e W' ⟨R, rfl, hR, hb, hAR⟩
          have HAR : Hid (AlikeC (orZero (addN N port prio cells) ok) R) := (HMc.out gU gP).trans hAR
          replace hR := hR.mono lF
          replace hBs := hBs.trans (hb.mono hBs.size)
          have s := HSf.out _ hBs
          clear hb hAR lF
          dsimp only [Cnt.cells]
          go_wp2_with fail
          clear hHeld
          refine hK.out _ _ s (fun hHeld => ?_)
          clear hK K s
          try simp only [Act.put, List.setIfInBounds_toArray, List.set_cons_zero, List.set_cons_succ]
          clear W
          rename World => W
          refine takeD (i := 7) (some 40) (v := ?_) rfl rfl (by kernel_rfl) (by kernel_rfl) (by kernel_rfl) (fun _ _ _ h => h) (by kernel_rfl) ?_ (by assumption) ?_
          rotate_left
          · intro wx hSw
            obtain ⟨hS1, hS2, hS3⟩ := hSw
            go_simp
            try (with_reducible rfl)
          try simp only [Act.put, List.setIfInBounds_toArray, List.set_cons_zero, List.set_cons_succ]
          refine takeD (i := 8) (some 48) (v := ?_) rfl rfl (by kernel_rfl) (by kernel_rfl) (by kernel_rfl) (fun _ _ _ h => h) (by kernel_rfl) ?_ (by assumption) ?_
          rotate_left
          · intro wx hSw
            obtain ⟨hS1, hS2, hS3⟩ := hSw
            go_simp
            try (with_reducible rfl)
          try simp only [Act.put, List.setIfInBounds_toArray, List.set_cons_zero, List.set_cons_succ]
          refine takeD (i := 9) (some 49) (v := ?_) rfl rfl (by kernel_rfl) (by kernel_rfl) (by kernel_rfl) (fun _ _ _ h => h) (by kernel_rfl) ?_ (by assumption) ?_
          rotate_left
          · intro wx hSw
            obtain ⟨hS1, hS2, hS3⟩ := hSw
            go_simp
            try (with_reducible rfl)
          try simp only [Act.put, List.setIfInBounds_toArray, List.set_cons_zero, List.set_cons_succ]
          refine wpAnyH_ready (rs := [10]) (by kernel_rfl) (by simp) ?_
          refine AllReadyH.cons rfl (fun K hK => ?_) AllReadyH.nil
          have hb := (Below.refl W.heap.size W).alloc (Nat.le_refl _) (.cells #[.slice none 0 0, .int .i64 0, .slice none 0 0] 34)
          have lA := hBs.size
          replace hBs := hBs.trans (hb.mono hBs.size)
          have s := HSf.out _ hBs
          replace hR := hR.up hb
          have kA := blk_new W (.cells #[.slice none 0 0, .int .i64 0, .slice none 0 0] 34)
          go_simp
          clear hHeld
          refine hK.out _ _ s (fun hHeld => ?_)
          clear hK K s
          try simp only [Act.put, List.setIfInBounds_toArray, List.set_cons_zero, List.set_cons_succ]
          generalize hgA : W.heap.size = gA at *
          generalize W.alloc (.cells #[.slice none 0 0, .int .i64 0, .slice none 0 0] 34) = W' at *
          clear hb hgA
          clear W
          rename World => W
          have cz := blk_cell kA
          have fz := blk_free kA
          have hAns := Ans.of rfl hBs lA kA hR HAR.out
          have s := HSf.out _ hAns.b
          have HAns : Hid (Ans wa (put3 W gA (.slice R.aU R.nU R.cU) (.int .i64 R.lo) (.slice R.aP R.nP R.cP)) (orZero (addN N port prio cells) ok) gA R) := hAns
          clear hAns hBs lA kA hR HAR
          unfold put3 at s
          refine wpAnyH_ready (rs := [11]) (by kernel_rfl) (by simp) ?_
          refine AllReadyH.cons rfl (fun K hK => ?_) AllReadyH.nil
          go_simp
          clear hHeld
          refine hK.out _ _ s (fun hHeld => ?_)
          clear hK K
          try simp only [Act.put, List.setIfInBounds_toArray, List.set_cons_zero, List.set_cons_succ]
          refine wpAnyH_ready (rs := [12]) (by kernel_rfl) (by simp) ?_
          refine AllReadyH.cons rfl (fun K hK => ?_) AllReadyH.nil
          go_simp
          clear hHeld
          refine hK.out _ _ s (fun hHeld => ?_)
          clear hK K
          try simp only [Act.put, List.setIfInBounds_toArray, List.set_cons_zero, List.set_cons_succ]
          refine wpAnyH_done (by kernel_rfl) ?_ _
          clear s hHeld cz fz
          go_wp2_with fail
          go_meet
          case rel => exact ⟨gA, R, rfl, rfl, HAns.out⟩
        · have hb := (Below.refl W.heap.size W).alloc (Nat.le_refl _) (.cells #[.slice none 0 0, .int .i64 0, .slice none 0 0] 34)
          have lA := hBs.size
          replace hBs := hBs.trans (hb.mono hBs.size)
          have s := HSf.out _ hBs
          have kA := blk_new W (.cells #[.slice none 0 0, .int .i64 0, .slice none 0 0] 34)
          go_simp
          clear hHeld
          refine hK.out _ _ s (fun hHeld => ?_)
          clear hK K s
          try simp only [Act.put, List.setIfInBounds_toArray, List.set_cons_zero, List.set_cons_succ]
          generalize hgA : W.heap.size = gA at *
          generalize W.alloc (.cells #[.slice none 0 0, .int .i64 0, .slice none 0 0] 34) = W' at *
          clear hb hgA
          clear W
          rename World => W
          refine wpAnyH_ready (rs := [6]) (by kernel_rfl) (by simp) ?_
          refine AllReadyH.cons rfl (fun K hK => ?_) AllReadyH.nil
          go_simp
          have lF := hBs.size
          refine (iAdmitted_any C (N.copy gU gP) port prio cells _ (copy_smallC HS.out).fit (HXr.out _ hBs) ok (HOc.out gU gP)).mono ?_
          rintro e W' ⟨R, rfl, hR, hb, hAR⟩
          have HAR : Hid (AlikeC (orZero (addN N port prio cells) ok) R) := (HMc.out gU gP).trans hAR
          replace hR := hR.mono lF
          replace hBs := hBs.trans (hb.mono hBs.size)
          have s := HSf.out _ hBs
          replace kA := (hb.block _ (blk_lt kA)).trans kA
          clear hb hAR lF
          dsimp only [Cnt.cells]
          go_wp2_with fail
          clear hHeld
          refine hK.out _ _ s (fun hHeld => ?_)
          clear hK K s
          try simp only [Act.put, List.setIfInBounds_toArray, List.set_cons_zero, List.set_cons_succ]
          clear W
          rename World => W
          refine takeD (i := 7) (some 40) (v := ?_) rfl rfl (by kernel_rfl) (by kernel_rfl) (by kernel_rfl) (fun _ _ _ h => h) (by kernel_rfl) ?_ (by assumption) ?_
          rotate_left
          · intro wx hSw
            obtain ⟨hS1, hS2, hS3⟩ := hSw
            go_simp
            try (with_reducible rfl)
          try simp only [Act.put, List.setIfInBounds_toArray, List.set_cons_zero, List.set_cons_succ]
          refine takeD (i := 8) (some 48) (v := ?_) rfl rfl (by kernel_rfl) (by kernel_rfl) (by kernel_rfl) (fun _ _ _ h => h) (by kernel_rfl) ?_ (by assumption) ?_
          rotate_left
          · intro wx hSw
            obtain ⟨hS1, hS2, hS3⟩ := hSw
            go_simp
            try (with_reducible rfl)
          try simp only [Act.put, List.setIfInBounds_toArray, List.set_cons_zero, List.set_cons_succ]
          refine takeD (i := 9) (some 49) (v := ?_) rfl rfl (by kernel_rfl) (by kernel_rfl) (by kernel_rfl) (fun _ _ _ h => h) (by kernel_rfl) ?_ (by assumption) ?_
          rotate_left
          · intro wx hSw
            obtain ⟨hS1, hS2, hS3⟩ := hSw
            go_simp
            try (with_reducible rfl)
          try simp only [Act.put, List.setIfInBounds_toArray, List.set_cons_zero, List.set_cons_succ]
          have cz := blk_cell kA
          have fz := blk_free kA
          have hAns := Ans.of rfl hBs lA kA hR HAR.out
          have s := HSf.out _ hAns.b
          have HAns : Hid (Ans wa (put3 W gA (.slice R.aU R.nU R.cU) (.int .i64 R.lo) (.slice R.aP R.nP R.cP)) (orZero (addN N port prio cells) ok) gA R) := hAns
          clear hAns hBs lA kA hR HAR
          unfold put3 at s
          refine wpAnyH_ready (rs := [11]) (by kernel_rfl) (by simp) ?_
          refine AllReadyH.cons rfl (fun K hK => ?_) AllReadyH.nil
          go_simp
          clear hHeld
          refine hK.out _ _ s (fun hHeld => ?_)
          clear hK K
          try simp only [Act.put, List.setIfInBounds_toArray, List.set_cons_zero, List.set_cons_succ]
          refine wpAnyH_ready (rs := [12]) (by kernel_rfl) (by simp) ?_
          refine AllReadyH.cons rfl (fun K hK => ?_) AllReadyH.nil
          go_simp
          clear hHeld
          refine hK.out _ _ s (fun hHeld => ?_)
          clear hK K
          try simp only [Act.put, List.setIfInBounds_toArray, List.set_cons_zero, List.set_cons_succ]
          refine wpAnyH_done (by kernel_rfl) ?_ _
          clear s hHeld cz fz
          go_wp2_with fail
          go_meet
          case rel => exact ⟨gA, R, rfl, rfl, HAns.out⟩
      · have hb := (Below.refl W.heap.size W).alloc (Nat.le_refl _) (.cells #[.slice none 0 0, .int .i64 0, .slice none 0 0] 34)
        have lA := hBs.size
        replace hBs := hBs.trans (hb.mono hBs.size)
        have s := HSf.out _ hBs
        have kA := blk_new W (.cells #[.slice none 0 0, .int .i64 0, .slice none 0 0] 34)
        go_simp
        clear hHeld
        refine hK.out _ _ s (fun hHeld => ?_)
        clear hK K s
        try simp only [Act.put, List.setIfInBounds_toArray, List.set_cons_zero, List.set_cons_succ]
        generalize hgA : W.heap.size = gA at *
        generalize W.alloc (.cells #[.slice none 0 0, .int .i64 0, .slice none 0 0] 34) = W' at *
        clear hb hgA
        clear W
        rename World => W
        refine wpAnyH_ready (rs := [1]) (by kernel_rfl) (by simp) ?_
        refine AllReadyH.cons rfl (fun K hK => ?_) AllReadyH.nil
        go_simp
        refine (toConfig_any C _).mono ?_
        rintro e W' ⟨rfl, hb⟩
        replace hBs := hBs.trans (hb.mono hBs.size)
        have s := HSf.out _ hBs
        replace kA := (hb.block _ (blk_lt kA)).trans kA
        clear hb
        unfold Cfg.cells
        go_wp2_with fail
        clear hHeld
        refine hK.out _ _ s (fun hHeld => ?_)
        clear hK K s
        try simp only [Act.put, List.setIfInBounds_toArray, List.set_cons_zero, List.set_cons_succ]
        clear W
        rename World => W
        refine wpAnyH_ready (rs := [6]) (by kernel_rfl) (by simp) ?_
        refine AllReadyH.cons rfl (fun K hK => ?_) AllReadyH.nil
        go_simp
        have lF := hBs.size
        refine (iAdmitted_any C (N.copy gU gP) port prio cells _ (copy_smallC HS.out).fit (HXr.out _ hBs) ok (HOc.out gU gP)).mono ?_
        rintro e W' ⟨R, rfl, hR, hb, hAR⟩
        have HAR : Hid (AlikeC (orZero (addN N port prio cells) ok) R) := (HMc.out gU gP).trans hAR
        replace hR := hR.mono lF
        replace hBs := hBs.trans (hb.mono hBs.size)
        have s := HSf.out _ hBs
        replace kA := (hb.block _ (blk_lt kA)).trans kA
        clear hb hAR lF
        dsimp only [Cnt.cells]
        go_wp2_with fail
        clear hHeld
        refine hK.out _ _ s (fun hHeld => ?_)
        clear hK K s
        try simp only [Act.put, List.setIfInBounds_toArray, List.set_cons_zero, List.set_cons_succ]
        clear W
        rename World => W
        refine takeD (i := 7) (some 40) (v := ?_) rfl rfl (by kernel_rfl) (by kernel_rfl) (by kernel_rfl) (fun _ _ _ h => h) (by kernel_rfl) ?_ (by assumption) ?_
        rotate_left
        · intro wx hSw
          obtain ⟨hS1, hS2, hS3⟩ := hSw
          go_simp
          try (with_reducible rfl)
        try simp only [Act.put, List.setIfInBounds_toArray, List.set_cons_zero, List.set_cons_succ]
        refine takeD (i := 8) (some 48) (v := ?_) rfl rfl (by kernel_rfl) (by kernel_rfl) (by kernel_rfl) (fun _ _ _ h => h) (by kernel_rfl) ?_ (by assumption) ?_
        rotate_left
        · intro wx hSw
          obtain ⟨hS1, hS2, hS3⟩ := hSw
          go_simp
          try (with_reducible rfl)
        try simp only [Act.put, List.setIfInBounds_toArray, List.set_cons_zero, List.set_cons_succ]
        refine takeD (i := 9) (some 49) (v := ?_) rfl rfl (by kernel_rfl) (by kernel_rfl) (by kernel_rfl) (fun _ _ _ h => h) (by kernel_rfl) ?_ (by assumption) ?_
        rotate_left
        · intro wx hSw
          obtain ⟨hS1, hS2, hS3⟩ := hSw
          go_simp
          try (with_reducible rfl)
        try simp only [Act.put, List.setIfInBounds_toArray, List.set_cons_zero, List.set_cons_succ]
        have cz := blk_cell kA
        have fz := blk_free kA
        have hAns := Ans.of rfl hBs lA kA hR HAR.out
        have s := HSf.out _ hAns.b
        have HAns : Hid (Ans wa (put3 W gA (.slice R.aU R.nU R.cU) (.int .i64 R.lo) (.slice R.aP R.nP R.cP)) (orZero (addN N port prio cells) ok) gA R) := hAns
        clear hAns hBs lA kA hR HAR
        unfold put3 at s
        refine wpAnyH_ready (rs := [11]) (by kernel_rfl) (by simp) ?_
        refine AllReadyH.cons rfl (fun K hK => ?_) AllReadyH.nil
        go_simp
        clear hHeld
        refine hK.out _ _ s (fun hHeld => ?_)
        clear hK K
        try simp only [Act.put, List.setIfInBounds_toArray, List.set_cons_zero, List.set_cons_succ]
        refine wpAnyH_ready (rs := [12]) (by kernel_rfl) (by simp) ?_
        refine AllReadyH.cons rfl (fun K hK => ?_) AllReadyH.nil
        go_simp
        clear hHeld
        refine hK.out _ _ s (fun hHeld => ?_)
        clear hK K
        try simp only [Act.put, List.setIfInBounds_toArray, List.set_cons_zero, List.set_cons_succ]
        refine wpAnyH_done (by kernel_rfl) ?_ _
        clear s hHeld cz fz
        go_wp2_with fail
        go_meet
        case rel => exact ⟨gA, R, rfl, rfl, HAns.out⟩
    case rest =>
      obtain ⟨gG, RG, rfl, rfl, hAns⟩ := hcut
      have hb := hAns.b
      have hB := next2 HBa.out hb
      have hW := HWa.out.up hb
      have kW := (hb.block _ (blk_lt HkW.out)).trans HkW.out
      have hX := HXa.out.up hb
      have kX := (hb.block _ (blk_lt HkX.out)).trans HkX.out
      have kG := hAns.k
      have hG := hAns.o
      have HAG : Hid (AlikeC (orZero (addN N port prio cells) ok) RG) := hAns.a
      have HGs : Hid RG.Small := HAG.out.small (orZero_small (addN_small HS.out))
      have HGW : Hid (AlikeC RG RW) := HAG.out.symm.trans HAW.out
      have HG0 : Hid (OwnCn wc wa.heap.size RG) := hAns.o
      have HgG : Hid (wa.heap.size ≤ gG) := hAns.g
      have H7 : Hid (wa.heap.size ≤ wc.heap.size) := hb.size
      clear hAns hb HSf HXr HBa HkX HXa HWa HkW
      generalize wc = w7 at *
      have cW := blk_cell kW
      have cG := blk_cell kG
      unfold Cnt.cells at cW cG
      go_wp2_with fail
      refine (eqCounts_any RG RW _ HGs.out hG.rd hW.rd HGW.out).mono ?_
      rintro e w8 ⟨rfl, hb⟩
      clear cW cG
      replace hW := hW.up hb
      replace hX := hX.up hb
      replace hG := hG.up hb
      replace kW := (hb.block _ (blk_lt kW)).trans kW
      replace kX := (hb.block _ (blk_lt kX)).trans kX
      replace kG := (hb.block _ (blk_lt kG)).trans kG
      replace hB := next2 hB hb
      clear hb
      have cb := (boxed2 hB).1
      have cn := (boxed2 hB).2
      have cX := blk_cell kX
      go_wp2_with fail
      refine wp_region_held_drew (S := fun w' => (∀ o, w'.cell? ⟨w.heap.size, o, none⟩ = (#[.int .i64 C.p, .int .i64 C.c, .int .i64 C.xo, .int .i64 C.xn, .int .i64 C.hd, .int .i64 C.lo, .int .i64 C.dl] : Array Value)[o]?) ∧ (∀ o, w'.cell? ⟨w.heap.size + 1, o, none⟩ = (#[.slice N.aU N.nU N.cU, .int .i64 N.lo, .slice N.aP N.nP N.cP] : Array Value)[o]?) ∧ ∀ o, w'.cell? ⟨wx.heap.size, o, none⟩ = (#[.slice (some ⟨gU, 0, none⟩) N.nU N.nU, .int .i64 N.lo, .slice (some ⟨gP, 0, none⟩) N.nP N.nP] : Array Value)[o]?) (by kernel_rfl) ⟨cb, cn, cX⟩ (fun hHeld => ?_)
      refine takeD (i := 0) (some 59) (v := ?_) rfl rfl (by kernel_rfl) (by kernel_rfl) (by kernel_rfl) (fun _ _ _ h => h) (by kernel_rfl) ?_ (by assumption) ?_
      rotate_left
      · intro wx hSw
        obtain ⟨hS1, hS2, hS3⟩ := hSw
        go_simp
        try (with_reducible rfl)
      try simp only [Act.put, List.setIfInBounds_toArray, List.set_cons_zero, List.set_cons_succ]
      refine takeD (i := 1) (some 60) (v := ?_) rfl rfl (by kernel_rfl) (by kernel_rfl) (by kernel_rfl) (fun _ _ _ h => h) (by kernel_rfl) ?_ (by assumption) ?_
      rotate_left
      · intro wx hSw
        obtain ⟨hS1, hS2, hS3⟩ := hSw
        go_simp
        try (with_reducible rfl)
      try simp only [Act.put, List.setIfInBounds_toArray, List.set_cons_zero, List.set_cons_succ]
      refine wpAnyH_ready (rs := [2]) (by kernel_rfl) (by simp) ?_
      refine AllReadyH.cons rfl (fun K hK => ?_) AllReadyH.nil
      go_simp
      have hd : Below w8.heap.size w8 w8.drew := (Below.refl _ _).drew
      replace hW := hW.up hd
      replace hX := hX.up hd
      replace hG := hG.up hd
      replace kW := (hd.block _ (blk_lt kW)).trans kW
      replace kX := (hd.block _ (blk_lt kX)).trans kX
      replace kG := (hd.block _ (blk_lt kG)).trans kG
      replace hB := next2 hB hd
      replace cb := (boxed2 hB).1
      replace cn := (boxed2 hB).2
      replace cX := blk_cell kX
      clear hd
      refine (toCounts_any N _ HS.out (HR.out.up (under2 hB))).mono ?_
      rintro e w9 ⟨gU2, gP2, rfl, hj, hb⟩
      have j2 := hj.rd
      clear hj
      replace hW := hW.up hb
      replace hX := hX.up hb
      replace hG := hG.up hb
      replace kW := (hb.block _ (blk_lt kW)).trans kW
      replace kX := (hb.block _ (blk_lt kX)).trans kX
      replace kG := (hb.block _ (blk_lt kG)).trans kG
      replace hB := next2 hB hb
      replace cb := (boxed2 hB).1
      replace cn := (boxed2 hB).2
      replace cX := blk_cell kX
      clear hb
      dsimp only [Cnt.copy, Cnt.cells]
      go_wp2_with fail
      refine hK.out _ _ ⟨cb, cn, cX⟩ (fun hHeld => ?_)
      clear hK K
      try simp only [Act.put, List.setIfInBounds_toArray, List.set_cons_zero, List.set_cons_succ]
      refine wpAnyH_ready (rs := [3]) (by kernel_rfl) (by simp) ?_
      refine AllReadyH.cons rfl (fun K hK => ?_) AllReadyH.nil
      go_simp
      refine (eqCounts_any (N.copy gU gP) (N.copy gU2 gP2) _ (copy_smallC HS.out) hX.rd j2 ((copy_alike N gU gP).symm.trans (copy_alike N gU2 gP2))).mono ?_
      rintro e w10 ⟨rfl, hb⟩
      clear j2
      replace hW := hW.up hb
      replace hX := hX.up hb
      replace hG := hG.up hb
      replace kW := (hb.block _ (blk_lt kW)).trans kW
      replace kX := (hb.block _ (blk_lt kX)).trans kX
      replace kG := (hb.block _ (blk_lt kG)).trans kG
      replace hB := next2 hB hb
      replace cb := (boxed2 hB).1
      replace cn := (boxed2 hB).2
      replace cX := blk_cell kX
      clear hb
      go_wp2_with fail
      refine hK.out _ _ ⟨cb, cn, cX⟩ (fun hHeld => ?_)
      clear hK K
      try simp only [Act.put, List.setIfInBounds_toArray, List.set_cons_zero, List.set_cons_succ]
      refine takeD (i := 4) (some 63) (v := ?_) rfl rfl (by kernel_rfl) (by kernel_rfl) (by kernel_rfl) (fun _ _ _ h => h) (by kernel_rfl) ?_ (by assumption) ?_
      rotate_left
      · intro wx hSw
        obtain ⟨hS1, hS2, hS3⟩ := hSw
        go_simp
        try (with_reducible rfl)
      try simp only [Act.put, List.setIfInBounds_toArray, List.set_cons_zero, List.set_cons_succ]
      refine wpAnyH_done (by kernel_rfl) ?_ _
      clear hHeld cb cn cX
      have cX := blk_cell kX
      go_wp2_with fail
      refine (markCountsT_any (N.copy gU gP) 1 w5.heap.size _ hX (copy_smallC HS.out) (by omega) (by have := (hX.up (Below.refl _ _)); have := blk_lt kX; have := H5x.out; omega)).mono ?_
      rintro e w11 ⟨rfl, hXm, hT⟩
      have hTb := HX0.out.tbl
      have e1 := HgW.out
      have e2 := H5x.out
      have e3 := Hxa.out
      have e4 := HgG.out
      have e5 := H15.out
      have hW11 := hW.touchHi HW0.out hT (fun x hx => by have := (hTb x hx).1; omega)
      have hG11 := hG.touch hT (fun x hx => by have := (hTb x hx).2; omega)
      have kW11 := (hT.block _ (blk_lt kW) (fun hx => by have := (hTb _ hx).1; omega)).trans kW
      have kG11 := (hT.block _ (blk_lt kG) (fun hx => by have := (hTb _ hx).2; omega)).trans kG
      have hB11 := hB.trans (hT.below (upper2 hB) (fun x hx => by have := (hTb x hx).1; omega))
      clear hW hG kW kG kX hX hXm hT hTb hB cX e1 e2 e3 e4 e5
      have cW := blk_cell kW11
      have cG := blk_cell kG11
      unfold Cnt.cells at cW cG
      generalize hKX : (((N.copy gU gP).total 1 : Nat) : Int) = KX at *
      have hkx : ¬ KX < 0 := by omega
      go_wp2_with fail
      refine (eqCounts_any RG RW _ HGs.out hG11.rd hW11.rd HGW.out).mono ?_
      rintro e w12 ⟨rfl, hb⟩
      have hW := hW11
      have hG := hG11
      have kW := kW11
      have kG := kG11
      have hB := hB11
      clear hW11 hG11 kW11 kG11 hB11 cW cG
      replace hW := hW.up hb
      replace hG := hG.up hb
      replace kW := (hb.block _ (blk_lt kW)).trans kW
      replace kG := (hb.block _ (blk_lt kG)).trans kG
      replace hB := next2 hB hb
      clear hb
      have cG := blk_cell kG
      unfold Cnt.cells at cG
      go_wp2_with fail
      refine (markCountsT_any RG 1 wa.heap.size _ hG HGs.out (by omega) (by have := blk_lt kG; have := HgG.out; omega)).mono ?_
      rintro e w13 ⟨rfl, hM, hT⟩
      have hTb := HG0.out.tbl
      have e1 := HgW.out
      have e2 := H5x.out
      have e3 := Hxa.out
      have e5 := H15.out
      have hW13 := hW.touchHi HW0.out hT (fun x hx => by have := (hTb x hx).1; omega)
      have kW13 := (hT.block _ (blk_lt kW) (fun hx => by have := (hTb _ hx).1; omega)).trans kW
      have kG13 := (hT.block _ (blk_lt kG) (hG.boxOut (by decide) (by decide) kG)).trans kG
      have hB13 := hB.trans (hT.below (upper2 hB) (fun x hx => by have := (hTb x hx).1; omega))
      clear hW hG kW kG cG hT hTb hB e1 e2 e3 e5
      have cG := blk_cell kG13
      unfold Cnt.cells at cG
      generalize hKK : ((RG.total 1 : Nat) : Int) = KK at *
      have hk1 : ¬ KK < 0 := by omega
      have hk2 : (KK != KK) = false := by simp
      go_wp2_with fail
      refine (heldCounts_any RG 1 wa.heap.size _ hM HGs.out (by omega)).mono ?_
      rintro e w14 ⟨rfl, hb⟩
      rw [hKK]
      have hW := hW13
      have kW := kW13
      have kG := kG13
      have hB := hB13
      clear hW13 kW13 kG13 hB13 cG
      replace hW := hW.up hb
      replace hM := hM.up hb
      replace kW := (hb.block _ (blk_lt kW)).trans kW
      replace kG := (hb.block _ (blk_lt kG)).trans kG
      replace hB := next2 hB hb
      clear hb
      have HB14 : Hid (Below (w.heap.size + 2) ((w.alloc (.cells #[.int .i64 C.p, .int .i64 C.c, .int .i64 C.xo, .int .i64 C.xn, .int .i64 C.hd, .int .i64 C.lo, .int .i64 C.dl] 23)).alloc (.cells #[.slice N.aU N.nU N.cU, .int .i64 N.lo, .slice N.aP N.nP N.cP] 31)) w14) := hB
      have HSf : Hid (∀ w', Below w14.heap.size w14 w' → (∀ o, w'.cell? ⟨w.heap.size, o, none⟩ = (#[.int .i64 C.p, .int .i64 C.c, .int .i64 C.xo, .int .i64 C.xn, .int .i64 C.hd, .int .i64 C.lo, .int .i64 C.dl] : Array Value)[o]?) ∧ (∀ o, w'.cell? ⟨w.heap.size + 1, o, none⟩ = (#[.slice N.aU N.nU N.cU, .int .i64 N.lo, .slice N.aP N.nP N.cP] : Array Value)[o]?)) := fun w' hw => boxed2 (next2 HB14.out hw)
      have HRd : Hid (∀ W, Below w14.heap.size w14 W → RdCnt W N) := fun W hw => HR.out.up (under2 (next2 HB14.out hw))
      have HWe : Hid (OwnCn w14 w1.heap.size RW) := hW
      have HkWe : Hid (w14.heap[gW]? = some (.cells RW.cells 34 (0, 0))) := kW
      have HMe : Hid (OwnCn w14 wa.heap.size (RG.marked 1)) := hM
      have HkGe : Hid (w14.heap[gG]? = some (.cells RG.cells 34 (0, 0))) := kG
      clear hB hW kW hM kG
      go_wp2_with fail
      go_cut [20, 21] (fun s20 s21 wc => ∃ gA R, s20 = .pointer (some ⟨gA, 0, none⟩) ∧ s21 = .bool ok ∧ Ans w14 wc (orZero (addN N port prio cells) ok) gA R)
      case first =>
        have hBs : Below w14.heap.size w14 w14.drew := (Below.refl _ _).drew
        have s := HSf.out _ hBs
        refine wp_region_held_drew (S := fun w' => (∀ o, w'.cell? ⟨w.heap.size, o, none⟩ = (#[.int .i64 C.p, .int .i64 C.c, .int .i64 C.xo, .int .i64 C.xn, .int .i64 C.hd, .int .i64 C.lo, .int .i64 C.dl] : Array Value)[o]?) ∧ (∀ o, w'.cell? ⟨w.heap.size + 1, o, none⟩ = (#[.slice N.aU N.nU N.cU, .int .i64 N.lo, .slice N.aP N.nP N.cP] : Array Value)[o]?)) (by kernel_rfl) s (fun hHeld => ?_)
        clear s
        generalize w14.drew = W at *
        refine takeD (i := 0) (some 92) (v := ?_) rfl rfl (by kernel_rfl) (by kernel_rfl) (by kernel_rfl) (fun _ _ _ h => h) (by kernel_rfl) ?_ (by assumption) ?_
        rotate_left
        · intro wx hSw
          obtain ⟨hS1, hS2⟩ := hSw
          go_simp
          try (with_reducible rfl)
        try simp only [Act.put, List.setIfInBounds_toArray, List.set_cons_zero, List.set_cons_succ]
        refine takeD (i := 2) (some 94) (v := ?_) rfl rfl (by kernel_rfl) (by kernel_rfl) (by kernel_rfl) (fun _ _ _ h => h) (by kernel_rfl) ?_ (by assumption) ?_
        rotate_left
        · intro wx hSw
          obtain ⟨hS1, hS2⟩ := hSw
          go_simp
          try (with_reducible rfl)
        try simp only [Act.put, List.setIfInBounds_toArray, List.set_cons_zero, List.set_cons_succ]
        refine takeD (i := 4) (some 96) (v := ?_) rfl rfl (by kernel_rfl) (by kernel_rfl) (by kernel_rfl) (fun _ _ _ h => h) (by kernel_rfl) ?_ (by assumption) ?_
        rotate_left
        · intro wx hSw
          obtain ⟨hS1, hS2⟩ := hSw
          go_simp
          try (with_reducible rfl)
        try simp only [Act.put, List.setIfInBounds_toArray, List.set_cons_zero, List.set_cons_succ]
        refine takeD (i := 5) (some 97) (v := ?_) rfl rfl (by kernel_rfl) (by kernel_rfl) (by kernel_rfl) (fun _ _ _ h => h) (by kernel_rfl) ?_ (by assumption) ?_
        rotate_left
        · intro wx hSw
          obtain ⟨hS1, hS2⟩ := hSw
          go_simp
          try (with_reducible rfl)
        try simp only [Act.put, List.setIfInBounds_toArray, List.set_cons_zero, List.set_cons_succ]
        refine takeD (i := 6) (some 98) (v := ?_) rfl rfl (by kernel_rfl) (by kernel_rfl) (by kernel_rfl) (fun _ _ _ h => h) (by kernel_rfl) ?_ (by assumption) ?_
        rotate_left
        · intro wx hSw
          obtain ⟨hS1, hS2⟩ := hSw
          go_simp
          try (with_reducible rfl)
        try simp only [Act.put, List.setIfInBounds_toArray, List.set_cons_zero, List.set_cons_succ]
        refine wpAnyH_ready (rs := [1, 11]) (by kernel_rfl) (by simp) ?_
        refine AllReadyH.cons rfl (fun K hK => ?_) (AllReadyH.cons rfl (fun K hK => ?_) AllReadyH.nil)
        · go_simp
          refine (toConfig_any C _).mono ?_
          rintro e W' ⟨rfl, hb⟩
          replace hBs := hBs.trans (hb.mono hBs.size)
          have s := HSf.out _ hBs
          clear hb
          unfold Cfg.cells
          go_wp2_with fail
          clear hHeld
          refine hK.out _ _ s (fun hHeld => ?_)
          clear hK K s
          try simp only [Act.put, List.setIfInBounds_toArray, List.set_cons_zero, List.set_cons_succ]
          clear W
          rename World => W
          refine wpAnyH_ready (rs := [3, 11]) (by kernel_rfl) (by simp) ?_
          refine AllReadyH.cons rfl (fun K hK => ?_) (AllReadyH.cons rfl (fun K hK => ?_) AllReadyH.nil)
          · go_simp
            refine (toCounts_any N _ HS.out (HRd.out _ hBs)).mono ?_
            rintro e W' ⟨gU1, gP1, rfl, hj, hb⟩
            have hr1 := hj.rd
            replace hBs := hBs.trans (hb.mono hBs.size)
            have s := HSf.out _ hBs
            clear hb hj
            dsimp only [Cnt.copy, Cnt.cells]
            go_wp2_with fail
            clear hHeld
            refine hK.out _ _ s (fun hHeld => ?_)
            clear hK K s
            try simp only [Act.put, List.setIfInBounds_toArray, List.set_cons_zero, List.set_cons_succ]
            clear W
            rename World => W
            refine wpAnyH_ready (rs := [7, 11]) (by kernel_rfl) (by simp) ?_
            refine AllReadyH.cons rfl (fun K hK => ?_) (AllReadyH.cons rfl (fun K hK => ?_) AllReadyH.nil)
            · go_simp
              have lF := hBs.size
              refine (iAdmitted_any C (N.copy gU1 gP1) port prio cells _ (copy_smallC HS.out).fit hr1 ok (HOc.out gU1 gP1)).mono ?_
              rintro e W' ⟨R, rfl, hR, hb, hAR⟩
              have HAR : Hid (AlikeC (orZero (addN N port prio cells) ok) R) := (HMc.out gU1 gP1).trans hAR
              replace hR := hR.mono lF
              replace hBs := hBs.trans (hb.mono hBs.size)
              have s := HSf.out _ hBs
              replace hr1 := hr1.up hb
              clear hb hAR lF hr1
              dsimp only [Cnt.cells]
              go_wp2_with fail
              clear hHeld
              refine hK.out _ _ s (fun hHeld => ?_)
              clear hK K s
              try simp only [Act.put, List.setIfInBounds_toArray, List.set_cons_zero, List.set_cons_succ]
              clear W
              rename World => W
              refine takeD (i := 8) (some 91) (v := ?_) rfl rfl (by kernel_rfl) (by kernel_rfl) (by kernel_rfl) (fun _ _ _ h => h) (by kernel_rfl) ?_ (by assumption) ?_
              rotate_left
              · intro wx hSw
                obtain ⟨hS1, hS2⟩ := hSw
                go_simp
                try (with_reducible rfl)
              try simp only [Act.put, List.setIfInBounds_toArray, List.set_cons_zero, List.set_cons_succ]
              refine takeD (i := 9) (some 100) (v := ?_) rfl rfl (by kernel_rfl) (by kernel_rfl) (by kernel_rfl) (fun _ _ _ h => h) (by kernel_rfl) ?_ (by assumption) ?_
              rotate_left
              · intro wx hSw
                obtain ⟨hS1, hS2⟩ := hSw
                go_simp
                try (with_reducible rfl)
              try simp only [Act.put, List.setIfInBounds_toArray, List.set_cons_zero, List.set_cons_succ]
              refine takeD (i := 10) (some 101) (v := ?_) rfl rfl (by kernel_rfl) (by kernel_rfl) (by kernel_rfl) (fun _ _ _ h => h) (by kernel_rfl) ?_ (by assumption) ?_
              rotate_left
              · intro wx hSw
                obtain ⟨hS1, hS2⟩ := hSw
                go_simp
                try (with_reducible rfl)
              try simp only [Act.put, List.setIfInBounds_toArray, List.set_cons_zero, List.set_cons_succ]
              refine wpAnyH_ready (rs := [11]) (by kernel_rfl) (by simp) ?_
              refine AllReadyH.cons rfl (fun K hK => ?_) AllReadyH.nil
              have hb := (Below.refl W.heap.size W).alloc (Nat.le_refl _) (.cells #[.slice none 0 0, .int .i64 0, .slice none 0 0] 34)
              have lA := hBs.size
              replace hBs := hBs.trans (hb.mono hBs.size)
              have s := HSf.out _ hBs
              replace hR := hR.up hb
              have kA := blk_new W (.cells #[.slice none 0 0, .int .i64 0, .slice none 0 0] 34)
              go_simp
              clear hHeld
              refine hK.out _ _ s (fun hHeld => ?_)
              clear hK K s
              try simp only [Act.put, List.setIfInBounds_toArray, List.set_cons_zero, List.set_cons_succ]
              generalize hgA : W.heap.size = gA at *
              generalize W.alloc (.cells #[.slice none 0 0, .int .i64 0, .slice none 0 0] 34) = W' at *
              clear hb hgA
              clear W
              rename World => W
              have cz := blk_cell kA
              have fz := blk_free kA
              have hAns := Ans.of rfl hBs lA kA hR HAR.out
              have s := HSf.out _ hAns.b
              have HAns : Hid (Ans w14 (put3 W gA (.slice R.aU R.nU R.cU) (.int .i64 R.lo) (.slice R.aP R.nP R.cP)) (orZero (addN N port prio cells) ok) gA R) := hAns
              clear hAns hBs lA kA hR HAR
              unfold put3 at s
              refine wpAnyH_ready (rs := [12]) (by kernel_rfl) (by simp) ?_
              refine AllReadyH.cons rfl (fun K hK => ?_) AllReadyH.nil
              go_simp
              clear hHeld
              refine hK.out _ _ s (fun hHeld => ?_)
              clear hK K
              try simp only [Act.put, List.setIfInBounds_toArray, List.set_cons_zero, List.set_cons_succ]
              refine wpAnyH_ready (rs := [13]) (by kernel_rfl) (by simp) ?_
              refine AllReadyH.cons rfl (fun K hK => ?_) AllReadyH.nil
              go_simp
              clear hHeld
              refine hK.out _ _ s (fun hHeld => ?_)
              clear hK K
              try simp only [Act.put, List.setIfInBounds_toArray, List.set_cons_zero, List.set_cons_succ]
              refine wpAnyH_done (by kernel_rfl) ?_ _
              clear s hHeld cz fz
              go_wp2_with fail
              go_meet
              case rel => exact ⟨gA, R, rfl, rfl, HAns.out⟩
            · have hb := (Below.refl W.heap.size W).alloc (Nat.le_refl _) (.cells #[.slice none 0 0, .int .i64 0, .slice none 0 0] 34)
              have lA := hBs.size
              replace hBs := hBs.trans (hb.mono hBs.size)
              have s := HSf.out _ hBs
              replace hr1 := hr1.up hb
              have kA := blk_new W (.cells #[.slice none 0 0, .int .i64 0, .slice none 0 0] 34)
              go_simp
              clear hHeld
              refine hK.out _ _ s (fun hHeld => ?_)
              clear hK K s
              try simp only [Act.put, List.setIfInBounds_toArray, List.set_cons_zero, List.set_cons_succ]
              generalize hgA : W.heap.size = gA at *
              generalize W.alloc (.cells #[.slice none 0 0, .int .i64 0, .slice none 0 0] 34) = W' at *
              clear hb hgA
              clear W
              rename World => W
              refine wpAnyH_ready (rs := [7]) (by kernel_rfl) (by simp) ?_
              refine AllReadyH.cons rfl (fun K hK => ?_) AllReadyH.nil
              go_simp
              have lF := hBs.size
              refine (iAdmitted_any C (N.copy gU1 gP1) port prio cells _ (copy_smallC HS.out).fit hr1 ok (HOc.out gU1 gP1)).mono ?_
              rintro e W' ⟨R, rfl, hR, hb, hAR⟩
              have HAR : Hid (AlikeC (orZero (addN N port prio cells) ok) R) := (HMc.out gU1 gP1).trans hAR
              replace hR := hR.mono lF
              replace hBs := hBs.trans (hb.mono hBs.size)
              have s := HSf.out _ hBs
              replace kA := (hb.block _ (blk_lt kA)).trans kA
              replace hr1 := hr1.up hb
              clear hb hAR lF hr1
              dsimp only [Cnt.cells]
              go_wp2_with fail
              clear hHeld
              refine hK.out _ _ s (fun hHeld => ?_)
              clear hK K s
              try simp only [Act.put, List.setIfInBounds_toArray, List.set_cons_zero, List.set_cons_succ]
              clear W
              rename World => W
              refine takeD (i := 8) (some 91) (v := ?_) rfl rfl (by kernel_rfl) (by kernel_rfl) (by kernel_rfl) (fun _ _ _ h => h) (by kernel_rfl) ?_ (by assumption) ?_
              rotate_left
              · intro wx hSw
                obtain ⟨hS1, hS2⟩ := hSw
                go_simp
                try (with_reducible rfl)
              try simp only [Act.put, List.setIfInBounds_toArray, List.set_cons_zero, List.set_cons_succ]
              refine takeD (i := 9) (some 100) (v := ?_) rfl rfl (by kernel_rfl) (by kernel_rfl) (by kernel_rfl) (fun _ _ _ h => h) (by kernel_rfl) ?_ (by assumption) ?_
              rotate_left
              · intro wx hSw
                obtain ⟨hS1, hS2⟩ := hSw
                go_simp
                try (with_reducible rfl)
              try simp only [Act.put, List.setIfInBounds_toArray, List.set_cons_zero, List.set_cons_succ]
              refine takeD (i := 10) (some 101) (v := ?_) rfl rfl (by kernel_rfl) (by kernel_rfl) (by kernel_rfl) (fun _ _ _ h => h) (by kernel_rfl) ?_ (by assumption) ?_
              rotate_left
              · intro wx hSw
                obtain ⟨hS1, hS2⟩ := hSw
                go_simp
                try (with_reducible rfl)
              try simp only [Act.put, List.setIfInBounds_toArray, List.set_cons_zero, List.set_cons_succ]
              have cz := blk_cell kA
              have fz := blk_free kA
              have hAns := Ans.of rfl hBs lA kA hR HAR.out
              have s := HSf.out _ hAns.b
              have HAns : Hid (Ans w14 (put3 W gA (.slice R.aU R.nU R.cU) (.int .i64 R.lo) (.slice R.aP R.nP R.cP)) (orZero (addN N port prio cells) ok) gA R) := hAns
              clear hAns hBs lA kA hR HAR
              unfold put3 at s
              refine wpAnyH_ready (rs := [12]) (by kernel_rfl) (by simp) ?_
              refine AllReadyH.cons rfl (fun K hK => ?_) AllReadyH.nil
              go_simp
              clear hHeld
              refine hK.out _ _ s (fun hHeld => ?_)
              clear hK K
              try simp only [Act.put, List.setIfInBounds_toArray, List.set_cons_zero, List.set_cons_succ]
              refine wpAnyH_ready (rs := [13]) (by kernel_rfl) (by simp) ?_
              refine AllReadyH.cons rfl (fun K hK => ?_) AllReadyH.nil
              go_simp
              clear hHeld
              refine hK.out _ _ s (fun hHeld => ?_)
              clear hK K
              try simp only [Act.put, List.setIfInBounds_toArray, List.set_cons_zero, List.set_cons_succ]
              refine wpAnyH_done (by kernel_rfl) ?_ _
              clear s hHeld cz fz
              go_wp2_with fail
              go_meet
              case rel => exact ⟨gA, R, rfl, rfl, HAns.out⟩
          · have hb := (Below.refl W.heap.size W).alloc (Nat.le_refl _) (.cells #[.slice none 0 0, .int .i64 0, .slice none 0 0] 34)
            have lA := hBs.size
            replace hBs := hBs.trans (hb.mono hBs.size)
            have s := HSf.out _ hBs
            have kA := blk_new W (.cells #[.slice none 0 0, .int .i64 0, .slice none 0 0] 34)
            go_simp
            clear hHeld
            refine hK.out _ _ s (fun hHeld => ?_)
            clear hK K s
            try simp only [Act.put, List.setIfInBounds_toArray, List.set_cons_zero, List.set_cons_succ]
            generalize hgA : W.heap.size = gA at *
            generalize W.alloc (.cells #[.slice none 0 0, .int .i64 0, .slice none 0 0] 34) = W' at *
            clear hb hgA
            clear W
            rename World => W
            refine wpAnyH_ready (rs := [3]) (by kernel_rfl) (by simp) ?_
            refine AllReadyH.cons rfl (fun K hK => ?_) AllReadyH.nil
            go_simp
            refine (toCounts_any N _ HS.out (HRd.out _ hBs)).mono ?_
            rintro e W' ⟨gU1, gP1, rfl, hj, hb⟩
            have hr1 := hj.rd
            replace hBs := hBs.trans (hb.mono hBs.size)
            have s := HSf.out _ hBs
            replace kA := (hb.block _ (blk_lt kA)).trans kA
            clear hb hj
            dsimp only [Cnt.copy, Cnt.cells]
            go_wp2_with fail
            clear hHeld
            refine hK.out _ _ s (fun hHeld => ?_)
            clear hK K s
            try simp only [Act.put, List.setIfInBounds_toArray, List.set_cons_zero, List.set_cons_succ]
            clear W
            rename World => W
            refine wpAnyH_ready (rs := [7]) (by kernel_rfl) (by simp) ?_
            refine AllReadyH.cons rfl (fun K hK => ?_) AllReadyH.nil
            go_simp
            have lF := hBs.size
            refine (iAdmitted_any C (N.copy gU1 gP1) port prio cells _ (copy_smallC HS.out).fit hr1 ok (HOc.out gU1 gP1)).mono ?_
            rintro e W' ⟨R, rfl, hR, hb, hAR⟩
            have HAR : Hid (AlikeC (orZero (addN N port prio cells) ok) R) := (HMc.out gU1 gP1).trans hAR
            replace hR := hR.mono lF
            replace hBs := hBs.trans (hb.mono hBs.size)
            have s := HSf.out _ hBs
            replace kA := (hb.block _ (blk_lt kA)).trans kA
            replace hr1 := hr1.up hb
            clear hb hAR lF hr1
            dsimp only [Cnt.cells]
            go_wp2_with fail
            clear hHeld
            refine hK.out _ _ s (fun hHeld => ?_)
            clear hK K s
            try simp only [Act.put, List.setIfInBounds_toArray, List.set_cons_zero, List.set_cons_succ]
            clear W
            rename World => W
            refine takeD (i := 8) (some 91) (v := ?_) rfl rfl (by kernel_rfl) (by kernel_rfl) (by kernel_rfl) (fun _ _ _ h => h) (by kernel_rfl) ?_ (by assumption) ?_
            rotate_left
            · intro wx hSw
              obtain ⟨hS1, hS2⟩ := hSw
              go_simp
              try (with_reducible rfl)
            try simp only [Act.put, List.setIfInBounds_toArray, List.set_cons_zero, List.set_cons_succ]
            refine takeD (i := 9) (some 100) (v := ?_) rfl rfl (by kernel_rfl) (by kernel_rfl) (by kernel_rfl) (fun _ _ _ h => h) (by kernel_rfl) ?_ (by assumption) ?_
            rotate_left
            · intro wx hSw
              obtain ⟨hS1, hS2⟩ := hSw
              go_simp
              try (with_reducible rfl)
            try simp only [Act.put, List.setIfInBounds_toArray, List.set_cons_zero, List.set_cons_succ]
            refine takeD (i := 10) (some 101) (v := ?_) rfl rfl (by kernel_rfl) (by kernel_rfl) (by kernel_rfl) (fun _ _ _ h => h) (by kernel_rfl) ?_ (by assumption) ?_
            rotate_left
            · intro wx hSw
              obtain ⟨hS1, hS2⟩ := hSw
              go_simp
              try (with_reducible rfl)
            try simp only [Act.put, List.setIfInBounds_toArray, List.set_cons_zero, List.set_cons_succ]
            have cz := blk_cell kA
            have fz := blk_free kA
            have hAns := Ans.of rfl hBs lA kA hR HAR.out
            have s := HSf.out _ hAns.b
            have HAns : Hid (Ans w14 (put3 W gA (.slice R.aU R.nU R.cU) (.int .i64 R.lo) (.slice R.aP R.nP R.cP)) (orZero (addN N port prio cells) ok) gA R) := hAns
            clear hAns hBs lA kA hR HAR
            unfold put3 at s
            refine wpAnyH_ready (rs := [12]) (by kernel_rfl) (by simp) ?_
            refine AllReadyH.cons rfl (fun K hK => ?_) AllReadyH.nil
            go_simp
            clear hHeld
            refine hK.out _ _ s (fun hHeld => ?_)
            clear hK K
            try simp only [Act.put, List.setIfInBounds_toArray, List.set_cons_zero, List.set_cons_succ]
            refine wpAnyH_ready (rs := [13]) (by kernel_rfl) (by simp) ?_
            refine AllReadyH.cons rfl (fun K hK => ?_) AllReadyH.nil
            go_simp
            clear hHeld
            refine hK.out _ _ s (fun hHeld => ?_)
            clear hK K
            try simp only [Act.put, List.setIfInBounds_toArray, List.set_cons_zero, List.set_cons_succ]
            refine wpAnyH_done (by kernel_rfl) ?_ _
            clear s hHeld cz fz
            go_wp2_with fail
            go_meet
            case rel => exact ⟨gA, R, rfl, rfl, HAns.out⟩
        · have hb := (Below.refl W.heap.size W).alloc (Nat.le_refl _) (.cells #[.slice none 0 0, .int .i64 0, .slice none 0 0] 34)
          have lA := hBs.size
          replace hBs := hBs.trans (hb.mono hBs.size)
          have s := HSf.out _ hBs
          have kA := blk_new W (.cells #[.slice none 0 0, .int .i64 0, .slice none 0 0] 34)
          go_simp
          clear hHeld
          refine hK.out _ _ s (fun hHeld => ?_)
          clear hK K s
          try simp only [Act.put, List.setIfInBounds_toArray, List.set_cons_zero, List.set_cons_succ]
          generalize hgA : W.heap.size = gA at *
          generalize W.alloc (.cells #[.slice none 0 0, .int .i64 0, .slice none 0 0] 34) = W' at *
          clear hb hgA
          clear W
          rename World => W
          refine wpAnyH_ready (rs := [1]) (by kernel_rfl) (by simp) ?_
          refine AllReadyH.cons rfl (fun K hK => ?_) AllReadyH.nil
          go_simp
          refine (toConfig_any C _).mono ?_
          rintro e W' ⟨rfl, hb⟩
          replace hBs := hBs.trans (hb.mono hBs.size)
          have s := HSf.out _ hBs
          replace kA := (hb.block _ (blk_lt kA)).trans kA
          clear hb
          unfold Cfg.cells
          go_wp2_with fail
          clear hHeld
          refine hK.out _ _ s (fun hHeld => ?_)
          clear hK K s
          try simp only [Act.put, List.setIfInBounds_toArray, List.set_cons_zero, List.set_cons_succ]
          clear W
          rename World => W
          refine wpAnyH_ready (rs := [3]) (by kernel_rfl) (by simp) ?_
          refine AllReadyH.cons rfl (fun K hK => ?_) AllReadyH.nil
          go_simp
          refine (toCounts_any N _ HS.out (HRd.out _ hBs)).mono ?_
          rintro e W' ⟨gU1, gP1, rfl, hj, hb⟩
          have hr1 := hj.rd
          replace hBs := hBs.trans (hb.mono hBs.size)
          have s := HSf.out _ hBs
          replace kA := (hb.block _ (blk_lt kA)).trans kA
          clear hb hj
          dsimp only [Cnt.copy, Cnt.cells]
          go_wp2_with fail
          clear hHeld
          refine hK.out _ _ s (fun hHeld => ?_)
          clear hK K s
          try simp only [Act.put, List.setIfInBounds_toArray, List.set_cons_zero, List.set_cons_succ]
          clear W
          rename World => W
          refine wpAnyH_ready (rs := [7]) (by kernel_rfl) (by simp) ?_
          refine AllReadyH.cons rfl (fun K hK => ?_) AllReadyH.nil
          go_simp
          have lF := hBs.size
          refine (iAdmitted_any C (N.copy gU1 gP1) port prio cells _ (copy_smallC HS.out).fit hr1 ok (HOc.out gU1 gP1)).mono ?_
          rintro e W' ⟨R, rfl, hR, hb, hAR⟩
          have HAR : Hid (AlikeC (orZero (addN N port prio cells) ok) R) := (HMc.out gU1 gP1).trans hAR
          replace hR := hR.mono lF
          replace hBs := hBs.trans (hb.mono hBs.size)
          have s := HSf.out _ hBs
          replace kA := (hb.block _ (blk_lt kA)).trans kA
          replace hr1 := hr1.up hb
          clear hb hAR lF hr1
          dsimp only [Cnt.cells]
          go_wp2_with fail
          clear hHeld
          refine hK.out _ _ s (fun hHeld => ?_)
          clear hK K s
          try simp only [Act.put, List.setIfInBounds_toArray, List.set_cons_zero, List.set_cons_succ]
          clear W
          rename World => W
          refine takeD (i := 8) (some 91) (v := ?_) rfl rfl (by kernel_rfl) (by kernel_rfl) (by kernel_rfl) (fun _ _ _ h => h) (by kernel_rfl) ?_ (by assumption) ?_
          rotate_left
          · intro wx hSw
            obtain ⟨hS1, hS2⟩ := hSw
            go_simp
            try (with_reducible rfl)
          try simp only [Act.put, List.setIfInBounds_toArray, List.set_cons_zero, List.set_cons_succ]
          refine takeD (i := 9) (some 100) (v := ?_) rfl rfl (by kernel_rfl) (by kernel_rfl) (by kernel_rfl) (fun _ _ _ h => h) (by kernel_rfl) ?_ (by assumption) ?_
          rotate_left
          · intro wx hSw
            obtain ⟨hS1, hS2⟩ := hSw
            go_simp
            try (with_reducible rfl)
          try simp only [Act.put, List.setIfInBounds_toArray, List.set_cons_zero, List.set_cons_succ]
          refine takeD (i := 10) (some 101) (v := ?_) rfl rfl (by kernel_rfl) (by kernel_rfl) (by kernel_rfl) (fun _ _ _ h => h) (by kernel_rfl) ?_ (by assumption) ?_
          rotate_left
          · intro wx hSw
            obtain ⟨hS1, hS2⟩ := hSw
            go_simp
            try (with_reducible rfl)
          try simp only [Act.put, List.setIfInBounds_toArray, List.set_cons_zero, List.set_cons_succ]
          have cz := blk_cell kA
          have fz := blk_free kA
          have hAns := Ans.of rfl hBs lA kA hR HAR.out
          have s := HSf.out _ hAns.b
          have HAns : Hid (Ans w14 (put3 W gA (.slice R.aU R.nU R.cU) (.int .i64 R.lo) (.slice R.aP R.nP R.cP)) (orZero (addN N port prio cells) ok) gA R) := hAns
          clear hAns hBs lA kA hR HAR
          unfold put3 at s
          refine wpAnyH_ready (rs := [12]) (by kernel_rfl) (by simp) ?_
          refine AllReadyH.cons rfl (fun K hK => ?_) AllReadyH.nil
          go_simp
          clear hHeld
          refine hK.out _ _ s (fun hHeld => ?_)
          clear hK K
          try simp only [Act.put, List.setIfInBounds_toArray, List.set_cons_zero, List.set_cons_succ]
          refine wpAnyH_ready (rs := [13]) (by kernel_rfl) (by simp) ?_
          refine AllReadyH.cons rfl (fun K hK => ?_) AllReadyH.nil
          go_simp
          clear hHeld
          refine hK.out _ _ s (fun hHeld => ?_)
          clear hK K
          try simp only [Act.put, List.setIfInBounds_toArray, List.set_cons_zero, List.set_cons_succ]
          refine wpAnyH_done (by kernel_rfl) ?_ _
          clear s hHeld cz fz
          go_wp2_with fail
          go_meet
          case rel => exact ⟨gA, R, rfl, rfl, HAns.out⟩
      case rest =>
        obtain ⟨gH, RH, rfl, rfl, hAns⟩ := hcut
        have hb := hAns.b
        have hB := next2 HB14.out hb
        have hW := HWe.out.up hb
        have kW := (hb.block _ (blk_lt HkWe.out)).trans HkWe.out
        have hM := HMe.out.up hb
        have kG := (hb.block _ (blk_lt HkGe.out)).trans HkGe.out
        have kH := hAns.k
        have hH := hAns.o
        have HHW : Hid (AlikeC RH RW) := hAns.a.symm.trans HAW.out
        have HHs : Hid RH.Small := hAns.a.small (orZero_small (addN_small HS.out))
        clear hAns hb HSf HRd HB14 HWe HkWe HMe HkGe
        have cW := blk_cell kW
        have cH := blk_cell kH
        unfold Cnt.cells at cW cH
        go_wp2_with fail
        refine (eqCounts_any RH RW _ HHs.out hH.rd hW.rd HHW.out).mono ?_
        rintro e w15 ⟨rfl, hb⟩
        clear cW cH hH kH hW kW
        replace hM := hM.up hb
        replace kG := (hb.block _ (blk_lt kG)).trans kG
        replace hB := next2 hB hb
        clear hb
        have cG := blk_cell kG
        unfold Cnt.cells at cG
        go_wp2_with fail
        refine (heldCounts_any RG 1 wa.heap.size _ hM HGs.out (by omega)).mono ?_
        rintro e w16 ⟨rfl, hb⟩
        rw [hKK]
        have B := under2 (next2 hB hb)
        clear hb hM kG cG hB
        go_wp2_with fail
        go_ret
        exact ⟨rfl, B⟩

set_option maxRecDepth 100000 in
theorem admitted_lifted (os : Os) (started : os.Started) (H : Type) (enc : TypeId × Value → H) :
    ReturnsInHanded {} Try.checked os 6 .any (Rows.fnExactAdmittedSpec.pre6 enc Try.prog Try.f6 Rows.fnExactAdmittedRow.domain false) (Rows.fnExactAdmittedSpec.post enc Try.prog Try.f6 false true false false) := by
  refine returnsInHanded_of_change (C := Try.checked) ownOkC started (by kernel_rfl) Try.func6
    (ChangeSpec.witness6 (enc := enc) (C := Try.checked) false ⟨#[], #[.agg #[.int .i64 0, .int .i64 0, .int .i64 0, .int .i64 0, .int .i64 0, .int .i64 0, .int .i64 0], .agg #[.slice none 0 0, .int .i64 0, .slice none 0 0], .int .i64 0, .int .i64 0, .int .i64 0], []⟩ 8 (by kernel_rfl) (by kernel_rfl) (by kernel_rfl) (by kernel_rfl)) ?_
  intro W base args ds gs before hval0 hW hcnd _
  have hval : ∀ (j : Nat) t v, Try.f6.params[j]? = some t → args[j]? = some v → Value.okWide Try.prog W .any base t v := hval0
  have hW' := hW
  obtain ⟨p, q, hA0, hV, rfl, hfz, hnd⟩ := hW
  have hA : DataW.TrodAll enc Try.prog W 0 (fun _ => true) true Try.f6.params.toList args.toList ds p := hA0
  rw [Try.params6] at hA hval
  obtain ⟨v0, vs0, d0, ds0, p0, q0, hargs, rfl, rfl, h0, r0⟩ := trodAll_cons hA
  obtain ⟨v1, vs1, d1, ds1, p1, q1, rfl, rfl, rfl, h1, r1⟩ := trodAll_cons r0
  obtain ⟨v2, vs2, d2, ds2, p2, q2, rfl, rfl, rfl, h2, r2⟩ := trodAll_cons r1
  obtain ⟨v3, vs3, d3, ds3, p3, q3, rfl, rfl, rfl, h3, r3⟩ := trodAll_cons r2
  obtain ⟨v4, vs4, d4, ds4, p4, q4, rfl, rfl, rfl, h4, r4⟩ := trodAll_cons r3
  obtain ⟨rfl, rfl, rfl⟩ := trodAll_nil r4
  obtain rfl : args = #[v0, v1, v2, v3, v4] := by cases args; simp_all
  obtain ⟨rfl, rfl⟩ := trodVars_none hV
  have k0 := h0
  have lt0 : ∀ x ∈ p0, x.block < W.heap.size := by obtain ⟨m, hm⟩ := k0; exact DataW.trod_lt m _ _ _ hm
  obtain ⟨C0, rfl⟩ := open_config (hval 0 23 v0 rfl rfl) h0
  have k1 := h1
  have lt1 : ∀ x ∈ p1, x.block < W.heap.size := by obtain ⟨m, hm⟩ := k1; exact DataW.trod_lt m _ _ _ hm
  obtain ⟨N1, rfl, f1, rr1⟩ := open_counts (hval 1 31 v1 rfl rfl) h1
  obtain ⟨a2, rfl, rfl, rfl, w2⟩ := open_int Try.underlying2 (hval 2 2 v2 rfl rfl) h2
  obtain ⟨a3, rfl, rfl, rfl, w3⟩ := open_int Try.underlying2 (hval 3 2 v3 rfl rfl) h3
  obtain ⟨a4, rfl, rfl, rfl, w4⟩ := open_int Try.underlying2 (hval 4 2 v4 rfl rfl) h4
  clear hA0 hval0
  refine (admitted_law C0 N1 a2 a3 a4 W f1 rr1).mono fun e W' ⟨he, bel⟩ => ?_
  subst he
  exact ⟨_, rfl, _, _, _, [], _, [], hW', trodAll_mk1 (shut_bool Try.underlying4 _), (trodAll_cons_mk (Below.trod laidOutC (by kernel_rfl) (of_decide_eq_true (by kernel_rfl)) k0 bel lt0) (trodAll_cons_mk (Below.trod laidOutC (by kernel_rfl) (of_decide_eq_true (by kernel_rfl)) k1 bel lt1) (trodAll_cons_mk (shut_int Try.underlying2 w2) (trodAll_cons_mk (shut_int Try.underlying2 w3) (trodAll_cons_mk (shut_int Try.underlying2 w4) trodAll_mk0))))), rfl, bel.frame _, fun h => by cases h⟩

theorem admitted_holds : Rows.FnExactAdmittedSaid :=
  OpenClaim.holds_of_wide 6 Try.f6 rfl rfl rfl rfl rfl rfl rfl ⟨rfl, rfl, rfl, rfl, rfl⟩ rfl rfl rfl rfl rfl (by kernel_rfl) Try.func6 (by kernel_rfl)
    (of_decide_eq_true (by kernel_rfl)) (by unfold Func.isWrapper; first | (rw [if_pos (by decide +kernel)]; kernel_rfl) | (rw [if_neg (by decide +kernel)]; exact ⟨rfl, rfl⟩))
    (fun os started H enc _ => admitted_lifted os started H enc)
#print axioms admitted_holds
end Go.Proofs.Ytalbkpofiobmiaa
