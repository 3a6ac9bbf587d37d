/- At every configuration and counts Signals answers as the specification does, writes into no argument, and its answer owns its memory: the law FnExactSignals returns true for every argument, under no condition. -/
import Derived.Test.YtalbkpofiobmiaaRows
import Derived.Test.YtalbkpofiobmiaaCnSigL
import Derived.Test.YtalbkpofiobmiaaLiftC
import Derived.ProofKit
import Derived.Deep.Cut
import Derived.Deep.DeepCutAuto
import Derived.OpenShut
import Derived.ShutString
import Derived.ChangeOld
import Derived.Below
namespace Go.Proofs.Ytalbkpofiobmiaa
open Go.ChangeShapes Go.WideShapes Go.ChangeAt Go.RowKit
set_option linter.unusedVariables false

set_option maxRecDepth 100000 in
set_option maxHeartbeats 20000000 in
theorem signals_law (C : Cfg) (N : Cnt) (w : World) (hf : N.Fit) (h : RdCnt w N) :
    Calls Try.prog 8 #[.agg C.cells, .agg N.cells] w fun e w' => e = .returned (.bool true) ∧ Below w.heap.size w w' := by
  obtain ⟨ok, hok⟩ := ok_decC (Cnt.Ok C N)
  have HO : Hid (ok = true ↔ Cnt.Ok C N) := hok
  obtain ⟨nT, hnT⟩ : ∃ nT, nT = (toldC C N ok).length := ⟨_, rfl⟩
  obtain ⟨f, hfT⟩ : ∃ f : Nat → Int, f = fun i => (toldC C N ok).getD i 0 := ⟨_, rfl⟩
  have HnT : Hid (nT = (toldC C N ok).length) := hnT
  have HfT : Hid (f = fun i => (toldC C N ok).getD i 0) := hfT
  clear hnT hfT
  have HR : Hid (RdCnt w N) := h
  have HF : Hid N.Fit := hf
  have HB0 : Hid (Below (w.heap.size + 2) ((w.alloc (.cells #[.int .i64 C.p, .int .i64 C.c, .int .i64 C.xo, .int .i64 C.xn, .int .i64 C.hd, .int .i64 C.lo, .int .i64 C.dl] 23)).alloc (.cells #[.slice N.aU N.nU N.cU, .int .i64 N.lo, .slice N.aP N.nP N.cP] 31)) ((w.alloc (.cells #[.int .i64 C.p, .int .i64 C.c, .int .i64 C.xo, .int .i64 C.xn, .int .i64 C.hd, .int .i64 C.lo, .int .i64 C.dl] 23)).alloc (.cells #[.slice N.aU N.nU N.cU, .int .i64 N.lo, .slice N.aP N.nP N.cP] 31))) := Below.refl _ _
  clear h hf hok
  unfold Cfg.cells
  rw [show N.cells = #[.slice N.aU N.nU N.cU, .int .i64 N.lo, .slice N.aP N.nP N.cP] from rfl]
  go_enter Try.func8, Try.ntmps8
  go_wp2_with fail
  refine (szCounts_any N _ HF.out).mono ?_
  rintro e w1 ⟨⟨r, rfl, hr⟩, hb⟩
  have hB := next2 HB0.out hb
  clear hb
  rcases hr with rfl | ⟨r0, hs⟩
  · have B := under2 hB
    go_wp2_with fail
    go_ret
    exact ⟨rfl, B⟩
  have HS : Hid N.Small := hs
  have hnl : nT ≤ 1048576 := by rw [HnT.out]; exact toldC_len hs
  clear hs
  have hr0 : ¬ r < 0 := by omega
  have HB1 : Hid (Below (w.heap.size + 2) ((w.alloc (.cells #[.int .i64 C.p, .int .i64 C.c, .int .i64 C.xo, .int .i64 C.xn, .int .i64 C.hd, .int .i64 C.lo, .int .i64 C.dl] 23)).alloc (.cells #[.slice N.aU N.nU N.cU, .int .i64 N.lo, .slice N.aP N.nP N.cP] 31)) w1) := hB
  have HSf : Hid (∀ w', Below w1.heap.size w1 w' → (∀ o, w'.cell? ⟨w.heap.size, o, none⟩ = (#[.int .i64 C.p, .int .i64 C.c, .int .i64 C.xo, .int .i64 C.xn, .int .i64 C.hd, .int .i64 C.lo, .int .i64 C.dl] : Array Value)[o]?) ∧ (∀ o, w'.cell? ⟨w.heap.size + 1, o, none⟩ = (#[.slice N.aU N.nU N.cU, .int .i64 N.lo, .slice N.aP N.nP N.cP] : Array Value)[o]?)) := fun w' hw => boxed2 (next2 HB1.out hw)
  have HRd : Hid (∀ W, Below w1.heap.size w1 W → RdCnt W N) := fun W hw => HR.out.up (under2 (next2 HB1.out hw))
  clear hB
  go_wp2_with fail
  go_cut [6, 7] (fun s6 s7 wc => ∃ gA R aT cT, s6 = .pointer (some ⟨gA, 0, none⟩) ∧ s7 = .slice aT nT cT ∧ AnsS w1 wc (sigM C N ok) nT f gA R aT)
  case first =>
    have hBs : Below w1.heap.size w1 w1.drew := (Below.refl _ _).drew
    have s := HSf.out _ hBs
    refine wp_region_held_drew (S := fun w' => (∀ o, w'.cell? ⟨w.heap.size, o, none⟩ = (#[.int .i64 C.p, .int .i64 C.c, .int .i64 C.xo, .int .i64 C.xn, .int .i64 C.hd, .int .i64 C.lo, .int .i64 C.dl] : Array Value)[o]?) ∧ (∀ o, w'.cell? ⟨w.heap.size + 1, o, none⟩ = (#[.slice N.aU N.nU N.cU, .int .i64 N.lo, .slice N.aP N.nP N.cP] : Array Value)[o]?)) (by kernel_rfl) s (fun hHeld => ?_)
    clear s
    generalize w1.drew = W at *
    refine takeD (i := 0) (some 22) (v := ?_) rfl rfl (by kernel_rfl) (by kernel_rfl) (by kernel_rfl) (fun _ _ _ h => h) (by kernel_rfl) ?_ (by assumption) ?_
    rotate_left
    · intro wx hSw
      obtain ⟨hS1, hS2⟩ := hSw
      go_simp
      try (with_reducible rfl)
    try simp only [Act.put, List.setIfInBounds_toArray, List.set_cons_zero, List.set_cons_succ]
    refine takeD (i := 2) (some 24) (v := ?_) rfl rfl (by kernel_rfl) (by kernel_rfl) (by kernel_rfl) (fun _ _ _ h => h) (by kernel_rfl) ?_ (by assumption) ?_
    rotate_left
    · intro wx hSw
      obtain ⟨hS1, hS2⟩ := hSw
      go_simp
      try (with_reducible rfl)
    try simp only [Act.put, List.setIfInBounds_toArray, List.set_cons_zero, List.set_cons_succ]
    refine wpAnyH_ready (rs := [1, 8]) (by kernel_rfl) (by simp) ?_
    refine AllReadyH.cons rfl (fun K hK => ?_) (AllReadyH.cons rfl (fun K hK => ?_) AllReadyH.nil)
    · go_simp
      refine (toConfig_any C _).mono ?_
      rintro e W' ⟨rfl, hb⟩
      replace hBs := hBs.trans (hb.mono hBs.size)
      have s := HSf.out _ hBs
      clear hb
      unfold Cfg.cells
      go_wp2_with fail
      clear hHeld
      refine hK.out _ _ s (fun hHeld => ?_)
      clear hK K s
      try simp only [Act.put, List.setIfInBounds_toArray, List.set_cons_zero, List.set_cons_succ]
      clear W
      rename World => W
      refine wpAnyH_ready (rs := [3, 8]) (by kernel_rfl) (by simp) ?_
      refine AllReadyH.cons rfl (fun K hK => ?_) (AllReadyH.cons rfl (fun K hK => ?_) AllReadyH.nil)
      · go_simp
        refine (toCounts_any N _ HS.out (HRd.out _ hBs)).mono ?_
        rintro e W' ⟨gU1, gP1, rfl, hj, hb⟩
        have hr1 := hj.rd
        replace hBs := hBs.trans (hb.mono hBs.size)
        have s := HSf.out _ hBs
        clear hb hj
        dsimp only [Cnt.copy, Cnt.cells]
        go_wp2_with fail
        clear hHeld
        refine hK.out _ _ s (fun hHeld => ?_)
        clear hK K s
        try simp only [Act.put, List.setIfInBounds_toArray, List.set_cons_zero, List.set_cons_succ]
        clear W
        rename World => W
        refine wpAnyH_ready (rs := [4, 8]) (by kernel_rfl) (by simp) ?_
        refine AllReadyH.cons rfl (fun K hK => ?_) (AllReadyH.cons rfl (fun K hK => ?_) AllReadyH.nil)
        · go_simp
          have lF := hBs.size
          refine (sSig_any C N gU1 gP1 nT f _ HS.out hr1 ok HO.out HnT.out HfT.out).mono ?_
          rintro e W' ⟨R, aT, cT, rfl, hSA⟩
          have hb := hSA.b
          have HAR : Hid (AlikeC (sigM C N ok) R) := hSA.a
          have HAp : Hid (∀ x ∈ blkV aT nT, x ∉ rowsT R) := hSA.ap
          have hR := hSA.o.mono lF
          have hVt := hSA.t.mono lF
          replace hBs := hBs.trans (hb.mono hBs.size)
          have s := HSf.out _ hBs
          replace hr1 := hr1.up hb
          clear hb hSA lF hr1
          dsimp only [Cnt.cells]
          go_wp2_with fail
          clear hHeld
          refine hK.out _ _ s (fun hHeld => ?_)
          clear hK K s
          try simp only [Act.put, List.setIfInBounds_toArray, List.set_cons_zero, List.set_cons_succ]
          clear W
          rename World => W
          refine takeD (i := 5) (some 21) (v := ?_) rfl rfl (by kernel_rfl) (by kernel_rfl) (by kernel_rfl) (fun _ _ _ h => h) (by kernel_rfl) ?_ (by assumption) ?_
          rotate_left
          · intro wx hSw
            obtain ⟨hS1, hS2⟩ := hSw
            go_simp
            try (with_reducible rfl)
          try simp only [Act.put, List.setIfInBounds_toArray, List.set_cons_zero, List.set_cons_succ]
          refine takeD (i := 6) (some 27) (v := ?_) rfl rfl (by kernel_rfl) (by kernel_rfl) (by kernel_rfl) (fun _ _ _ h => h) (by kernel_rfl) ?_ (by assumption) ?_
          rotate_left
          · intro wx hSw
            obtain ⟨hS1, hS2⟩ := hSw
            go_simp
            try (with_reducible rfl)
          try simp only [Act.put, List.setIfInBounds_toArray, List.set_cons_zero, List.set_cons_succ]
          refine takeD (i := 7) (some 28) (v := ?_) rfl rfl (by kernel_rfl) (by kernel_rfl) (by kernel_rfl) (fun _ _ _ h => h) (by kernel_rfl) ?_ (by assumption) ?_
          rotate_left
          · intro wx hSw
            obtain ⟨hS1, hS2⟩ := hSw
            go_simp
            try (with_reducible rfl)
          try simp only [Act.put, List.setIfInBounds_toArray, List.set_cons_zero, List.set_cons_succ]
          refine wpAnyH_ready (rs := [8]) (by kernel_rfl) (by simp) ?_
          refine AllReadyH.cons rfl (fun K hK => ?_) AllReadyH.nil
          have hb := (Below.refl W.heap.size W).alloc (Nat.le_refl _) (.cells #[.slice none 0 0, .int .i64 0, .slice none 0 0] 34)
          have lA := hBs.size
          replace hBs := hBs.trans (hb.mono hBs.size)
          have s := HSf.out _ hBs
          replace hR := hR.up hb
          replace hVt := hVt.up hb
          have kA := blk_new W (.cells #[.slice none 0 0, .int .i64 0, .slice none 0 0] 34)
          go_simp
          clear hHeld
          refine hK.out _ _ s (fun hHeld => ?_)
          clear hK K s
          try simp only [Act.put, List.setIfInBounds_toArray, List.set_cons_zero, List.set_cons_succ]
          generalize hgA : W.heap.size = gA at *
          generalize W.alloc (.cells #[.slice none 0 0, .int .i64 0, .slice none 0 0] 34) = W' at *
          clear hb hgA
          clear W
          rename World => W
          have cz := blk_cell kA
          have fz := blk_free kA
          have hAns := AnsS.of rfl hBs lA kA hR HAR.out hVt HAp.out
          have s := HSf.out _ hAns.b
          have HAns : Hid (AnsS w1 (put3 W gA (.slice R.aU R.nU R.cU) (.int .i64 R.lo) (.slice R.aP R.nP R.cP)) (sigM C N ok) nT f gA R aT) := hAns
          clear hAns hBs lA kA hR HAR hVt HAp
          unfold put3 at s
          refine wpAnyH_ready (rs := [9]) (by kernel_rfl) (by simp) ?_
          refine AllReadyH.cons rfl (fun K hK => ?_) AllReadyH.nil
          go_simp
          clear hHeld
          refine hK.out _ _ s (fun hHeld => ?_)
          clear hK K
          try simp only [Act.put, List.setIfInBounds_toArray, List.set_cons_zero, List.set_cons_succ]
          refine wpAnyH_ready (rs := [10]) (by kernel_rfl) (by simp) ?_
          refine AllReadyH.cons rfl (fun K hK => ?_) AllReadyH.nil
          go_simp
          clear hHeld
          refine hK.out _ _ s (fun hHeld => ?_)
          clear hK K
          try simp only [Act.put, List.setIfInBounds_toArray, List.set_cons_zero, List.set_cons_succ]
          refine wpAnyH_done (by kernel_rfl) ?_ _
          clear s hHeld cz fz
          go_wp2_with fail
          go_meet
          case rel => exact ⟨gA, R, aT, cT, rfl, rfl, HAns.out⟩
        · have hb := (Below.refl W.heap.size W).alloc (Nat.le_refl _) (.cells #[.slice none 0 0, .int .i64 0, .slice none 0 0] 34)
          have lA := hBs.size
          replace hBs := hBs.trans (hb.mono hBs.size)
          have s := HSf.out _ hBs
          replace hr1 := hr1.up hb
          have kA := blk_new W (.cells #[.slice none 0 0, .int .i64 0, .slice none 0 0] 34)
          go_simp
          clear hHeld
          refine hK.out _ _ s (fun hHeld => ?_)
          clear hK K s
          try simp only [Act.put, List.setIfInBounds_toArray, List.set_cons_zero, List.set_cons_succ]
          generalize hgA : W.heap.size = gA at *
          generalize W.alloc (.cells #[.slice none 0 0, .int .i64 0, .slice none 0 0] 34) = W' at *
          clear hb hgA
          clear W
          rename World => W
          refine wpAnyH_ready (rs := [4]) (by kernel_rfl) (by simp) ?_
          refine AllReadyH.cons rfl (fun K hK => ?_) AllReadyH.nil
          go_simp
          have lF := hBs.size
          refine (sSig_any C N gU1 gP1 nT f _ HS.out hr1 ok HO.out HnT.out HfT.out).mono ?_
          rintro e W' ⟨R, aT, cT, rfl, hSA⟩
          have hb := hSA.b
          have HAR : Hid (AlikeC (sigM C N ok) R) := hSA.a
          have HAp : Hid (∀ x ∈ blkV aT nT, x ∉ rowsT R) := hSA.ap
          have hR := hSA.o.mono lF
          have hVt := hSA.t.mono lF
          replace hBs := hBs.trans (hb.mono hBs.size)
          have s := HSf.out _ hBs
          replace kA := (hb.block _ (blk_lt kA)).trans kA
          replace hr1 := hr1.up hb
          clear hb hSA lF hr1
          dsimp only [Cnt.cells]
          go_wp2_with fail
          clear hHeld
          refine hK.out _ _ s (fun hHeld => ?_)
          clear hK K s
          try simp only [Act.put, List.setIfInBounds_toArray, List.set_cons_zero, List.set_cons_succ]
          clear W
          rename World => W
          refine takeD (i := 5) (some 21) (v := ?_) rfl rfl (by kernel_rfl) (by kernel_rfl) (by kernel_rfl) (fun _ _ _ h => h) (by kernel_rfl) ?_ (by assumption) ?_
          rotate_left
          · intro wx hSw
            obtain ⟨hS1, hS2⟩ := hSw
            go_simp
            try (with_reducible rfl)
          try simp only [Act.put, List.setIfInBounds_toArray, List.set_cons_zero, List.set_cons_succ]
          refine takeD (i := 6) (some 27) (v := ?_) rfl rfl (by kernel_rfl) (by kernel_rfl) (by kernel_rfl) (fun _ _ _ h => h) (by kernel_rfl) ?_ (by assumption) ?_
          rotate_left
          · intro wx hSw
            obtain ⟨hS1, hS2⟩ := hSw
            go_simp
            try (with_reducible rfl)
          try simp only [Act.put, List.setIfInBounds_toArray, List.set_cons_zero, List.set_cons_succ]
          refine takeD (i := 7) (some 28) (v := ?_) rfl rfl (by kernel_rfl) (by kernel_rfl) (by kernel_rfl) (fun _ _ _ h => h) (by kernel_rfl) ?_ (by assumption) ?_
          rotate_left
          · intro wx hSw
            obtain ⟨hS1, hS2⟩ := hSw
            go_simp
            try (with_reducible rfl)
          try simp only [Act.put, List.setIfInBounds_toArray, List.set_cons_zero, List.set_cons_succ]
          have cz := blk_cell kA
          have fz := blk_free kA
          have hAns := AnsS.of rfl hBs lA kA hR HAR.out hVt HAp.out
          have s := HSf.out _ hAns.b
          have HAns : Hid (AnsS w1 (put3 W gA (.slice R.aU R.nU R.cU) (.int .i64 R.lo) (.slice R.aP R.nP R.cP)) (sigM C N ok) nT f gA R aT) := hAns
          clear hAns hBs lA kA hR HAR hVt HAp
          unfold put3 at s
          refine wpAnyH_ready (rs := [9]) (by kernel_rfl) (by simp) ?_
          refine AllReadyH.cons rfl (fun K hK => ?_) AllReadyH.nil
          go_simp
          clear hHeld
          refine hK.out _ _ s (fun hHeld => ?_)
          clear hK K
          try simp only [Act.put, List.setIfInBounds_toArray, List.set_cons_zero, List.set_cons_succ]
          refine wpAnyH_ready (rs := [10]) (by kernel_rfl) (by simp) ?_
          refine AllReadyH.cons rfl (fun K hK => ?_) AllReadyH.nil
          go_simp
          clear hHeld
          refine hK.out _ _ s (fun hHeld => ?_)
          clear hK K
          try simp only [Act.put, List.setIfInBounds_toArray, List.set_cons_zero, List.set_cons_succ]
          refine wpAnyH_done (by kernel_rfl) ?_ _
          clear s hHeld cz fz
          go_wp2_with fail
          go_meet
          case rel => exact ⟨gA, R, aT, cT, rfl, rfl, HAns.out⟩
      · have hb := (Below.refl W.heap.size W).alloc (Nat.le_refl _) (.cells #[.slice none 0 0, .int .i64 0, .slice none 0 0] 34)
        have lA := hBs.size
        replace hBs := hBs.trans (hb.mono hBs.size)
        have s := HSf.out _ hBs
        have kA := blk_new W (.cells #[.slice none 0 0, .int .i64 0, .slice none 0 0] 34)
        go_simp
        clear hHeld
        refine hK.out _ _ s (fun hHeld => ?_)
        clear hK K s
        try simp only [Act.put, List.setIfInBounds_toArray, List.set_cons_zero, List.set_cons_succ]
        generalize hgA : W.heap.size = gA at *
        generalize W.alloc (.cells #[.slice none 0 0, .int .i64 0, .slice none 0 0] 34) = W' at *
        clear hb hgA
        clear W
        rename World => W
        refine wpAnyH_ready (rs := [3]) (by kernel_rfl) (by simp) ?_
        refine AllReadyH.cons rfl (fun K hK => ?_) AllReadyH.nil
        go_simp
        refine (toCounts_any N _ HS.out (HRd.out _ hBs)).mono ?_
        rintro e W' ⟨gU1, gP1, rfl, hj, hb⟩
        have hr1 := hj.rd
        replace hBs := hBs.trans (hb.mono hBs.size)
        have s := HSf.out _ hBs
        replace kA := (hb.block _ (blk_lt kA)).trans kA
        clear hb hj
        dsimp only [Cnt.copy, Cnt.cells]
        go_wp2_with fail
        clear hHeld
        refine hK.out _ _ s (fun hHeld => ?_)
        clear hK K s
        try simp only [Act.put, List.setIfInBounds_toArray, List.set_cons_zero, List.set_cons_succ]
        clear W
        rename World => W
        refine wpAnyH_ready (rs := [4]) (by kernel_rfl) (by simp) ?_
        refine AllReadyH.cons rfl (fun K hK => ?_) AllReadyH.nil
        go_simp
        have lF := hBs.size
        refine (sSig_any C N gU1 gP1 nT f _ HS.out hr1 ok HO.out HnT.out HfT.out).mono ?_
        rintro e W' ⟨R, aT, cT, rfl, hSA⟩
        have hb := hSA.b
        have HAR : Hid (AlikeC (sigM C N ok) R) := hSA.a
        have HAp : Hid (∀ x ∈ blkV aT nT, x ∉ rowsT R) := hSA.ap
        have hR := hSA.o.mono lF
        have hVt := hSA.t.mono lF
        replace hBs := hBs.trans (hb.mono hBs.size)
        have s := HSf.out _ hBs
        replace kA := (hb.block _ (blk_lt kA)).trans kA
        replace hr1 := hr1.up hb
        clear hb hSA lF hr1
        dsimp only [Cnt.cells]
        go_wp2_with fail
        clear hHeld
        refine hK.out _ _ s (fun hHeld => ?_)
        clear hK K s
        try simp only [Act.put, List.setIfInBounds_toArray, List.set_cons_zero, List.set_cons_succ]
        clear W
        rename World => W
        refine takeD (i := 5) (some 21) (v := ?_) rfl rfl (by kernel_rfl) (by kernel_rfl) (by kernel_rfl) (fun _ _ _ h => h) (by kernel_rfl) ?_ (by assumption) ?_
        rotate_left
        · intro wx hSw
          obtain ⟨hS1, hS2⟩ := hSw
          go_simp
          try (with_reducible rfl)
        try simp only [Act.put, List.setIfInBounds_toArray, List.set_cons_zero, List.set_cons_succ]
        refine takeD (i := 6) (some 27) (v := ?_) rfl rfl (by kernel_rfl) (by kernel_rfl) (by kernel_rfl) (fun _ _ _ h => h) (by kernel_rfl) ?_ (by assumption) ?_
        rotate_left
        · intro wx hSw
          obtain ⟨hS1, hS2⟩ := hSw
          go_simp
          try (with_reducible rfl)
        try simp only [Act.put, List.setIfInBounds_toArray, List.set_cons_zero, List.set_cons_succ]
        refine takeD (i := 7) (some 28) (v := ?_) rfl rfl (by kernel_rfl) (by kernel_rfl) (by kernel_rfl) (fun _ _ _ h => h) (by kernel_rfl) ?_ (by assumption) ?_
        rotate_left
        · intro wx hSw
          obtain ⟨hS1, hS2⟩ := hSw
          go_simp
          try (with_reducible rfl)
        try simp only [Act.put, List.setIfInBounds_toArray, List.set_cons_zero, List.set_cons_succ]
        have cz := blk_cell kA
        have fz := blk_free kA
        have hAns := AnsS.of rfl hBs lA kA hR HAR.out hVt HAp.out
        have s := HSf.out _ hAns.b
        have HAns : Hid (AnsS w1 (put3 W gA (.slice R.aU R.nU R.cU) (.int .i64 R.lo) (.slice R.aP R.nP R.cP)) (sigM C N ok) nT f gA R aT) := hAns
        clear hAns hBs lA kA hR HAR hVt HAp
        unfold put3 at s
        refine wpAnyH_ready (rs := [9]) (by kernel_rfl) (by simp) ?_
        refine AllReadyH.cons rfl (fun K hK => ?_) AllReadyH.nil
        go_simp
        clear hHeld
        refine hK.out _ _ s (fun hHeld => ?_)
        clear hK K
        try simp only [Act.put, List.setIfInBounds_toArray, List.set_cons_zero, List.set_cons_succ]
        refine wpAnyH_ready (rs := [10]) (by kernel_rfl) (by simp) ?_
        refine AllReadyH.cons rfl (fun K hK => ?_) AllReadyH.nil
        go_simp
        clear hHeld
        refine hK.out _ _ s (fun hHeld => ?_)
        clear hK K
        try simp only [Act.put, List.setIfInBounds_toArray, List.set_cons_zero, List.set_cons_succ]
        refine wpAnyH_done (by kernel_rfl) ?_ _
        clear s hHeld cz fz
        go_wp2_with fail
        go_meet
        case rel => exact ⟨gA, R, aT, cT, rfl, rfl, HAns.out⟩
    · have hb := (Below.refl W.heap.size W).alloc (Nat.le_refl _) (.cells #[.slice none 0 0, .int .i64 0, .slice none 0 0] 34)
      have lA := hBs.size
      replace hBs := hBs.trans (hb.mono hBs.size)
      have s := HSf.out _ hBs
      have kA := blk_new W (.cells #[.slice none 0 0, .int .i64 0, .slice none 0 0] 34)
      go_simp
      clear hHeld
      refine hK.out _ _ s (fun hHeld => ?_)
      clear hK K s
      try simp only [Act.put, List.setIfInBounds_toArray, List.set_cons_zero, List.set_cons_succ]
      generalize hgA : W.heap.size = gA at *
      generalize W.alloc (.cells #[.slice none 0 0, .int .i64 0, .slice none 0 0] 34) = W' at *
      clear hb hgA
      clear W
      rename World => W
      refine wpAnyH_ready (rs := [1]) (by kernel_rfl) (by simp) ?_
      refine AllReadyH.cons rfl (fun K hK => ?_) AllReadyH.nil
      go_simp
      refine (toConfig_any C _).mono ?_
      rintro e W' ⟨rfl, hb⟩
      replace hBs := hBs.trans (hb.mono hBs.size)
      have s := HSf.out _ hBs
      replace kA := (hb.block _ (blk_lt kA)).trans kA
      clear hb
      unfold Cfg.cells
      go_wp2_with fail
      clear hHeld
      refine hK.out _ _ s (fun hHeld => ?_)
      clear hK K s
      try simp only [Act.put, List.setIfInBounds_toArray, List.set_cons_zero, List.set_cons_succ]
      clear W
      rename World => W
      refine wpAnyH_ready (rs := [3]) (by kernel_rfl) (by simp) ?_
      refine AllReadyH.cons rfl (fun K hK => ?_) AllReadyH.nil
      go_simp
      refine (toCounts_any N _ HS.out (HRd.out _ hBs)).mono ?_
      rintro e W' ⟨gU1, gP1, rfl, hj, hb⟩
      have hr1 := hj.rd
      replace hBs := hBs.trans (hb.mono hBs.size)
      have s := HSf.out _ hBs
      replace kA := (hb.block _ (blk_lt kA)).trans kA
      clear hb hj
      dsimp only [Cnt.copy, Cnt.cells]
      go_wp2_with fail
      clear hHeld
      refine hK.out _ _ s (fun hHeld => ?_)
      clear hK K s
      try simp only [Act.put, List.setIfInBounds_toArray, List.set_cons_zero, List.set_cons_succ]
      clear W
      rename World => W
      refine wpAnyH_ready (rs := [4]) (by kernel_rfl) (by simp) ?_
      refine AllReadyH.cons rfl (fun K hK => ?_) AllReadyH.nil
      go_simp
      have lF := hBs.size
      refine (sSig_any C N gU1 gP1 nT f _ HS.out hr1 ok HO.out HnT.out HfT.out).mono ?_
      rintro e W' ⟨R, aT, cT, rfl, hSA⟩
      have hb := hSA.b
      have HAR : Hid (AlikeC (sigM C N ok) R) := hSA.a
      have HAp : Hid (∀ x ∈ blkV aT nT, x ∉ rowsT R) := hSA.ap
      have hR := hSA.o.mono lF
      have hVt := hSA.t.mono lF
      replace hBs := hBs.trans (hb.mono hBs.size)
      have s := HSf.out _ hBs
      replace kA := (hb.block _ (blk_lt kA)).trans kA
      replace hr1 := hr1.up hb
      clear hb hSA lF hr1
      dsimp only [Cnt.cells]
      go_wp2_with fail
      clear hHeld
      refine hK.out _ _ s (fun hHeld => ?_)
      clear hK K s
      try simp only [Act.put, List.setIfInBounds_toArray, List.set_cons_zero, List.set_cons_succ]
      clear W
      rename World => W
      refine takeD (i := 5) (some 21) (v := ?_) rfl rfl (by kernel_rfl) (by kernel_rfl) (by kernel_rfl) (fun _ _ _ h => h) (by kernel_rfl) ?_ (by assumption) ?_
      rotate_left
      · intro wx hSw
        obtain ⟨hS1, hS2⟩ := hSw
        go_simp
        try (with_reducible rfl)
      try simp only [Act.put, List.setIfInBounds_toArray, List.set_cons_zero, List.set_cons_succ]
      refine takeD (i := 6) (some 27) (v := ?_) rfl rfl (by kernel_rfl) (by kernel_rfl) (by kernel_rfl) (fun _ _ _ h => h) (by kernel_rfl) ?_ (by assumption) ?_
      rotate_left
      · intro wx hSw
        obtain ⟨hS1, hS2⟩ := hSw
        go_simp
        try (with_reducible rfl)
      try simp only [Act.put, List.setIfInBounds_toArray, List.set_cons_zero, List.set_cons_succ]
      refine takeD (i := 7) (some 28) (v := ?_) rfl rfl (by kernel_rfl) (by kernel_rfl) (by kernel_rfl) (fun _ _ _ h => h) (by kernel_rfl) ?_ (by assumption) ?_
      rotate_left
      · intro wx hSw
        obtain ⟨hS1, hS2⟩ := hSw
        go_simp
        try (with_reducible rfl)
      try simp only [Act.put, List.setIfInBounds_toArray, List.set_cons_zero, List.set_cons_succ]
      have cz := blk_cell kA
      have fz := blk_free kA
      have hAns := AnsS.of rfl hBs lA kA hR HAR.out hVt HAp.out
      have s := HSf.out _ hAns.b
      have HAns : Hid (AnsS w1 (put3 W gA (.slice R.aU R.nU R.cU) (.int .i64 R.lo) (.slice R.aP R.nP R.cP)) (sigM C N ok) nT f gA R aT) := hAns
      clear hAns hBs lA kA hR HAR hVt HAp
      unfold put3 at s
      refine wpAnyH_ready (rs := [9]) (by kernel_rfl) (by simp) ?_
      refine AllReadyH.cons rfl (fun K hK => ?_) AllReadyH.nil
      go_simp
      clear hHeld
      refine hK.out _ _ s (fun hHeld => ?_)
      clear hK K
      try simp only [Act.put, List.setIfInBounds_toArray, List.set_cons_zero, List.set_cons_succ]
      refine wpAnyH_ready (rs := [10]) (by kernel_rfl) (by simp) ?_
      refine AllReadyH.cons rfl (fun K hK => ?_) AllReadyH.nil
      go_simp
      clear hHeld
      refine hK.out _ _ s (fun hHeld => ?_)
      clear hK K
      try simp only [Act.put, List.setIfInBounds_toArray, List.set_cons_zero, List.set_cons_succ]
      refine wpAnyH_done (by kernel_rfl) ?_ _
      clear s hHeld cz fz
      go_wp2_with fail
      go_meet
      case rel => exact ⟨gA, R, aT, cT, rfl, rfl, HAns.out⟩
  case rest =>
    obtain ⟨gW, RW, aW, dW, rfl, rfl, hAns⟩ := hcut
    have hB := next2 HB1.out hAns.b
    have kW := hAns.k
    have hW := hAns.o
    have HAW : Hid (AlikeC (sigM C N ok) RW) := hAns.a
    have HWs : Hid RW.Small := HAW.out.small (sigM_small HS.out)
    have HW0 : Hid (OwnCn wc w1.heap.size RW) := hAns.o
    have hTW := hAns.t
    have HTW0 : Hid (VT 2 wc w1.heap.size aW nT (fun i => .int .i64 (f i))) := hAns.t
    have HgW : Hid (gW < wc.heap.size) := blk_lt hAns.k
    have H15 : Hid (w.heap.size + 2 ≤ wc.heap.size) := upper2 hB
    clear hAns HSf HRd HB1
    generalize wc = w5 at *
    have cb := (boxed2 hB).1
    have cn := (boxed2 hB).2
    go_wp2_with fail
    refine (toCounts_any N _ HS.out (HR.out.up (under2 hB))).mono ?_
    rintro e wx ⟨gU, gP, rfl, hX, hb⟩
    have HX0 : Hid (OwnCn wx w5.heap.size (N.copy gU gP)) := hX
    have H5x : Hid (w5.heap.size ≤ wx.heap.size) := hb.size
    replace hW := hW.up hb
    replace kW := (hb.block _ (blk_lt kW)).trans kW
    replace hTW := hTW.up hb
    replace hB := next2 hB hb
    replace cb := (boxed2 hB).1
    replace cn := (boxed2 hB).2
    clear hb
    have hA := (Below.refl wx.heap.size wx).alloc (Nat.le_refl _) (.cells #[.slice (some ⟨gU, 0, none⟩) N.nU N.nU, .int .i64 N.lo, .slice (some ⟨gP, 0, none⟩) N.nP N.nP] 34)
    have kX := blk_new wx (.cells #[.slice (some ⟨gU, 0, none⟩) N.nU N.nU, .int .i64 N.lo, .slice (some ⟨gP, 0, none⟩) N.nP N.nP] 34)
    replace hX := hX.up hA
    replace hW := hW.up hA
    replace kW := (hA.block _ (blk_lt kW)).trans kW
    replace hTW := hTW.up hA
    replace hB := next2 hB hA
    replace cb := (boxed2 hB).1
    replace cn := (boxed2 hB).2
    have Hxa : Hid ((wx.alloc (.cells #[.slice (some ⟨gU, 0, none⟩) N.nU N.nU, .int .i64 N.lo, .slice (some ⟨gP, 0, none⟩) N.nP N.nP] 34)).heap.size = wx.heap.size + 1) := by rw [Hid]; simp
    clear hA cb cn
    dsimp only [Cnt.copy, Cnt.cells]
    go_wp2_with fail
    generalize wx.alloc (.cells #[.slice (some ⟨gU, 0, none⟩) N.nU N.nU, .int .i64 N.lo, .slice (some ⟨gP, 0, none⟩) N.nP N.nP] 34) = wa at *
    have HBa : Hid (Below (w.heap.size + 2) ((w.alloc (.cells #[.int .i64 C.p, .int .i64 C.c, .int .i64 C.xo, .int .i64 C.xn, .int .i64 C.hd, .int .i64 C.lo, .int .i64 C.dl] 23)).alloc (.cells #[.slice N.aU N.nU N.cU, .int .i64 N.lo, .slice N.aP N.nP N.cP] 31)) wa) := hB
    have HkX : Hid (wa.heap[wx.heap.size]? = some (.cells #[.slice (some ⟨gU, 0, none⟩) N.nU N.nU, .int .i64 N.lo, .slice (some ⟨gP, 0, none⟩) N.nP N.nP] 34 (0, 0))) := kX
    have HSf : Hid (∀ w', Below wa.heap.size wa w' → (∀ o, w'.cell? ⟨w.heap.size, o, none⟩ = (#[.int .i64 C.p, .int .i64 C.c, .int .i64 C.xo, .int .i64 C.xn, .int .i64 C.hd, .int .i64 C.lo, .int .i64 C.dl] : Array Value)[o]?) ∧ (∀ o, w'.cell? ⟨w.heap.size + 1, o, none⟩ = (#[.slice N.aU N.nU N.cU, .int .i64 N.lo, .slice N.aP N.nP N.cP] : Array Value)[o]?) ∧ ∀ o, w'.cell? ⟨wx.heap.size, o, none⟩ = (#[.slice (some ⟨gU, 0, none⟩) N.nU N.nU, .int .i64 N.lo, .slice (some ⟨gP, 0, none⟩) N.nP N.nP] : Array Value)[o]?) := fun w' hw => ⟨(boxed2 (next2 HBa.out hw)).1, (boxed2 (next2 HBa.out hw)).2, blk_cell ((hw.block _ (blk_lt HkX.out)).trans HkX.out)⟩
    have HXa : Hid (OwnCn wa w5.heap.size (N.copy gU gP)) := hX
    have HXr : Hid (∀ W, Below wa.heap.size wa W → RdCnt W (N.copy gU gP)) := fun W hw => (HXa.out.up hw).rd
    have HWa : Hid (OwnCn wa w1.heap.size RW) := hW
    have HTWa : Hid (VT 2 wa w1.heap.size aW nT (fun i => .int .i64 (f i))) := hTW
    have HkW : Hid (wa.heap[gW]? = some (.cells RW.cells 34 (0, 0))) := kW
    clear hB kX hX hW kW hTW
    go_cut [9, 10] (fun s9 s10 wc => ∃ gA R aT cT, s9 = .pointer (some ⟨gA, 0, none⟩) ∧ s10 = .slice aT nT cT ∧ AnsS wa wc (sigM C N ok) nT f gA R aT)
    case first =>
      have hBs : Below wa.heap.size wa wa.drew := (Below.refl _ _).drew
      have s := HSf.out _ hBs
      refine wp_region_held_drew (S := fun w' => (∀ o, w'.cell? ⟨w.heap.size, o, none⟩ = (#[.int .i64 C.p, .int .i64 C.c, .int .i64 C.xo, .int .i64 C.xn, .int .i64 C.hd, .int .i64 C.lo, .int .i64 C.dl] : Array Value)[o]?) ∧ (∀ o, w'.cell? ⟨w.heap.size + 1, o, none⟩ = (#[.slice N.aU N.nU N.cU, .int .i64 N.lo, .slice N.aP N.nP N.cP] : Array Value)[o]?) ∧ ∀ o, w'.cell? ⟨wx.heap.size, o, none⟩ = (#[.slice (some ⟨gU, 0, none⟩) N.nU N.nU, .int .i64 N.lo, .slice (some ⟨gP, 0, none⟩) N.nP N.nP] : Array Value)[o]?) (by kernel_rfl) s (fun hHeld => ?_)
      clear s
      generalize wa.drew = W at *
      refine takeD (i := 0) (some 32) (v := ?_) rfl rfl (by kernel_rfl) (by kernel_rfl) (by kernel_rfl) (fun _ _ _ h => h) (by kernel_rfl) ?_ (by assumption) ?_
      rotate_left
      · intro wx hSw
        obtain ⟨hS1, hS2, hS3⟩ := hSw
        go_simp
        try (with_reducible rfl)
      try simp only [Act.put, List.setIfInBounds_toArray, List.set_cons_zero, List.set_cons_succ]
      refine takeD (i := 2) (some 34) (v := ?_) rfl rfl (by kernel_rfl) (by kernel_rfl) (by kernel_rfl) (fun _ _ _ h => h) (by kernel_rfl) ?_ (by assumption) ?_
      rotate_left
      · intro wx hSw
        obtain ⟨hS1, hS2, hS3⟩ := hSw
        go_simp
        try (with_reducible rfl)
      try simp only [Act.put, List.setIfInBounds_toArray, List.set_cons_zero, List.set_cons_succ]
      refine wpAnyH_ready (rs := [1, 7]) (by kernel_rfl) (by simp) ?_
      refine AllReadyH.cons rfl (fun K hK => ?_) (AllReadyH.cons rfl (fun K hK => ?_) AllReadyH.nil)
      · go_simp
        refine (toConfig_any C _).mono ?_
        rintro e W' ⟨rfl, hb⟩
        replace hBs := hBs.trans (hb.mono hBs.size)
        have s := HSf.out _ hBs
        clear hb
        unfold Cfg.cells
        go_wp2_with fail
        clear hHeld
        refine hK.out _ _ s (fun hHeld => ?_)
        clear hK K s
        try simp only [Act.put, List.setIfInBounds_toArray, List.set_cons_zero, List.set_cons_succ]
        clear W
        rename World => W
        refine wpAnyH_ready (rs := [3, 7]) (by kernel_rfl) (by simp) ?_
        refine AllReadyH.cons rfl (fun K hK => ?_) (AllReadyH.cons rfl (fun K hK => ?_) AllReadyH.nil)
        · go_simp
          have lF := hBs.size
          refine (iSig_any C N gU gP nT f _ HS.out (HXr.out _ hBs) ok HO.out HnT.out HfT.out).mono ?_
          rintro e W' ⟨R, aT, cT, rfl, hSA⟩
          have hb := hSA.b
          have HAR : Hid (AlikeC (sigM C N ok) R) := hSA.a
          have HAp : Hid (∀ x ∈ blkV aT nT, x ∉ rowsT R) := hSA.ap
          have hR := hSA.o.mono lF
          have hVt := hSA.t.mono lF
          replace hBs := hBs.trans (hb.mono hBs.size)
          have s := HSf.out _ hBs
          clear hb hSA lF
          dsimp only [Cnt.cells]
          go_wp2_with fail
          clear hHeld
          refine hK.out _ _ s (fun hHeld => ?_)
          clear hK K s
          try simp only [Act.put, List.setIfInBounds_toArray, List.set_cons_zero, List.set_cons_succ]
          clear W
          rename World => W
          refine takeD (i := 4) (some 31) (v := ?_) rfl rfl (by kernel_rfl) (by kernel_rfl) (by kernel_rfl) (fun _ _ _ h => h) (by kernel_rfl) ?_ (by assumption) ?_
          rotate_left
          · intro wx hSw
            obtain ⟨hS1, hS2, hS3⟩ := hSw
            go_simp
            try (with_reducible rfl)
          try simp only [Act.put, List.setIfInBounds_toArray, List.set_cons_zero, List.set_cons_succ]
          refine takeD (i := 5) (some 36) (v := ?_) rfl rfl (by kernel_rfl) (by kernel_rfl) (by kernel_rfl) (fun _ _ _ h => h) (by kernel_rfl) ?_ (by assumption) ?_
          rotate_left
          · intro wx hSw
            obtain ⟨hS1, hS2, hS3⟩ := hSw
            go_simp
            try (with_reducible rfl)
          try simp only [Act.put, List.setIfInBounds_toArray, List.set_cons_zero, List.set_cons_succ]
          refine takeD (i := 6) (some 37) (v := ?_) rfl rfl (by kernel_rfl) (by kernel_rfl) (by kernel_rfl) (fun _ _ _ h => h) (by kernel_rfl) ?_ (by assumption) ?_
          rotate_left
          · intro wx hSw
            obtain ⟨hS1, hS2, hS3⟩ := hSw
            go_simp
            try (with_reducible rfl)
          try simp only [Act.put, List.setIfInBounds_toArray, List.set_cons_zero, List.set_cons_succ]
          refine wpAnyH_ready (rs := [7]) (by kernel_rfl) (by simp) ?_
          refine AllReadyH.cons rfl (fun K hK => ?_) AllReadyH.nil
          have hb := (Below.refl W.heap.size W).alloc (Nat.le_refl _) (.cells #[.slice none 0 0, .int .i64 0, .slice none 0 0] 34)
          have lA := hBs.size
          replace hBs := hBs.trans (hb.mono hBs.size)
          have s := HSf.out _ hBs
          replace hR := hR.up hb
          replace hVt := hVt.up hb
          have kA := blk_new W (.cells #[.slice none 0 0, .int .i64 0, .slice none 0 0] 34)
          go_simp
          clear hHeld
          refine hK.out _ _ s (fun hHeld => ?_)
          clear hK K s
          try simp only [Act.put, List.setIfInBounds_toArray, List.set_cons_zero, List.set_cons_succ]
          generalize hgA : W.heap.size = gA at *
          generalize W.alloc (.cells #[.slice none 0 0, .int .i64 0, .slice none 0 0] 34) = W' at *
          clear hb hgA
          clear W
          rename World => W
          have cz := blk_cell kA
          have fz := blk_free kA
          have hAns := AnsS.of rfl hBs lA kA hR HAR.out hVt HAp.out
          have s := HSf.out _ hAns.b
          have HAns : Hid (AnsS wa (put3 W gA (.slice R.aU R.nU R.cU) (.int .i64 R.lo) (.slice R.aP R.nP R.cP)) (sigM C N ok) nT f gA R aT) := hAns
          clear hAns hBs lA kA hR HAR hVt HAp
          unfold put3 at s
          refine wpAnyH_ready (rs := [8]) (by kernel_rfl) (by simp) ?_
          refine AllReadyH.cons rfl (fun K hK => ?_) AllReadyH.nil
          go_simp
          clear hHeld
          refine hK.out _ _ s (fun hHeld => ?_)
          clear hK K
          try simp only [Act.put, List.setIfInBounds_toArray, List.set_cons_zero, List.set_cons_succ]
          refine wpAnyH_ready (rs := [9]) (by kernel_rfl) (by simp) ?_
          refine AllReadyH.cons rfl (fun K hK => ?_) AllReadyH.nil
          go_simp
          clear hHeld
          refine hK.out _ _ s (fun hHeld => ?_)
          clear hK K
          try simp only [Act.put, List.setIfInBounds_toArray, List.set_cons_zero, List.set_cons_succ]
          refine wpAnyH_done (by kernel_rfl) ?_ _
          clear s hHeld cz fz
          go_wp2_with fail
          go_meet
          case rel => exact ⟨gA, R, aT, cT, rfl, rfl, HAns.out⟩
        · have hb := (Below.refl W.heap.size W).alloc (Nat.le_refl _) (.cells #[.slice none 0 0, .int .i64 0, .slice none 0 0] 34)
          have lA := hBs.size
          replace hBs := hBs.trans (hb.mono hBs.size)
          have s := HSf.out _ hBs
          have kA := blk_new W (.cells #[.slice none 0 0, .int .i64 0, .slice none 0 0] 34)
          go_simp
          clear hHeld
          refine hK.out _ _ s (fun hHeld => ?_)
          clear hK K s
          try simp only [Act.put, List.setIfInBounds_toArray, List.set_cons_zero, List.set_cons_succ]
          generalize hgA : W.heap.size = gA at *
          generalize W.alloc (.cells #[.slice none 0 0, .int .i64 0, .slice none 0 0] 34) = W' at *
          clear hb hgA
          clear W
          rename World => W
          refine wpAnyH_ready (rs := [3]) (by kernel_rfl) (by simp) ?_
          refine AllReadyH.cons rfl (fun K hK => ?_) AllReadyH.nil
          go_simp
          have lF := hBs.size
          refine (iSig_any C N gU gP nT f _ HS.out (HXr.out _ hBs) ok HO.out HnT.out HfT.out).mono ?_
          rintro e W' ⟨R, aT, cT, rfl, hSA⟩
          have hb := hSA.b
          have HAR : Hid (AlikeC (sigM C N ok) R) := hSA.a
          have HAp : Hid (∀ x ∈ blkV aT nT, x ∉ rowsT R) := hSA.ap
          have hR := hSA.o.mono lF
          have hVt := hSA.t.mono lF
          replace hBs := hBs.trans (hb.mono hBs.size)
          have s := HSf.out _ hBs
          replace kA := (hb.block _ (blk_lt kA)).trans kA
          clear hb hSA lF
          dsimp only [Cnt.cells]
          go_wp2_with fail
          clear hHeld
          refine hK.out _ _ s (fun hHeld => ?_)
          clear hK K s
          try simp only [Act.put, List.setIfInBounds_toArray, List.set_cons_zero, List.set_cons_succ]
          clear W
          rename World => W
          refine takeD (i := 4) (some 31) (v := ?_) rfl rfl (by kernel_rfl) (by kernel_rfl) (by kernel_rfl) (fun _ _ _ h => h) (by kernel_rfl) ?_ (by assumption) ?_
          rotate_left
          · intro wx hSw
            obtain ⟨hS1, hS2, hS3⟩ := hSw
            go_simp
            try (with_reducible rfl)
          try simp only [Act.put, List.setIfInBounds_toArray, List.set_cons_zero, List.set_cons_succ]
          refine takeD (i := 5) (some 36) (v := ?_) rfl rfl (by kernel_rfl) (by kernel_rfl) (by kernel_rfl) (fun _ _ _ h => h) (by kernel_rfl) ?_ (by assumption) ?_
          rotate_left
          · intro wx hSw
            obtain ⟨hS1, hS2, hS3⟩ := hSw
            go_simp
            try (with_reducible rfl)
          try simp only [Act.put, List.setIfInBounds_toArray, List.set_cons_zero, List.set_cons_succ]
          refine takeD (i := 6) (some 37) (v := ?_) rfl rfl (by kernel_rfl) (by kernel_rfl) (by kernel_rfl) (fun _ _ _ h => h) (by kernel_rfl) ?_ (by assumption) ?_
          rotate_left
          · intro wx hSw
            obtain ⟨hS1, hS2, hS3⟩ := hSw
            go_simp
            try (with_reducible rfl)
          try simp only [Act.put, List.setIfInBounds_toArray, List.set_cons_zero, List.set_cons_succ]
          have cz := blk_cell kA
          have fz := blk_free kA
          have hAns := AnsS.of rfl hBs lA kA hR HAR.out hVt HAp.out
          have s := HSf.out _ hAns.b
          have HAns : Hid (AnsS wa (put3 W gA (.slice R.aU R.nU R.cU) (.int .i64 R.lo) (.slice R.aP R.nP R.cP)) (sigM C N ok) nT f gA R aT) := hAns
          clear hAns hBs lA kA hR HAR hVt HAp
          unfold put3 at s
          refine wpAnyH_ready (rs := [8]) (by kernel_rfl) (by simp) ?_
          refine AllReadyH.cons rfl (fun K hK => ?_) AllReadyH.nil
          go_simp
          clear hHeld
          refine hK.out _ _ s (fun hHeld => ?_)
          clear hK K
          try simp only [Act.put, List.setIfInBounds_toArray, List.set_cons_zero, List.set_cons_succ]
          refine wpAnyH_ready (rs := [9]) (by kernel_rfl) (by simp) ?_
          refine AllReadyH.cons rfl (fun K hK => ?_) AllReadyH.nil
          go_simp
          clear hHeld
          refine hK.out _ _ s (fun hHeld => ?_)
          clear hK K
          try simp only [Act.put, List.setIfInBounds_toArray, List.set_cons_zero, List.set_cons_succ]
          refine wpAnyH_done (by kernel_rfl) ?_ _
          clear s hHeld cz fz
          go_wp2_with fail
          go_meet
          case rel => exact ⟨gA, R, aT, cT, rfl, rfl, HAns.out⟩
      · have hb := (Below.refl W.heap.size W).alloc (Nat.le_refl _) (.cells #[.slice none 0 0, .int .i64 0, .slice none 0 0] 34)
        have lA := hBs.size
        replace hBs := hBs.trans (hb.mono hBs.size)
        have s := HSf.out _ hBs
        have kA := blk_new W (.cells #[.slice none 0 0, .int .i64 0, .slice none 0 0] 34)
        go_simp
        clear hHeld
        refine hK.out _ _ s (fun hHeld => ?_)
        clear hK K s
        try simp only [Act.put, List.setIfInBounds_toArray, List.set_cons_zero, List.set_cons_succ]
        generalize hgA : W.heap.size = gA at *
        generalize W.alloc (.cells #[.slice none 0 0, .int .i64 0, .slice none 0 0] 34) = W' at *
        clear hb hgA
        clear W
        rename World => W
        refine wpAnyH_ready (rs := [1]) (by kernel_rfl) (by simp) ?_
        refine AllReadyH.cons rfl (fun K hK => ?_) AllReadyH.nil
        go_simp
        refine (toConfig_any C _).mono ?_
        rintro e W' ⟨rfl, hb⟩
        replace hBs := hBs.trans (hb.mono hBs.size)
        have s := HSf.out _ hBs
        replace kA := (hb.block _ (blk_lt kA)).trans kA
        clear hb
        unfold Cfg.cells
        go_wp2_with fail
        clear hHeld
        refine hK.out _ _ s (fun hHeld => ?_)
        clear hK K s
        try simp only [Act.put, List.setIfInBounds_toArray, List.set_cons_zero, List.set_cons_succ]
        clear W
        rename World => W
        refine wpAnyH_ready (rs := [3]) (by kernel_rfl) (by simp) ?_
        refine AllReadyH.cons rfl (fun K hK => ?_) AllReadyH.nil
        go_simp
        have lF := hBs.size
        refine (iSig_any C N gU gP nT f _ HS.out (HXr.out _ hBs) ok HO.out HnT.out HfT.out).mono ?_
        rintro e W' ⟨R, aT, cT, rfl, hSA⟩
        have hb := hSA.b
        have HAR : Hid (AlikeC (sigM C N ok) R) := hSA.a
        have HAp : Hid (∀ x ∈ blkV aT nT, x ∉ rowsT R) := hSA.ap
        have hR := hSA.o.mono lF
        have hVt := hSA.t.mono lF
        replace hBs := hBs.trans (hb.mono hBs.size)
        have s := HSf.out _ hBs
        replace kA := (hb.block _ (blk_lt kA)).trans kA
        clear hb hSA lF
        dsimp only [Cnt.cells]
        go_wp2_with fail
        clear hHeld
        refine hK.out _ _ s (fun hHeld => ?_)
        clear hK K s
        try simp only [Act.put, List.setIfInBounds_toArray, List.set_cons_zero, List.set_cons_succ]
        clear W
        rename World => W
        refine takeD (i := 4) (some 31) (v := ?_) rfl rfl (by kernel_rfl) (by kernel_rfl) (by kernel_rfl) (fun _ _ _ h => h) (by kernel_rfl) ?_ (by assumption) ?_
        rotate_left
        · intro wx hSw
          obtain ⟨hS1, hS2, hS3⟩ := hSw
          go_simp
          try (with_reducible rfl)
        try simp only [Act.put, List.setIfInBounds_toArray, List.set_cons_zero, List.set_cons_succ]
        refine takeD (i := 5) (some 36) (v := ?_) rfl rfl (by kernel_rfl) (by kernel_rfl) (by kernel_rfl) (fun _ _ _ h => h) (by kernel_rfl) ?_ (by assumption) ?_
        rotate_left
        · intro wx hSw
          obtain ⟨hS1, hS2, hS3⟩ := hSw
          go_simp
          try (with_reducible rfl)
        try simp only [Act.put, List.setIfInBounds_toArray, List.set_cons_zero, List.set_cons_succ]
        refine takeD (i := 6) (some 37) (v := ?_) rfl rfl (by kernel_rfl) (by kernel_rfl) (by kernel_rfl) (fun _ _ _ h => h) (by kernel_rfl) ?_ (by assumption) ?_
        rotate_left
        · intro wx hSw
          obtain ⟨hS1, hS2, hS3⟩ := hSw
          go_simp
          try (with_reducible rfl)
        try simp only [Act.put, List.setIfInBounds_toArray, List.set_cons_zero, List.set_cons_succ]
        have cz := blk_cell kA
        have fz := blk_free kA
        have hAns := AnsS.of rfl hBs lA kA hR HAR.out hVt HAp.out
        have s := HSf.out _ hAns.b
        have HAns : Hid (AnsS wa (put3 W gA (.slice R.aU R.nU R.cU) (.int .i64 R.lo) (.slice R.aP R.nP R.cP)) (sigM C N ok) nT f gA R aT) := hAns
        clear hAns hBs lA kA hR HAR hVt HAp
        unfold put3 at s
        refine wpAnyH_ready (rs := [8]) (by kernel_rfl) (by simp) ?_
        refine AllReadyH.cons rfl (fun K hK => ?_) AllReadyH.nil
        go_simp
        clear hHeld
        refine hK.out _ _ s (fun hHeld => ?_)
        clear hK K
        try simp only [Act.put, List.setIfInBounds_toArray, List.set_cons_zero, List.set_cons_succ]
        refine wpAnyH_ready (rs := [9]) (by kernel_rfl) (by simp) ?_
        refine AllReadyH.cons rfl (fun K hK => ?_) AllReadyH.nil
        go_simp
        clear hHeld
        refine hK.out _ _ s (fun hHeld => ?_)
        clear hK K
        try simp only [Act.put, List.setIfInBounds_toArray, List.set_cons_zero, List.set_cons_succ]
        refine wpAnyH_done (by kernel_rfl) ?_ _
        clear s hHeld cz fz
        go_wp2_with fail
        go_meet
        case rel => exact ⟨gA, R, aT, cT, rfl, rfl, HAns.out⟩
    case rest =>
      obtain ⟨gG, RG, aG, dG, rfl, rfl, hAns⟩ := hcut
      have hb := hAns.b
      have hB := next2 HBa.out hb
      have hW := HWa.out.up hb
      have kW := (hb.block _ (blk_lt HkW.out)).trans HkW.out
      have hX := HXa.out.up hb
      have hTW := HTWa.out.up hb
      have hTG := hAns.t
      have HTG0 : Hid (VT 2 wc wa.heap.size aG nT (fun i => .int .i64 (f i))) := hAns.t
      have HapG : Hid (∀ x ∈ blkV aG nT, x ∉ rowsT RG) := hAns.ap
      have kX := (hb.block _ (blk_lt HkX.out)).trans HkX.out
      have kG := hAns.k
      have hG := hAns.o
      have HAG : Hid (AlikeC (sigM C N ok) RG) := hAns.a
      have HGs : Hid RG.Small := HAG.out.small (sigM_small HS.out)
      have HGW : Hid (AlikeC RG RW) := HAG.out.symm.trans HAW.out
      have HG0 : Hid (OwnCn wc wa.heap.size RG) := hAns.o
      have HgG : Hid (wa.heap.size ≤ gG) := hAns.g
      have H7 : Hid (wa.heap.size ≤ wc.heap.size) := hb.size
      clear hAns hb HSf HXr HBa HkX HXa HWa HkW HTWa
      generalize wc = w7 at *
      have cW := blk_cell kW
      have cG := blk_cell kG
      unfold Cnt.cells at cW cG
      go_wp2_with fail
      refine (eqCounts_any RG RW _ HGs.out hG.rd hW.rd HGW.out).mono ?_
      rintro e w8a ⟨rfl, hb⟩
      clear cW cG
      replace hW := hW.up hb
      replace hX := hX.up hb
      replace hG := hG.up hb
      replace kW := (hb.block _ (blk_lt kW)).trans kW
      replace kX := (hb.block _ (blk_lt kX)).trans kX
      replace kG := (hb.block _ (blk_lt kG)).trans kG
      replace hTW := hTW.up hb
      replace hTG := hTG.up hb
      replace hB := next2 hB hb
      clear hb
      go_wp2_with fail
      refine (eqInts_any aG aW nT dG dW f _ hnl hTG.read hTW.read).mono ?_
      rintro e w8 ⟨rfl, hSm⟩
      have hb := hSm.below w8a.heap.size
      clear hSm
      replace hW := hW.up hb
      replace hX := hX.up hb
      replace hG := hG.up hb
      replace kW := (hb.block _ (blk_lt kW)).trans kW
      replace kX := (hb.block _ (blk_lt kX)).trans kX
      replace kG := (hb.block _ (blk_lt kG)).trans kG
      replace hTW := hTW.up hb
      replace hTG := hTG.up hb
      replace hB := next2 hB hb
      clear hb
      have cb := (boxed2 hB).1
      have cn := (boxed2 hB).2
      have cX := blk_cell kX
      go_wp2_with fail
      refine wp_region_held_drew (S := fun w' => (∀ o, w'.cell? ⟨w.heap.size, o, none⟩ = (#[.int .i64 C.p, .int .i64 C.c, .int .i64 C.xo, .int .i64 C.xn, .int .i64 C.hd, .int .i64 C.lo, .int .i64 C.dl] : Array Value)[o]?) ∧ (∀ o, w'.cell? ⟨w.heap.size + 1, o, none⟩ = (#[.slice N.aU N.nU N.cU, .int .i64 N.lo, .slice N.aP N.nP N.cP] : Array Value)[o]?) ∧ ∀ o, w'.cell? ⟨wx.heap.size, o, none⟩ = (#[.slice (some ⟨gU, 0, none⟩) N.nU N.nU, .int .i64 N.lo, .slice (some ⟨gP, 0, none⟩) N.nP N.nP] : Array Value)[o]?) (by kernel_rfl) ⟨cb, cn, cX⟩ (fun hHeld => ?_)
      refine takeD (i := 0) (some 48) (v := ?_) rfl rfl (by kernel_rfl) (by kernel_rfl) (by kernel_rfl) (fun _ _ _ h => h) (by kernel_rfl) ?_ (by assumption) ?_
      rotate_left
      · intro wx hSw
        obtain ⟨hS1, hS2, hS3⟩ := hSw
        go_simp
        try (with_reducible rfl)
      try simp only [Act.put, List.setIfInBounds_toArray, List.set_cons_zero, List.set_cons_succ]
      refine takeD (i := 1) (some 49) (v := ?_) rfl rfl (by kernel_rfl) (by kernel_rfl) (by kernel_rfl) (fun _ _ _ h => h) (by kernel_rfl) ?_ (by assumption) ?_
      rotate_left
      · intro wx hSw
        obtain ⟨hS1, hS2, hS3⟩ := hSw
        go_simp
        try (with_reducible rfl)
      try simp only [Act.put, List.setIfInBounds_toArray, List.set_cons_zero, List.set_cons_succ]
      refine wpAnyH_ready (rs := [2]) (by kernel_rfl) (by simp) ?_
      refine AllReadyH.cons rfl (fun K hK => ?_) AllReadyH.nil
      go_simp
      have hd : Below w8.heap.size w8 w8.drew := (Below.refl _ _).drew
      replace hW := hW.up hd
      replace hX := hX.up hd
      replace hG := hG.up hd
      replace kW := (hd.block _ (blk_lt kW)).trans kW
      replace kX := (hd.block _ (blk_lt kX)).trans kX
      replace kG := (hd.block _ (blk_lt kG)).trans kG
      replace hTW := hTW.up hd
      replace hTG := hTG.up hd
      replace hB := next2 hB hd
      replace cb := (boxed2 hB).1
      replace cn := (boxed2 hB).2
      replace cX := blk_cell kX
      clear hd
      refine (toCounts_any N _ HS.out (HR.out.up (under2 hB))).mono ?_
      rintro e w9 ⟨gU2, gP2, rfl, hj, hb⟩
      have j2 := hj.rd
      clear hj
      replace hW := hW.up hb
      replace hX := hX.up hb
      replace hG := hG.up hb
      replace kW := (hb.block _ (blk_lt kW)).trans kW
      replace kX := (hb.block _ (blk_lt kX)).trans kX
      replace kG := (hb.block _ (blk_lt kG)).trans kG
      replace hTW := hTW.up hb
      replace hTG := hTG.up hb
      replace hB := next2 hB hb
      replace cb := (boxed2 hB).1
      replace cn := (boxed2 hB).2
      replace cX := blk_cell kX
      clear hb
      dsimp only [Cnt.copy, Cnt.cells]
      go_wp2_with fail
      refine hK.out _ _ ⟨cb, cn, cX⟩ (fun hHeld => ?_)
      clear hK K
      try simp only [Act.put, List.setIfInBounds_toArray, List.set_cons_zero, List.set_cons_succ]
      refine wpAnyH_ready (rs := [3]) (by kernel_rfl) (by simp) ?_
      refine AllReadyH.cons rfl (fun K hK => ?_) AllReadyH.nil
      go_simp
      refine (eqCounts_any (N.copy gU gP) (N.copy gU2 gP2) _ (copy_smallC HS.out) hX.rd j2 ((copy_alike N gU gP).symm.trans (copy_alike N gU2 gP2))).mono ?_
      rintro e w10 ⟨rfl, hb⟩
      clear j2
      replace hW := hW.up hb
      replace hX := hX.up hb
      replace hG := hG.up hb
      replace kW := (hb.block _ (blk_lt kW)).trans kW
      replace kX := (hb.block _ (blk_lt kX)).trans kX
      replace kG := (hb.block _ (blk_lt kG)).trans kG
      replace hTW := hTW.up hb
      replace hTG := hTG.up hb
      replace hB := next2 hB hb
      replace cb := (boxed2 hB).1
      replace cn := (boxed2 hB).2
      replace cX := blk_cell kX
      clear hb
      go_wp2_with fail
      refine hK.out _ _ ⟨cb, cn, cX⟩ (fun hHeld => ?_)
      clear hK K
      try simp only [Act.put, List.setIfInBounds_toArray, List.set_cons_zero, List.set_cons_succ]
      refine takeD (i := 4) (some 52) (v := ?_) rfl rfl (by kernel_rfl) (by kernel_rfl) (by kernel_rfl) (fun _ _ _ h => h) (by kernel_rfl) ?_ (by assumption) ?_
      rotate_left
      · intro wx hSw
        obtain ⟨hS1, hS2, hS3⟩ := hSw
        go_simp
        try (with_reducible rfl)
      try simp only [Act.put, List.setIfInBounds_toArray, List.set_cons_zero, List.set_cons_succ]
      refine wpAnyH_done (by kernel_rfl) ?_ _
      clear hHeld cb cn cX
      have cX := blk_cell kX
      go_wp2_with fail
      refine (markCountsT_any (N.copy gU gP) 1 w5.heap.size _ hX (copy_smallC HS.out) (by omega) (by have := blk_lt kX; have := H5x.out; omega)).mono ?_
      rintro e w11 ⟨rfl, hXm, hT⟩
      have hTb := HX0.out.tbl
      have e1 := HgW.out
      have e2 := H5x.out
      have e3 := Hxa.out
      have e4 := HgG.out
      have e5 := H15.out
      have hW11 := hW.touchHi HW0.out hT (fun x hx => by have := (hTb x hx).1; omega)
      have hG11 := hG.touch hT (fun x hx => by have := (hTb x hx).2; omega)
      have hTW11 := hTW.touchS hT (fun x hx hy => by have := (HTW0.out.blk x hx).2; have := (hTb x hy).1; omega)
      have hTG11 := hTG.touchS hT (fun x hx hy => by have := (HTG0.out.blk x hx).1; have := (hTb x hy).2; omega)
      have kW11 := (hT.block _ (blk_lt kW) (fun hx => by have := (hTb _ hx).1; omega)).trans kW
      have kG11 := (hT.block _ (blk_lt kG) (fun hx => by have := (hTb _ hx).2; omega)).trans kG
      have hB11 := hB.trans (hT.below (upper2 hB) (fun x hx => by have := (hTb x hx).1; omega))
      clear hW hG kW kG kX hX hXm hT hTb hB cX e1 e2 e3 e4 e5 hTW hTG
      have hTW := hTW11
      have hTG := hTG11
      clear hTW11 hTG11
      have cW := blk_cell kW11
      have cG := blk_cell kG11
      unfold Cnt.cells at cW cG
      generalize hKX : (((N.copy gU gP).total 1 : Nat) : Int) = KX at *
      have hkx : ¬ KX < 0 := by omega
      go_wp2_with fail
      refine (eqCounts_any RG RW _ HGs.out hG11.rd hW11.rd HGW.out).mono ?_
      rintro e w12a ⟨rfl, hb⟩
      have hW := hW11
      have hG := hG11
      have kW := kW11
      have kG := kG11
      have hB := hB11
      clear hW11 hG11 kW11 kG11 hB11 cW cG
      replace hW := hW.up hb
      replace hG := hG.up hb
      replace kW := (hb.block _ (blk_lt kW)).trans kW
      replace kG := (hb.block _ (blk_lt kG)).trans kG
      replace hTW := hTW.up hb
      replace hTG := hTG.up hb
      replace hB := next2 hB hb
      clear hb
      go_wp2_with fail
      refine (eqInts_any aG aW nT dG dW f _ hnl hTG.read hTW.read).mono ?_
      rintro e w12 ⟨rfl, hSm⟩
      have hb := hSm.below w12a.heap.size
      clear hSm
      replace hW := hW.up hb
      replace hG := hG.up hb
      replace kW := (hb.block _ (blk_lt kW)).trans kW
      replace kG := (hb.block _ (blk_lt kG)).trans kG
      replace hTW := hTW.up hb
      replace hTG := hTG.up hb
      replace hB := next2 hB hb
      clear hb
      have cG := blk_cell kG
      unfold Cnt.cells at cG
      go_wp2_with fail
      refine (markCountsT_any RG 1 wa.heap.size _ hG HGs.out (by omega) (by have := blk_lt kG; have := HgG.out; omega)).mono ?_
      rintro e w13a ⟨rfl, hM, hT⟩
      have hTb := HG0.out.tbl
      have e1 := HgW.out
      have e2 := H5x.out
      have e3 := Hxa.out
      have e5 := H15.out
      have hW13 := hW.touchHi HW0.out hT (fun x hx => by have := (hTb x hx).1; omega)
      have hTW13 := hTW.touchS hT (fun x hx hy => by have := (HTW0.out.blk x hx).2; have := (hTb x hy).1; omega)
      have hTG13 := hTG.touchS hT (fun x hx => HapG.out x hx)
      have kW13 := (hT.block _ (blk_lt kW) (fun hx => by have := (hTb _ hx).1; omega)).trans kW
      have kG13 := (hT.block _ (blk_lt kG) (hG.boxOut (by decide) (by decide) kG)).trans kG
      have hB13 := hB.trans (hT.below (upper2 hB) (fun x hx => by have := (hTb x hx).1; omega))
      have htl : RG.total 1 ≤ 100000000 := by have := HGs.out.u; have := HGs.out.p; unfold Cnt.total; omega
      clear hW hG kW kG cG hT hTb hB e1 e2 e3 e5 hTW hTG
      generalize hKK : RG.total 1 = tot at *
      go_wp2_with fail
      refine (markVInts_any aG nT dG tot wa.heap.size _ _ hTG13 hnl htl).mono ?_
      rintro e w13 ⟨rfl, hTM, hT⟩
      have hTb := HTG0.out.blk
      have e1 := HgW.out
      have e2 := H5x.out
      have e3 := Hxa.out
      have e5 := H15.out
      have hW := hW13.touchHi HW0.out hT (fun x hx => by have := (hTb x hx).1; omega)
      have hTW := hTW13.touchS hT (fun x hx hy => by have := (HTW0.out.blk x hx).2; have := (hTb x hy).1; omega)
      replace hM := OwnCn.touchS hM hT (fun x hx => by rw [rowsT_marked]; exact HapG.out x hx)
      have kW := (hT.block _ (blk_lt kW13) (fun hx => by have := (hTb _ hx).1; omega)).trans kW13
      have kG := (hT.block _ (blk_lt kG13) (VT.boxOut hTG13 (by decide) kG13)).trans kG13
      have hB := hB13.trans (hT.below (upper2 hB13) (fun x hx => by have := (hTb x hx).1; omega))
      clear hW13 kW13 kG13 hB13 hT hTb e1 e2 e3 e5 hTW13 hTG13
      have cG := blk_cell kG
      unfold Cnt.cells at cG
      have hk1 : ¬ (tot : Int) < 0 := by omega
      have hk2 : ¬ ((tot + nT : Nat) : Int) < 0 := by omega
      go_wp2_with fail
      refine (heldCounts_any RG 1 wa.heap.size _ hM HGs.out (by omega)).mono ?_
      rintro e w14a ⟨rfl, hb⟩
      rw [hKK]
      clear cG
      replace hW := hW.up hb
      replace hM := hM.up hb
      replace kW := (hb.block _ (blk_lt kW)).trans kW
      replace kG := (hb.block _ (blk_lt kG)).trans kG
      replace hTW := hTW.up hb
      replace hTM := hTM.up hb
      replace hB := next2 hB hb
      clear hb
      go_wp2_with fail
      refine (heldVInts_any aG nT dG tot wa.heap.size _ hTM hnl htl).mono ?_
      rintro e w14 ⟨rfl, hw⟩
      subst hw
      have HB14 : Hid (Below (w.heap.size + 2) ((w.alloc (.cells #[.int .i64 C.p, .int .i64 C.c, .int .i64 C.xo, .int .i64 C.xn, .int .i64 C.hd, .int .i64 C.lo, .int .i64 C.dl] 23)).alloc (.cells #[.slice N.aU N.nU N.cU, .int .i64 N.lo, .slice N.aP N.nP N.cP] 31)) w14a) := hB
      have HSf : Hid (∀ w', Below w14a.heap.size w14a w' → (∀ o, w'.cell? ⟨w.heap.size, o, none⟩ = (#[.int .i64 C.p, .int .i64 C.c, .int .i64 C.xo, .int .i64 C.xn, .int .i64 C.hd, .int .i64 C.lo, .int .i64 C.dl] : Array Value)[o]?) ∧ (∀ o, w'.cell? ⟨w.heap.size + 1, o, none⟩ = (#[.slice N.aU N.nU N.cU, .int .i64 N.lo, .slice N.aP N.nP N.cP] : Array Value)[o]?)) := fun w' hw => boxed2 (next2 HB14.out hw)
      have HRd : Hid (∀ W, Below w14a.heap.size w14a W → RdCnt W N) := fun W hw => HR.out.up (under2 (next2 HB14.out hw))
      have HWe : Hid (OwnCn w14a w1.heap.size RW) := hW
      have HTWe : Hid (VT 2 w14a w1.heap.size aW nT (fun i => .int .i64 (f i))) := hTW
      have HkWe : Hid (w14a.heap[gW]? = some (.cells RW.cells 34 (0, 0))) := kW
      have HMe : Hid (OwnCn w14a wa.heap.size (RG.marked 1)) := hM
      have HTMe : Hid (VT 2 w14a wa.heap.size aG nT (fun i => .int .i64 ((tot + i : Nat) : Int))) := hTM
      have HkGe : Hid (w14a.heap[gG]? = some (.cells RG.cells 34 (0, 0))) := kG
      clear hB hW kW hM kG hTW hTM
      go_wp2_with fail
      go_cut [14, 15] (fun s14 s15 wc => ∃ gA R aT cT, s14 = .pointer (some ⟨gA, 0, none⟩) ∧ s15 = .slice aT nT cT ∧ AnsS w14a wc (sigM C N ok) nT f gA R aT)
      case first =>
        have hBs : Below w14a.heap.size w14a w14a.drew := (Below.refl _ _).drew
        have s := HSf.out _ hBs
        refine wp_region_held_drew (S := fun w' => (∀ o, w'.cell? ⟨w.heap.size, o, none⟩ = (#[.int .i64 C.p, .int .i64 C.c, .int .i64 C.xo, .int .i64 C.xn, .int .i64 C.hd, .int .i64 C.lo, .int .i64 C.dl] : Array Value)[o]?) ∧ (∀ o, w'.cell? ⟨w.heap.size + 1, o, none⟩ = (#[.slice N.aU N.nU N.cU, .int .i64 N.lo, .slice N.aP N.nP N.cP] : Array Value)[o]?)) (by kernel_rfl) s (fun hHeld => ?_)
        clear s
        generalize w14a.drew = W at *
        refine takeD (i := 0) (some 90) (v := ?_) rfl rfl (by kernel_rfl) (by kernel_rfl) (by kernel_rfl) (fun _ _ _ h => h) (by kernel_rfl) ?_ (by assumption) ?_
        rotate_left
        · intro wx hSw
          obtain ⟨hS1, hS2⟩ := hSw
          go_simp
          try (with_reducible rfl)
        try simp only [Act.put, List.setIfInBounds_toArray, List.set_cons_zero, List.set_cons_succ]
        refine takeD (i := 2) (some 92) (v := ?_) rfl rfl (by kernel_rfl) (by kernel_rfl) (by kernel_rfl) (fun _ _ _ h => h) (by kernel_rfl) ?_ (by assumption) ?_
        rotate_left
        · intro wx hSw
          obtain ⟨hS1, hS2⟩ := hSw
          go_simp
          try (with_reducible rfl)
        try simp only [Act.put, List.setIfInBounds_toArray, List.set_cons_zero, List.set_cons_succ]
        refine wpAnyH_ready (rs := [1, 8]) (by kernel_rfl) (by simp) ?_
        refine AllReadyH.cons rfl (fun K hK => ?_) (AllReadyH.cons rfl (fun K hK => ?_) AllReadyH.nil)
        · go_simp
          refine (toConfig_any C _).mono ?_
          rintro e W' ⟨rfl, hb⟩
          replace hBs := hBs.trans (hb.mono hBs.size)
          have s := HSf.out _ hBs
          clear hb
          unfold Cfg.cells
          go_wp2_with fail
          clear hHeld
          refine hK.out _ _ s (fun hHeld => ?_)
          clear hK K s
          try simp only [Act.put, List.setIfInBounds_toArray, List.set_cons_zero, List.set_cons_succ]
          clear W
          rename World => W
          refine wpAnyH_ready (rs := [3, 8]) (by kernel_rfl) (by simp) ?_
          refine AllReadyH.cons rfl (fun K hK => ?_) (AllReadyH.cons rfl (fun K hK => ?_) AllReadyH.nil)
          · go_simp
            refine (toCounts_any N _ HS.out (HRd.out _ hBs)).mono ?_
            rintro e W' ⟨gU1, gP1, rfl, hj, hb⟩
            have hr1 := hj.rd
            replace hBs := hBs.trans (hb.mono hBs.size)
            have s := HSf.out _ hBs
            clear hb hj
            dsimp only [Cnt.copy, Cnt.cells]
            go_wp2_with fail
            clear hHeld
            refine hK.out _ _ s (fun hHeld => ?_)
            clear hK K s
            try simp only [Act.put, List.setIfInBounds_toArray, List.set_cons_zero, List.set_cons_succ]
            clear W
            rename World => W
            refine wpAnyH_ready (rs := [4, 8]) (by kernel_rfl) (by simp) ?_
            refine AllReadyH.cons rfl (fun K hK => ?_) (AllReadyH.cons rfl (fun K hK => ?_) AllReadyH.nil)
            · go_simp
              have lF := hBs.size
              refine (iSig_any C N gU1 gP1 nT f _ HS.out hr1 ok HO.out HnT.out HfT.out).mono ?_
              rintro e W' ⟨R, aT, cT, rfl, hSA⟩
              have hb := hSA.b
              have HAR : Hid (AlikeC (sigM C N ok) R) := hSA.a
              have HAp : Hid (∀ x ∈ blkV aT nT, x ∉ rowsT R) := hSA.ap
              have hR := hSA.o.mono lF
              have hVt := hSA.t.mono lF
              replace hBs := hBs.trans (hb.mono hBs.size)
              have s := HSf.out _ hBs
              replace hr1 := hr1.up hb
              clear hb hSA lF hr1
              dsimp only [Cnt.cells]
              go_wp2_with fail
              clear hHeld
              refine hK.out _ _ s (fun hHeld => ?_)
              clear hK K s
              try simp only [Act.put, List.setIfInBounds_toArray, List.set_cons_zero, List.set_cons_succ]
              clear W
              rename World => W
              refine takeD (i := 5) (some 89) (v := ?_) rfl rfl (by kernel_rfl) (by kernel_rfl) (by kernel_rfl) (fun _ _ _ h => h) (by kernel_rfl) ?_ (by assumption) ?_
              rotate_left
              · intro wx hSw
                obtain ⟨hS1, hS2⟩ := hSw
                go_simp
                try (with_reducible rfl)
              try simp only [Act.put, List.setIfInBounds_toArray, List.set_cons_zero, List.set_cons_succ]
              refine takeD (i := 6) (some 95) (v := ?_) rfl rfl (by kernel_rfl) (by kernel_rfl) (by kernel_rfl) (fun _ _ _ h => h) (by kernel_rfl) ?_ (by assumption) ?_
              rotate_left
              · intro wx hSw
                obtain ⟨hS1, hS2⟩ := hSw
                go_simp
                try (with_reducible rfl)
              try simp only [Act.put, List.setIfInBounds_toArray, List.set_cons_zero, List.set_cons_succ]
              refine takeD (i := 7) (some 96) (v := ?_) rfl rfl (by kernel_rfl) (by kernel_rfl) (by kernel_rfl) (fun _ _ _ h => h) (by kernel_rfl) ?_ (by assumption) ?_
              rotate_left
              · intro wx hSw
                obtain ⟨hS1, hS2⟩ := hSw
                go_simp
                try (with_reducible rfl)
              try simp only [Act.put, List.setIfInBounds_toArray, List.set_cons_zero, List.set_cons_succ]
              refine wpAnyH_ready (rs := [8]) (by kernel_rfl) (by simp) ?_
              refine AllReadyH.cons rfl (fun K hK => ?_) AllReadyH.nil
              have hb := (Below.refl W.heap.size W).alloc (Nat.le_refl _) (.cells #[.slice none 0 0, .int .i64 0, .slice none 0 0] 34)
              have lA := hBs.size
              replace hBs := hBs.trans (hb.mono hBs.size)
              have s := HSf.out _ hBs
              replace hR := hR.up hb
              replace hVt := hVt.up hb
              have kA := blk_new W (.cells #[.slice none 0 0, .int .i64 0, .slice none 0 0] 34)
              go_simp
              clear hHeld
              refine hK.out _ _ s (fun hHeld => ?_)
              clear hK K s
              try simp only [Act.put, List.setIfInBounds_toArray, List.set_cons_zero, List.set_cons_succ]
              generalize hgA : W.heap.size = gA at *
              generalize W.alloc (.cells #[.slice none 0 0, .int .i64 0, .slice none 0 0] 34) = W' at *
              clear hb hgA
              clear W
              rename World => W
              have cz := blk_cell kA
              have fz := blk_free kA
              have hAns := AnsS.of rfl hBs lA kA hR HAR.out hVt HAp.out
              have s := HSf.out _ hAns.b
              have HAns : Hid (AnsS w14a (put3 W gA (.slice R.aU R.nU R.cU) (.int .i64 R.lo) (.slice R.aP R.nP R.cP)) (sigM C N ok) nT f gA R aT) := hAns
              clear hAns hBs lA kA hR HAR hVt HAp
              unfold put3 at s
              refine wpAnyH_ready (rs := [9]) (by kernel_rfl) (by simp) ?_
              refine AllReadyH.cons rfl (fun K hK => ?_) AllReadyH.nil
              go_simp
              clear hHeld
              refine hK.out _ _ s (fun hHeld => ?_)
              clear hK K
              try simp only [Act.put, List.setIfInBounds_toArray, List.set_cons_zero, List.set_cons_succ]
              refine wpAnyH_ready (rs := [10]) (by kernel_rfl) (by simp) ?_
              refine AllReadyH.cons rfl (fun K hK => ?_) AllReadyH.nil
              go_simp
              clear hHeld
              refine hK.out _ _ s (fun hHeld => ?_)
              clear hK K
              try simp only [Act.put, List.setIfInBounds_toArray, List.set_cons_zero, List.set_cons_succ]
              refine wpAnyH_done (by kernel_rfl) ?_ _
              clear s hHeld cz fz
              go_wp2_with fail
              go_meet
              case rel => exact ⟨gA, R, aT, cT, rfl, rfl, HAns.out⟩
            · have hb := (Below.refl W.heap.size W).alloc (Nat.le_refl _) (.cells #[.slice none 0 0, .int .i64 0, .slice none 0 0] 34)
              have lA := hBs.size
              replace hBs := hBs.trans (hb.mono hBs.size)
              have s := HSf.out _ hBs
              replace hr1 := hr1.up hb
              have kA := blk_new W (.cells #[.slice none 0 0, .int .i64 0, .slice none 0 0] 34)
              go_simp
              clear hHeld
              refine hK.out _ _ s (fun hHeld => ?_)
              clear hK K s
              try simp only [Act.put, List.setIfInBounds_toArray, List.set_cons_zero, List.set_cons_succ]
              generalize hgA : W.heap.size = gA at *
              generalize W.alloc (.cells #[.slice none 0 0, .int .i64 0, .slice none 0 0] 34) = W' at *
              clear hb hgA
              clear W
              rename World => W
              refine wpAnyH_ready (rs := [4]) (by kernel_rfl) (by simp) ?_
              refine AllReadyH.cons rfl (fun K hK => ?_) AllReadyH.nil
              go_simp
              have lF := hBs.size
              refine (iSig_any C N gU1 gP1 nT f _ HS.out hr1 ok HO.out HnT.out HfT.out).mono ?_
              rintro e W' ⟨R, aT, cT, rfl, hSA⟩
              have hb := hSA.b
              have HAR : Hid (AlikeC (sigM C N ok) R) := hSA.a
              have HAp : Hid (∀ x ∈ blkV aT nT, x ∉ rowsT R) := hSA.ap
              have hR := hSA.o.mono lF
              have hVt := hSA.t.mono lF
              replace hBs := hBs.trans (hb.mono hBs.size)
              have s := HSf.out _ hBs
              replace kA := (hb.block _ (blk_lt kA)).trans kA
              replace hr1 := hr1.up hb
              clear hb hSA lF hr1
              dsimp only [Cnt.cells]
              go_wp2_with fail
              clear hHeld
              refine hK.out _ _ s (fun hHeld => ?_)
              clear hK K s
              try simp only [Act.put, List.setIfInBounds_toArray, List.set_cons_zero, List.set_cons_succ]
              clear W
              rename World => W
              refine takeD (i := 5) (some 89) (v := ?_) rfl rfl (by kernel_rfl) (by kernel_rfl) (by kernel_rfl) (fun _ _ _ h => h) (by kernel_rfl) ?_ (by assumption) ?_
              rotate_left
              · intro wx hSw
                obtain ⟨hS1, hS2⟩ := hSw
                go_simp
                try (with_reducible rfl)
              try simp only [Act.put, List.setIfInBounds_toArray, List.set_cons_zero, List.set_cons_succ]
              refine takeD (i := 6) (some 95) (v := ?_) rfl rfl (by kernel_rfl) (by kernel_rfl) (by kernel_rfl) (fun _ _ _ h => h) (by kernel_rfl) ?_ (by assumption) ?_
              rotate_left
              · intro wx hSw
                obtain ⟨hS1, hS2⟩ := hSw
                go_simp
                try (with_reducible rfl)
              try simp only [Act.put, List.setIfInBounds_toArray, List.set_cons_zero, List.set_cons_succ]
              refine takeD (i := 7) (some 96) (v := ?_) rfl rfl (by kernel_rfl) (by kernel_rfl) (by kernel_rfl) (fun _ _ _ h => h) (by kernel_rfl) ?_ (by assumption) ?_
              rotate_left
              · intro wx hSw
                obtain ⟨hS1, hS2⟩ := hSw
                go_simp
                try (with_reducible rfl)
              try simp only [Act.put, List.setIfInBounds_toArray, List.set_cons_zero, List.set_cons_succ]
              have cz := blk_cell kA
              have fz := blk_free kA
              have hAns := AnsS.of rfl hBs lA kA hR HAR.out hVt HAp.out
              have s := HSf.out _ hAns.b
              have HAns : Hid (AnsS w14a (put3 W gA (.slice R.aU R.nU R.cU) (.int .i64 R.lo) (.slice R.aP R.nP R.cP)) (sigM C N ok) nT f gA R aT) := hAns
              clear hAns hBs lA kA hR HAR hVt HAp
              unfold put3 at s
              refine wpAnyH_ready (rs := [9]) (by kernel_rfl) (by simp) ?_
              refine AllReadyH.cons rfl (fun K hK => ?_) AllReadyH.nil
              go_simp
              clear hHeld
              refine hK.out _ _ s (fun hHeld => ?_)
              clear hK K
              try simp only [Act.put, List.setIfInBounds_toArray, List.set_cons_zero, List.set_cons_succ]
              refine wpAnyH_ready (rs := [10]) (by kernel_rfl) (by simp) ?_
              refine AllReadyH.cons rfl (fun K hK => ?_) AllReadyH.nil
              go_simp
              clear hHeld
              refine hK.out _ _ s (fun hHeld => ?_)
              clear hK K
              try simp only [Act.put, List.setIfInBounds_toArray, List.set_cons_zero, List.set_cons_succ]
              refine wpAnyH_done (by kernel_rfl) ?_ _
              clear s hHeld cz fz
              go_wp2_with fail
              go_meet
              case rel => exact ⟨gA, R, aT, cT, rfl, rfl, HAns.out⟩
          · have hb := (Below.refl W.heap.size W).alloc (Nat.le_refl _) (.cells #[.slice none 0 0, .int .i64 0, .slice none 0 0] 34)
            have lA := hBs.size
            replace hBs := hBs.trans (hb.mono hBs.size)
            have s := HSf.out _ hBs
            have kA := blk_new W (.cells #[.slice none 0 0, .int .i64 0, .slice none 0 0] 34)
            go_simp
            clear hHeld
            refine hK.out _ _ s (fun hHeld => ?_)
            clear hK K s
            try simp only [Act.put, List.setIfInBounds_toArray, List.set_cons_zero, List.set_cons_succ]
            generalize hgA : W.heap.size = gA at *
            generalize W.alloc (.cells #[.slice none 0 0, .int .i64 0, .slice none 0 0] 34) = W' at *
            clear hb hgA
            clear W
            rename World => W
            refine wpAnyH_ready (rs := [3]) (by kernel_rfl) (by simp) ?_
            refine AllReadyH.cons rfl (fun K hK => ?_) AllReadyH.nil
            go_simp
            refine (toCounts_any N _ HS.out (HRd.out _ hBs)).mono ?_
            rintro e W' ⟨gU1, gP1, rfl, hj, hb⟩
            have hr1 := hj.rd
            replace hBs := hBs.trans (hb.mono hBs.size)
            have s := HSf.out _ hBs
            replace kA := (hb.block _ (blk_lt kA)).trans kA
            clear hb hj
            dsimp only [Cnt.copy, Cnt.cells]
            go_wp2_with fail
            clear hHeld
            refine hK.out _ _ s (fun hHeld => ?_)
            clear hK K s
            try simp only [Act.put, List.setIfInBounds_toArray, List.set_cons_zero, List.set_cons_succ]
            clear W
            rename World => W
            refine wpAnyH_ready (rs := [4]) (by kernel_rfl) (by simp) ?_
            refine AllReadyH.cons rfl (fun K hK => ?_) AllReadyH.nil
            go_simp
            have lF := hBs.size
            refine (iSig_any C N gU1 gP1 nT f _ HS.out hr1 ok HO.out HnT.out HfT.out).mono ?_
            rintro e W' ⟨R, aT, cT, rfl, hSA⟩
            have hb := hSA.b
            have HAR : Hid (AlikeC (sigM C N ok) R) := hSA.a
            have HAp : Hid (∀ x ∈ blkV aT nT, x ∉ rowsT R) := hSA.ap
            have hR := hSA.o.mono lF
            have hVt := hSA.t.mono lF
            replace hBs := hBs.trans (hb.mono hBs.size)
            have s := HSf.out _ hBs
            replace kA := (hb.block _ (blk_lt kA)).trans kA
            replace hr1 := hr1.up hb
            clear hb hSA lF hr1
            dsimp only [Cnt.cells]
            go_wp2_with fail
            clear hHeld
            refine hK.out _ _ s (fun hHeld => ?_)
            clear hK K s
            try simp only [Act.put, List.setIfInBounds_toArray, List.set_cons_zero, List.set_cons_succ]
            clear W
            rename World => W
            refine takeD (i := 5) (some 89) (v := ?_) rfl rfl (by kernel_rfl) (by kernel_rfl) (by kernel_rfl) (fun _ _ _ h => h) (by kernel_rfl) ?_ (by assumption) ?_
            rotate_left
            · intro wx hSw
              obtain ⟨hS1, hS2⟩ := hSw
              go_simp
              try (with_reducible rfl)
            try simp only [Act.put, List.setIfInBounds_toArray, List.set_cons_zero, List.set_cons_succ]
            refine takeD (i := 6) (some 95) (v := ?_) rfl rfl (by kernel_rfl) (by kernel_rfl) (by kernel_rfl) (fun _ _ _ h => h) (by kernel_rfl) ?_ (by assumption) ?_
            rotate_left
            · intro wx hSw
              obtain ⟨hS1, hS2⟩ := hSw
              go_simp
              try (with_reducible rfl)
            try simp only [Act.put, List.setIfInBounds_toArray, List.set_cons_zero, List.set_cons_succ]
            refine takeD (i := 7) (some 96) (v := ?_) rfl rfl (by kernel_rfl) (by kernel_rfl) (by kernel_rfl) (fun _ _ _ h => h) (by kernel_rfl) ?_ (by assumption) ?_
            rotate_left
            · intro wx hSw
              obtain ⟨hS1, hS2⟩ := hSw
              go_simp
              try (with_reducible rfl)
            try simp only [Act.put, List.setIfInBounds_toArray, List.set_cons_zero, List.set_cons_succ]
            have cz := blk_cell kA
            have fz := blk_free kA
            have hAns := AnsS.of rfl hBs lA kA hR HAR.out hVt HAp.out
            have s := HSf.out _ hAns.b
            have HAns : Hid (AnsS w14a (put3 W gA (.slice R.aU R.nU R.cU) (.int .i64 R.lo) (.slice R.aP R.nP R.cP)) (sigM C N ok) nT f gA R aT) := hAns
            clear hAns hBs lA kA hR HAR hVt HAp
            unfold put3 at s
            refine wpAnyH_ready (rs := [9]) (by kernel_rfl) (by simp) ?_
            refine AllReadyH.cons rfl (fun K hK => ?_) AllReadyH.nil
            go_simp
            clear hHeld
            refine hK.out _ _ s (fun hHeld => ?_)
            clear hK K
            try simp only [Act.put, List.setIfInBounds_toArray, List.set_cons_zero, List.set_cons_succ]
            refine wpAnyH_ready (rs := [10]) (by kernel_rfl) (by simp) ?_
            refine AllReadyH.cons rfl (fun K hK => ?_) AllReadyH.nil
            go_simp
            clear hHeld
            refine hK.out _ _ s (fun hHeld => ?_)
            clear hK K
            try simp only [Act.put, List.setIfInBounds_toArray, List.set_cons_zero, List.set_cons_succ]
            refine wpAnyH_done (by kernel_rfl) ?_ _
            clear s hHeld cz fz
            go_wp2_with fail
            go_meet
            case rel => exact ⟨gA, R, aT, cT, rfl, rfl, HAns.out⟩
        · have hb := (Below.refl W.heap.size W).alloc (Nat.le_refl _) (.cells #[.slice none 0 0, .int .i64 0, .slice none 0 0] 34)
          have lA := hBs.size
          replace hBs := hBs.trans (hb.mono hBs.size)
          have s := HSf.out _ hBs
          have kA := blk_new W (.cells #[.slice none 0 0, .int .i64 0, .slice none 0 0] 34)
          go_simp
          clear hHeld
          refine hK.out _ _ s (fun hHeld => ?_)
          clear hK K s
          try simp only [Act.put, List.setIfInBounds_toArray, List.set_cons_zero, List.set_cons_succ]
          generalize hgA : W.heap.size = gA at *
          generalize W.alloc (.cells #[.slice none 0 0, .int .i64 0, .slice none 0 0] 34) = W' at *
          clear hb hgA
          clear W
          rename World => W
          refine wpAnyH_ready (rs := [1]) (by kernel_rfl) (by simp) ?_
          refine AllReadyH.cons rfl (fun K hK => ?_) AllReadyH.nil
          go_simp
          refine (toConfig_any C _).mono ?_
          rintro e W' ⟨rfl, hb⟩
          replace hBs := hBs.trans (hb.mono hBs.size)
          have s := HSf.out _ hBs
          replace kA := (hb.block _ (blk_lt kA)).trans kA
          clear hb
          unfold Cfg.cells
          go_wp2_with fail
          clear hHeld
          refine hK.out _ _ s (fun hHeld => ?_)
          clear hK K s
          try simp only [Act.put, List.setIfInBounds_toArray, List.set_cons_zero, List.set_cons_succ]
          clear W
          rename World => W
          refine wpAnyH_ready (rs := [3]) (by kernel_rfl) (by simp) ?_
          refine AllReadyH.cons rfl (fun K hK => ?_) AllReadyH.nil
          go_simp
          refine (toCounts_any N _ HS.out (HRd.out _ hBs)).mono ?_
          rintro e W' ⟨gU1, gP1, rfl, hj, hb⟩
          have hr1 := hj.rd
          replace hBs := hBs.trans (hb.mono hBs.size)
          have s := HSf.out _ hBs
          replace kA := (hb.block _ (blk_lt kA)).trans kA
          clear hb hj
          dsimp only [Cnt.copy, Cnt.cells]
          go_wp2_with fail
          clear hHeld
          refine hK.out _ _ s (fun hHeld => ?_)
          clear hK K s
          try simp only [Act.put, List.setIfInBounds_toArray, List.set_cons_zero, List.set_cons_succ]
          clear W
          rename World => W
          refine wpAnyH_ready (rs := [4]) (by kernel_rfl) (by simp) ?_
          refine AllReadyH.cons rfl (fun K hK => ?_) AllReadyH.nil
          go_simp
          have lF := hBs.size
          refine (iSig_any C N gU1 gP1 nT f _ HS.out hr1 ok HO.out HnT.out HfT.out).mono ?_
          rintro e W' ⟨R, aT, cT, rfl, hSA⟩
          have hb := hSA.b
          have HAR : Hid (AlikeC (sigM C N ok) R) := hSA.a
          have HAp : Hid (∀ x ∈ blkV aT nT, x ∉ rowsT R) := hSA.ap
          have hR := hSA.o.mono lF
          have hVt := hSA.t.mono lF
          replace hBs := hBs.trans (hb.mono hBs.size)
          have s := HSf.out _ hBs
          replace kA := (hb.block _ (blk_lt kA)).trans kA
          replace hr1 := hr1.up hb
          clear hb hSA lF hr1
          dsimp only [Cnt.cells]
          go_wp2_with fail
          clear hHeld
          refine hK.out _ _ s (fun hHeld => ?_)
          clear hK K s
          try simp only [Act.put, List.setIfInBounds_toArray, List.set_cons_zero, List.set_cons_succ]
          clear W
          rename World => W
          refine takeD (i := 5) (some 89) (v := ?_) rfl rfl (by kernel_rfl) (by kernel_rfl) (by kernel_rfl) (fun _ _ _ h => h) (by kernel_rfl) ?_ (by assumption) ?_
          rotate_left
          · intro wx hSw
            obtain ⟨hS1, hS2⟩ := hSw
            go_simp
            try (with_reducible rfl)
          try simp only [Act.put, List.setIfInBounds_toArray, List.set_cons_zero, List.set_cons_succ]
          refine takeD (i := 6) (some 95) (v := ?_) rfl rfl (by kernel_rfl) (by kernel_rfl) (by kernel_rfl) (fun _ _ _ h => h) (by kernel_rfl) ?_ (by assumption) ?_
          rotate_left
          · intro wx hSw
            obtain ⟨hS1, hS2⟩ := hSw
            go_simp
            try (with_reducible rfl)
          try simp only [Act.put, List.setIfInBounds_toArray, List.set_cons_zero, List.set_cons_succ]
          refine takeD (i := 7) (some 96) (v := ?_) rfl rfl (by kernel_rfl) (by kernel_rfl) (by kernel_rfl) (fun _ _ _ h => h) (by kernel_rfl) ?_ (by assumption) ?_
          rotate_left
          · intro wx hSw
            obtain ⟨hS1, hS2⟩ := hSw
            go_simp
            try (with_reducible rfl)
          try simp only [Act.put, List.setIfInBounds_toArray, List.set_cons_zero, List.set_cons_succ]
          have cz := blk_cell kA
          have fz := blk_free kA
          have hAns := AnsS.of rfl hBs lA kA hR HAR.out hVt HAp.out
          have s := HSf.out _ hAns.b
          have HAns : Hid (AnsS w14a (put3 W gA (.slice R.aU R.nU R.cU) (.int .i64 R.lo) (.slice R.aP R.nP R.cP)) (sigM C N ok) nT f gA R aT) := hAns
          clear hAns hBs lA kA hR HAR hVt HAp
          unfold put3 at s
          refine wpAnyH_ready (rs := [9]) (by kernel_rfl) (by simp) ?_
          refine AllReadyH.cons rfl (fun K hK => ?_) AllReadyH.nil
          go_simp
          clear hHeld
          refine hK.out _ _ s (fun hHeld => ?_)
          clear hK K
          try simp only [Act.put, List.setIfInBounds_toArray, List.set_cons_zero, List.set_cons_succ]
          refine wpAnyH_ready (rs := [10]) (by kernel_rfl) (by simp) ?_
          refine AllReadyH.cons rfl (fun K hK => ?_) AllReadyH.nil
          go_simp
          clear hHeld
          refine hK.out _ _ s (fun hHeld => ?_)
          clear hK K
          try simp only [Act.put, List.setIfInBounds_toArray, List.set_cons_zero, List.set_cons_succ]
          refine wpAnyH_done (by kernel_rfl) ?_ _
          clear s hHeld cz fz
          go_wp2_with fail
          go_meet
          case rel => exact ⟨gA, R, aT, cT, rfl, rfl, HAns.out⟩
      case rest =>
        obtain ⟨gH, RH, aH, dH, rfl, rfl, hAns⟩ := hcut
        have hb := hAns.b
        have hB := next2 HB14.out hb
        have hW := HWe.out.up hb
        have hTW := HTWe.out.up hb
        have kW := (hb.block _ (blk_lt HkWe.out)).trans HkWe.out
        have hM := HMe.out.up hb
        have hTM := HTMe.out.up hb
        have kG := (hb.block _ (blk_lt HkGe.out)).trans HkGe.out
        have kH := hAns.k
        have hH := hAns.o
        have hTH := hAns.t
        have HHW : Hid (AlikeC RH RW) := hAns.a.symm.trans HAW.out
        have HHs : Hid RH.Small := hAns.a.small (sigM_small HS.out)
        clear hAns hb HSf HRd HB14 HWe HkWe HMe HkGe HTWe HTMe
        have cW := blk_cell kW
        have cH := blk_cell kH
        unfold Cnt.cells at cW cH
        go_wp2_with fail
        refine (eqCounts_any RH RW _ HHs.out hH.rd hW.rd HHW.out).mono ?_
        rintro e w15a ⟨rfl, hb⟩
        clear cW cH hH kH hW kW
        replace hM := hM.up hb
        replace kG := (hb.block _ (blk_lt kG)).trans kG
        replace hTW := hTW.up hb
        replace hTM := hTM.up hb
        replace hTH := hTH.up hb
        replace hB := next2 hB hb
        clear hb
        go_wp2_with fail
        refine (eqInts_any aH aW nT dH dW f _ hnl hTH.read hTW.read).mono ?_
        rintro e w15 ⟨rfl, hSm⟩
        have hb := hSm.below w15a.heap.size
        clear hSm hTH hTW
        replace hM := hM.up hb
        replace kG := (hb.block _ (blk_lt kG)).trans kG
        replace hTM := hTM.up hb
        replace hB := next2 hB hb
        clear hb
        have cG := blk_cell kG
        unfold Cnt.cells at cG
        go_wp2_with fail
        refine (heldCounts_any RG 1 wa.heap.size _ hM HGs.out (by omega)).mono ?_
        rintro e w16 ⟨rfl, hb⟩
        rw [hKK]
        clear cG
        replace hM := hM.up hb
        replace kG := (hb.block _ (blk_lt kG)).trans kG
        replace hTM := hTM.up hb
        replace hB := next2 hB hb
        clear hb
        have B := under2 hB
        go_wp2_with fail
        refine (heldVInts_any aG nT dG tot wa.heap.size _ hTM hnl htl).mono ?_
        rintro e w17 ⟨rfl, hw⟩
        subst hw
        clear hM kG hB hTM
        go_wp2_with fail
        go_ret
        exact ⟨rfl, B⟩

set_option maxRecDepth 100000 in
theorem signals_lifted (os : Os) (started : os.Started) (H : Type) (enc : TypeId × Value → H) :
    ReturnsInHanded {} Try.checked os 8 .any (Rows.fnExactSignalsSpec.pre6 enc Try.prog Try.f8 Rows.fnExactSignalsRow.domain false) (Rows.fnExactSignalsSpec.post enc Try.prog Try.f8 false true false false) := by
  refine returnsInHanded_of_change (C := Try.checked) ownOkC started (by kernel_rfl) Try.func8
    (ChangeSpec.witness6 (enc := enc) (C := Try.checked) false ⟨#[], #[.agg #[.int .i64 0, .int .i64 0, .int .i64 0, .int .i64 0, .int .i64 0, .int .i64 0, .int .i64 0], .agg #[.slice none 0 0, .int .i64 0, .slice none 0 0]], []⟩ 8 (by kernel_rfl) (by kernel_rfl) (by kernel_rfl) (by kernel_rfl)) ?_
  intro W base args ds gs before hval0 hW hcnd _
  have hval : ∀ (j : Nat) t v, Try.f8.params[j]? = some t → args[j]? = some v → Value.okWide Try.prog W .any base t v := hval0
  have hW' := hW
  obtain ⟨p, q, hA0, hV, rfl, hfz, hnd⟩ := hW
  have hA : DataW.TrodAll enc Try.prog W 0 (fun _ => true) true Try.f8.params.toList args.toList ds p := hA0
  rw [Try.params8] at hA hval
  obtain ⟨v0, vs0, d0, ds0, p0, q0, hargs, rfl, rfl, h0, r0⟩ := trodAll_cons hA
  obtain ⟨v1, vs1, d1, ds1, p1, q1, rfl, rfl, rfl, h1, r1⟩ := trodAll_cons r0
  obtain ⟨rfl, rfl, rfl⟩ := trodAll_nil r1
  obtain rfl : args = #[v0, v1] := by cases args; simp_all
  obtain ⟨rfl, rfl⟩ := trodVars_none hV
  have k0 := h0
  have lt0 : ∀ x ∈ p0, x.block < W.heap.size := by obtain ⟨m, hm⟩ := k0; exact DataW.trod_lt m _ _ _ hm
  obtain ⟨C0, rfl⟩ := open_config (hval 0 23 v0 rfl rfl) h0
  have k1 := h1
  have lt1 : ∀ x ∈ p1, x.block < W.heap.size := by obtain ⟨m, hm⟩ := k1; exact DataW.trod_lt m _ _ _ hm
  obtain ⟨N1, rfl, f1, rr1⟩ := open_counts (hval 1 31 v1 rfl rfl) h1
  clear hA0 hval0
  refine (signals_law C0 N1 W f1 rr1).mono fun e W' ⟨he, bel⟩ => ?_
  subst he
  exact ⟨_, rfl, _, _, _, [], _, [], hW', trodAll_mk1 (shut_bool Try.underlying4 _), (trodAll_cons_mk (Below.trod laidOutC (by kernel_rfl) (of_decide_eq_true (by kernel_rfl)) k0 bel lt0) (trodAll_cons_mk (Below.trod laidOutC (by kernel_rfl) (of_decide_eq_true (by kernel_rfl)) k1 bel lt1) trodAll_mk0)), rfl, bel.frame _, fun h => by cases h⟩

theorem signals_holds : Rows.FnExactSignalsSaid :=
  OpenClaim.holds_of_wide 8 Try.f8 rfl rfl rfl rfl rfl rfl rfl ⟨rfl, rfl, rfl, rfl, rfl⟩ rfl rfl rfl rfl rfl (by kernel_rfl) Try.func8 (by kernel_rfl)
    (of_decide_eq_true (by kernel_rfl)) (by unfold Func.isWrapper; first | (rw [if_pos (by decide +kernel)]; kernel_rfl) | (rw [if_neg (by decide +kernel)]; exact ⟨rfl, rfl⟩))
    (fun os started H enc _ => signals_lifted os started H enc)
#print axioms signals_holds
end Go.Proofs.Ytalbkpofiobmiaa
