import Derived.Test.YtlipielghpoaoaaGreatT03
import Derived.Test.YtlipielghpoaoaaGreatT06
import Derived.Test.YtlipielghpoaoaaGreatT20
import Derived.Test.YtlipielghpoaoaaGreatT22
import Derived.Test.YtlipielghpoaoaaGreatT23
import Derived.Maps.AppendAt
import Derived.Maps.OwnSet
import Derived.Room.AppendFits
namespace Go.Proofs.YtlipielghpoaoaaGreat
open Go.RowKit
set_option linter.unusedVariables false
set_option linter.unusedSimpArgs false
theorem cp2L_alike {R : Rnd} {aq ad av : Option Addr} {cq cd cv : Nat} {A : Nat → Option Addr} {C : Nat → Nat} : Alike R (R.cp2 aq cq ad cd av cv A C) := ⟨rfl, rfl, rfl, rfl, rfl, rfl, rfl, rfl, rfl⟩
theorem appendNew {V : World} {a : Option Addr} {n c : Nat} {f : Nat → Int} (hn : n ≤ 1048576) (hr : RdRow V a n fun i => .int .i64 (f i)) :
  ∃ a' c' W', (Builtin.append_ #[25, 25] 25 #[.slice (some ⟨V.heap.size, 0, none⟩) 0 0, .slice a n c]).run Tryz.prog (V.alloc (.cells #[] 2)) = .ok (.slice a' n c') W' ∧ OI W' V.heap.size a' n c' f ∧ Below V.heap.size V W' := by
 have hA : Below V.heap.size V (V.alloc (.cells #[] 2)) := (Below.refl _ _).alloc (Nat.le_refl _) _
 have hm : (V.alloc (.cells #[] 2)).ownsRow V.heap.size 2 1 (.slice (some ⟨V.heap.size, 0, none⟩) 0 0) 0 [] := World.ownsRow_made V #[] 0 (Nat.le_refl _) (Nat.zero_le _) rfl
 obtain ⟨a', c', W', h1, h2, h3, _⟩ := appendA (c := c) hm (by simp) hn (hr.up hA)
 exact ⟨a', c', W', h1, h2, hA.grown h3 (by simp) (fun k e => by simp [Value.ownBlock] at e; omega)⟩
theorem cutOwn2 {V X : World} {base gB : Nat} {l : Lng} {aT aq ad av : Option Addr} {cT cq cd cv : Nat} {A : Nat → Option Addr} {C : Nat → Nat} {cur : Array Value} (oT : OI V base aT l.nT cT l.t) (oR : OwnRz V base (l.R.cp2 aq cq ad cd av cv A C)) (hTR : ∀ x ∈ blkO aT, x ∉ (l.R.cp2 aq cq ad cd av cv A C).blkz)
  (kB : V.heap[gB]? = some (.cells cur 67 (0, 0))) (hP : Put V X gB (Lng.cells ⟨l.st, aT, l.nT, cT, l.t, none, 0, 0, fun _ => none, l.uL, fun _ => 0, l.uz, l.R.cp2 aq cq ad cd av cv A C⟩) 67) : CpL base gB l ⟨l.st, aT, l.nT, cT, l.t, none, 0, 0, fun _ => none, l.uL, fun _ => 0, l.uz, l.R.cp2 aq cq ad cd av cv A C⟩ X := by
 have h1 : OwnLz V base ⟨l.st, aT, l.nT, cT, l.t, none, 0, 0, fun _ => none, l.uL, fun _ => 0, l.uz, l.R.cp2 aq cq ad cd av cv A C⟩ := by
  refine ⟨oT, OG.nil _ _ _ _, fun i hi => absurd hi (Nat.not_lt_zero _), oR, ?_, fun x hx hy => by simp [blkO] at hy⟩
  show ((blkO aT ++ _) ++ []).Nodup
  rw [List.append_nil]
  exact List.nodup_append.2 ⟨blkO_nodup _, oR.nd, fun x hx y hy e => hTR x hx (e ▸ hy)⟩
 exact ⟨h1.box kB (by decide) (by decide) hP.to, hP.blk, rfl, rfl, rfl, rfl, rfl, cp2L_alike⟩
set_option maxRecDepth 100000 in
set_option maxHeartbeats 4000000 in
theorem l6CopyLane_any (l : Lng) (w : World) (hs : l.Small) (h : RdLg w l) :
  Calls Tryz.prog 120 #[.agg l.cells] w fun e w' => ∃ l2, e = .returned (.agg l2.cells) ∧ AlikeL l l2 ∧ OwnLz w' w.heap.size l2 ∧ Below w.heap.size w w' := by
 have HR : Hid (RdLg w l) := h
 have HS : Hid l.Small := hs
 obtain ⟨W, eW⟩ : ∃ W, (w.alloc (.cells l.cells 67)).alloc (.cells #[.bool false, .slice none 0 0, .slice none 0 0, .slice none 0 0, .slice none 0 0, .int .i64 0, .bool false, .slice none 0 0] 67) = W := ⟨_, rfl⟩
 have HX : Hid (Two w l.cells zLane 67 W) := by rw [← eW]; exact Two.start _ _ _ _
 clear h hs
 go_enter Tryz.func120, Tryz.ntmps120
 go_wp2_with fail
 clear eW
 go_cut [3] (fun v wc => CutL w l v wc)
 case first =>
  replace HX : Hid (Two w l.cells zLane 67 W.drew) := HX.out.up ((Below.refl _ _).drew)
  have hz0 : w.heap.size + 1 < W.drew.heap.size := blk_lt HX.out.b
  refine wp_region_E (fun w' => w'.heap[w.heap.size]? = some (.cells l.cells 67 (0, 0))) 11 (by kernel_rfl) ?_
  generalize W.drew = V at *
  have hT0 := HX.out.a
  refine takeE (i := 0) (some 5) (v := ?_) ?_ hT0 ?_
  rotate_left
  ·
   intro wx hSw
   go_simp
   try (with_reducible rfl)
  try simp only [Act.put, PZ]
  refine takeE (i := 1) (some 6) (v := ?_) ?_ hT0 ?_
  rotate_left
  ·
   intro wx hSw
   have c0 : wx.cell? ⟨w.heap.size, 0, none⟩ = some (.bool l.st) := blk_cell hSw 0
   go_simp
   try (with_reducible rfl)
  try simp only [Act.put, PZ]
  refine takeE (i := 3) (some 8) (v := ?_) ?_ hT0 ?_
  rotate_left
  ·
   intro wx hSw
   go_simp
   try (with_reducible rfl)
  try simp only [Act.put, PZ]
  refine takeE (i := 4) (some 9) (v := ?_) ?_ hT0 ?_
  rotate_left
  ·
   intro wx hSw
   have c1 : wx.cell? ⟨w.heap.size, 1, none⟩ = some (.slice l.aT l.nT l.cT) := blk_cell hSw 1
   go_simp
   try (with_reducible rfl)
  try simp only [Act.put, PZ]
  refine takeE (i := 6) (some 11) (v := ?_) ?_ hT0 ?_
  rotate_left
  ·
   intro wx hSw
   go_simp
   try (with_reducible rfl)
  try simp only [Act.put, PZ]
  refine takeE (i := 7) (some 12) (v := .agg l.R.cells) ?_ hT0 ?_
  ·
   intro wx hSw
   exact run_ldT 65 5 _ Tryz.underlying65 rfl infoRn (.tmp 11) rfl w.heap.size 3 rfl l.R.cells rfl (fun j hj => rdR hSw j hj)
  try simp only [Act.put, PZ]
  refine wpAnyE_ready (rs := [2, 10]) (by kernel_rfl) (by simp) ?_
  refine AllReadyE.cons rfl (fun K hK => ?_) (AllReadyE.cons rfl (fun K hK => ?_) AllReadyE.nil)
  ·
   obtain ⟨X1, eV⟩ : ∃ X, V.alloc (.cells #[] 2) = X := ⟨_, rfl⟩
   have hb : Below V.heap.size V X1 := by rw [← eV]; exact (Below.refl _ _).alloc (Nat.le_refl _) _
   have oE : OG 2 1 X1 w.heap.size (some ⟨V.heap.size, 0, none⟩) 0 0 [] := by rw [← eV]; exact World.ownsRow_made V #[] 0 HX.out.bel.size (Nat.zero_le _) rfl
   go_simp
   clear eV
   replace HX : Hid (Two w l.cells zLane 67 X1) := HX.out.up hb
   replace hT0 := HX.out.a
   clear hb
   obtain ⟨gE, eE⟩ : ∃ g, V.heap.size = g := ⟨_, rfl⟩
   rw [eE] at oE ⊢
   refine hK.out _ _ hT0 ?_
   clear hK K
   try simp only [Act.put, PZ]
   refine wpAnyE_ready (rs := [5, 10]) (by kernel_rfl) (by simp) ?_
   refine AllReadyE.cons rfl (fun K hK => ?_) (AllReadyE.cons rfl (fun K hK => ?_) AllReadyE.nil)
   ·
    obtain ⟨aT, cT, X2, hr, oT, hgr, _⟩ := appendA (c := l.cT) oE HX.out.bel.size HS.out.t (HR.out.t.up HX.out.bel)
    have hgt : Touch [gE] X1 X2 := Touch.ofGrown (v := .slice (some ⟨gE, 0, none⟩) 0 0) hgr
    have lE := (OG.blk oE gE (by simp [blkO])).1
    have hne := OG.notT oE (by decide) HX.out.a
    have hne2 := OG.notT oE (by decide) HX.out.b
    refine wp_appE (by kernel_rfl) (some 10) rfl (.tmp 7) (.tmp 9) 25 _ _ _ rfl rfl rfl rfl hr ?_
    replace HX : Hid (Two w l.cells zLane 67 X2) := ⟨(hgt.block _ (blk_lt HX.out.a) (by simpa [blkO] using hne)).trans HX.out.a, (hgt.block _ (blk_lt HX.out.b) (by simpa [blkO] using hne2)).trans HX.out.b, HX.out.bel.trans (hgt.below HX.out.bel.size (fun x hx => by simp at hx; omega))⟩
    replace hT0 := HX.out.a
    clear hr hgr hgt hne hne2 lE oE
    refine hK.out _ _ hT0 ?_
    clear hK K
    try simp only [Act.put, PZ]
    refine wpAnyE_ready (rs := [8, 10]) (by kernel_rfl) (by simp) ?_
    refine AllReadyE.cons rfl (fun K hK => ?_) (AllReadyE.cons rfl (fun K hK => ?_) AllReadyE.nil)
    ·
     go_simp
     refine (l4Copy_any l.R _ HS.out.r (HR.out.r.up HX.out.bel)).mono ?_
     rintro e X3 ⟨aq, cq, ad, cd, av, cv, A, C, rfl, oR, hb⟩
     have hTR : ∀ x ∈ blkO aT, x ∉ (l.R.cp2 aq cq ad cd av cv A C).blkz := fun x hx hy => by have := (OI.blk oT x hx).2; have := (oR.blk x hy).1; omega
     replace oR := oR.monoZ (base' := w.heap.size) HX.out.bel.size
     replace HX : Hid (Two w l.cells zLane 67 X3) := HX.out.up hb
     replace hT0 := HX.out.a
     replace oT := oT.up hb
     clear hb
     dsimp only [Rnd.cells, Rnd.cp2]
     go_wp2_with fail
     refine hK.out _ _ hT0 ?_
     clear hK K
     try simp only [Act.put, PZ]
     refine takeE (i := 9) (some 14) (v := ?_) ?_ hT0 ?_
     rotate_left
     ·
      intro wx hSw
      go_simp
      try (with_reducible rfl)
     try simp only [Act.put, PZ]
     refine wpAnyE_ready (rs := [10]) (by kernel_rfl) (by simp) ?_
     refine AllReadyE.cons rfl (fun K hK => ?_) AllReadyE.nil
     ·
      obtain ⟨X4, eV⟩ : ∃ X, X3.alloc (.cells #[.bool false, .slice none 0 0, .slice none 0 0, .slice none 0 0, .slice none 0 0, .int .i64 0, .bool false, .slice none 0 0] 67) = X := ⟨_, rfl⟩
      have hb : Below X3.heap.size X3 X4 := by rw [← eV]; exact (Below.refl _ _).alloc (Nat.le_refl _) _
      have kB : X4.heap[X3.heap.size]? = some (.cells #[.bool false, .slice none 0 0, .slice none 0 0, .slice none 0 0, .slice none 0 0, .int .i64 0, .bool false, .slice none 0 0] 67 (0, 0)) := by rw [← eV]; exact blk_new _ _
      have hgB : w.heap.size + 1 < X3.heap.size := blk_lt HX.out.b
      go_simp
      clear eV
      replace HX : Hid (Two w l.cells zLane 67 X4) := HX.out.up hb
      replace hT0 := HX.out.a
      replace oT := oT.up hb
      replace oR := oR.upZ hb
      clear hb
      obtain ⟨gB, eB⟩ : ∃ g, X3.heap.size = g := ⟨_, rfl⟩
      rw [eB] at kB hgB ⊢
      refine hK.out _ _ hT0 ?_
      clear hK K
      try simp only [Act.put, PZ]
      refine wpAnyE_ready (rs := [11]) (by kernel_rfl) (by simp) ?_
      refine AllReadyE.last rfl (fun K hK => ?_)
      refine wp_stE (by kernel_rfl) none rfl 67 (.tmp 3) (.tmp 14) rfl gB 0 rfl (.agg #[.bool l.st, .slice aT l.nT cT, .slice none 0 0, .slice aq l.R.nQ cq, .slice ad l.R.nD cd, .int .i64 l.R.turn, .bool l.R.fresh, .slice av l.R.nS cv]) rfl 8 rfl 67 _ kB infoLgI (Nat.le_of_ble_eq_true rfl) (by simp [Value.cells, Value.oneCell']) ?_
      intro X hP
      refine hK.out _ _ ?_
      clear hK K
      try simp only [Act.put, PZ]
      refine wpAnyE_done (by kernel_rfl) ?_ _
      obtain ⟨p, ep⟩ : ∃ p, (⟨l.st, aT, l.nT, cT, l.t, none, 0, 0, fun _ => none, l.uL, fun _ => 0, l.uz, l.R.cp2 aq cq ad cd av cv A C⟩ : Lng) = p := ⟨_, rfl⟩
      replace hP : Put X4 X gB p.cells 67 := hP.cast (by rw [← ep]; rfl)
      have HC : Hid (CutL w l (.pointer (some ⟨gB, 0, none⟩)) X) := ⟨gB, p, rfl, hgB, by rw [← ep], by rw [← ep], by rw [← ep], by
       rw [← ep] at hP ⊢
       exact cutOwn2 oT oR hTR kB hP, ⟨(hP.to.block _ (blk_lt HX.out.a) (by simp; omega)).trans HX.out.a, (hP.to.block _ (blk_lt HX.out.b) (by simp; omega)).trans HX.out.b, HX.out.bel.trans (hP.to.below HX.out.bel.size (fun x hx => by simp at hx; omega))⟩⟩
      clear hP oT oR kB hTR HX hT0 ep
      go_wp2_with fail
      go_meet
      case rel => exact HC.out
    ·
     obtain ⟨X5, eV⟩ : ∃ X, X2.alloc (.cells #[.bool false, .slice none 0 0, .slice none 0 0, .slice none 0 0, .slice none 0 0, .int .i64 0, .bool false, .slice none 0 0] 67) = X := ⟨_, rfl⟩
     have hb : Below X2.heap.size X2 X5 := by rw [← eV]; exact (Below.refl _ _).alloc (Nat.le_refl _) _
     have kB : X5.heap[X2.heap.size]? = some (.cells #[.bool false, .slice none 0 0, .slice none 0 0, .slice none 0 0, .slice none 0 0, .int .i64 0, .bool false, .slice none 0 0] 67 (0, 0)) := by rw [← eV]; exact blk_new _ _
     have hgB : w.heap.size + 1 < X2.heap.size := blk_lt HX.out.b
     go_simp
     clear eV
     replace HX : Hid (Two w l.cells zLane 67 X5) := HX.out.up hb
     replace hT0 := HX.out.a
     replace oT := oT.up hb
     clear hb
     obtain ⟨gB, eB⟩ : ∃ g, X2.heap.size = g := ⟨_, rfl⟩
     rw [eB] at kB hgB ⊢
     refine hK.out _ _ hT0 ?_
     clear hK K
     try simp only [Act.put, PZ]
     refine wpAnyE_ready (rs := [8]) (by kernel_rfl) (by simp) ?_
     refine AllReadyE.cons rfl (fun K hK => ?_) AllReadyE.nil
     ·
      go_simp
      refine (l4Copy_any l.R _ HS.out.r (HR.out.r.up HX.out.bel)).mono ?_
      rintro e X6 ⟨aq, cq, ad, cd, av, cv, A, C, rfl, oR, hb⟩
      have hTR : ∀ x ∈ blkO aT, x ∉ (l.R.cp2 aq cq ad cd av cv A C).blkz := fun x hx hy => by have := (OI.blk oT x hx).2; have := (oR.blk x hy).1; omega
      replace oR := oR.monoZ (base' := w.heap.size) HX.out.bel.size
      replace HX : Hid (Two w l.cells zLane 67 X6) := HX.out.up hb
      replace hT0 := HX.out.a
      replace oT := oT.up hb
      replace kB := (hb.block _ (blk_lt kB)).trans kB
      clear hb
      dsimp only [Rnd.cells, Rnd.cp2]
      go_wp2_with fail
      refine hK.out _ _ hT0 ?_
      clear hK K
      try simp only [Act.put, PZ]
      refine takeE (i := 9) (some 14) (v := ?_) ?_ hT0 ?_
      rotate_left
      ·
       intro wx hSw
       go_simp
       try (with_reducible rfl)
      try simp only [Act.put, PZ]
      refine wpAnyE_ready (rs := [11]) (by kernel_rfl) (by simp) ?_
      refine AllReadyE.last rfl (fun K hK => ?_)
      refine wp_stE (by kernel_rfl) none rfl 67 (.tmp 3) (.tmp 14) rfl gB 0 rfl (.agg #[.bool l.st, .slice aT l.nT cT, .slice none 0 0, .slice aq l.R.nQ cq, .slice ad l.R.nD cd, .int .i64 l.R.turn, .bool l.R.fresh, .slice av l.R.nS cv]) rfl 8 rfl 67 _ kB infoLgI (Nat.le_of_ble_eq_true rfl) (by simp [Value.cells, Value.oneCell']) ?_
      intro X hP
      refine hK.out _ _ ?_
      clear hK K
      try simp only [Act.put, PZ]
      refine wpAnyE_done (by kernel_rfl) ?_ _
      obtain ⟨p, ep⟩ : ∃ p, (⟨l.st, aT, l.nT, cT, l.t, none, 0, 0, fun _ => none, l.uL, fun _ => 0, l.uz, l.R.cp2 aq cq ad cd av cv A C⟩ : Lng) = p := ⟨_, rfl⟩
      replace hP : Put X6 X gB p.cells 67 := hP.cast (by rw [← ep]; rfl)
      have HC : Hid (CutL w l (.pointer (some ⟨gB, 0, none⟩)) X) := ⟨gB, p, rfl, hgB, by rw [← ep], by rw [← ep], by rw [← ep], by
       rw [← ep] at hP ⊢
       exact cutOwn2 oT oR hTR kB hP, ⟨(hP.to.block _ (blk_lt HX.out.a) (by simp; omega)).trans HX.out.a, (hP.to.block _ (blk_lt HX.out.b) (by simp; omega)).trans HX.out.b, HX.out.bel.trans (hP.to.below HX.out.bel.size (fun x hx => by simp at hx; omega))⟩⟩
      clear hP oT oR kB hTR HX hT0 ep
      go_wp2_with fail
      go_meet
      case rel => exact HC.out
   ·
    obtain ⟨X7, eV⟩ : ∃ X, X1.alloc (.cells #[.bool false, .slice none 0 0, .slice none 0 0, .slice none 0 0, .slice none 0 0, .int .i64 0, .bool false, .slice none 0 0] 67) = X := ⟨_, rfl⟩
    have hb : Below X1.heap.size X1 X7 := by rw [← eV]; exact (Below.refl _ _).alloc (Nat.le_refl _) _
    have kB : X7.heap[X1.heap.size]? = some (.cells #[.bool false, .slice none 0 0, .slice none 0 0, .slice none 0 0, .slice none 0 0, .int .i64 0, .bool false, .slice none 0 0] 67 (0, 0)) := by rw [← eV]; exact blk_new _ _
    have hgB : w.heap.size + 1 < X1.heap.size := blk_lt HX.out.b
    go_simp
    clear eV
    replace HX : Hid (Two w l.cells zLane 67 X7) := HX.out.up hb
    replace hT0 := HX.out.a
    replace oE := OG.up oE hb
    clear hb
    obtain ⟨gB, eB⟩ : ∃ g, X1.heap.size = g := ⟨_, rfl⟩
    rw [eB] at kB hgB ⊢
    refine hK.out _ _ hT0 ?_
    clear hK K
    try simp only [Act.put, PZ]
    refine wpAnyE_ready (rs := [5]) (by kernel_rfl) (by simp) ?_
    refine AllReadyE.cons rfl (fun K hK => ?_) AllReadyE.nil
    ·
     obtain ⟨aT, cT, X8, hr, oT, hgr, _⟩ := appendA (c := l.cT) oE HX.out.bel.size HS.out.t (HR.out.t.up HX.out.bel)
     have hgt : Touch [gE] X7 X8 := Touch.ofGrown (v := .slice (some ⟨gE, 0, none⟩) 0 0) hgr
     have lE := (OG.blk oE gE (by simp [blkO])).1
     have hne := OG.notT oE (by decide) HX.out.a
     have hne2 := OG.notT oE (by decide) HX.out.b
     have hne3 := OG.notT oE (by decide) kB
     replace kB := (hgt.block _ (blk_lt kB) (by simpa [blkO] using hne3)).trans kB
     clear hne3
     refine wp_appE (by kernel_rfl) (some 10) rfl (.tmp 7) (.tmp 9) 25 _ _ _ rfl rfl rfl rfl hr ?_
     replace HX : Hid (Two w l.cells zLane 67 X8) := ⟨(hgt.block _ (blk_lt HX.out.a) (by simpa [blkO] using hne)).trans HX.out.a, (hgt.block _ (blk_lt HX.out.b) (by simpa [blkO] using hne2)).trans HX.out.b, HX.out.bel.trans (hgt.below HX.out.bel.size (fun x hx => by simp at hx; omega))⟩
     replace hT0 := HX.out.a
     clear hr hgr hgt hne hne2 lE oE
     refine hK.out _ _ hT0 ?_
     clear hK K
     try simp only [Act.put, PZ]
     refine wpAnyE_ready (rs := [8]) (by kernel_rfl) (by simp) ?_
     refine AllReadyE.cons rfl (fun K hK => ?_) AllReadyE.nil
     ·
      go_simp
      refine (l4Copy_any l.R _ HS.out.r (HR.out.r.up HX.out.bel)).mono ?_
      rintro e X9 ⟨aq, cq, ad, cd, av, cv, A, C, rfl, oR, hb⟩
      have hTR : ∀ x ∈ blkO aT, x ∉ (l.R.cp2 aq cq ad cd av cv A C).blkz := fun x hx hy => by have := (OI.blk oT x hx).2; have := (oR.blk x hy).1; omega
      replace oR := oR.monoZ (base' := w.heap.size) HX.out.bel.size
      replace HX : Hid (Two w l.cells zLane 67 X9) := HX.out.up hb
      replace hT0 := HX.out.a
      replace oT := oT.up hb
      replace kB := (hb.block _ (blk_lt kB)).trans kB
      clear hb
      dsimp only [Rnd.cells, Rnd.cp2]
      go_wp2_with fail
      refine hK.out _ _ hT0 ?_
      clear hK K
      try simp only [Act.put, PZ]
      refine takeE (i := 9) (some 14) (v := ?_) ?_ hT0 ?_
      rotate_left
      ·
       intro wx hSw
       go_simp
       try (with_reducible rfl)
      try simp only [Act.put, PZ]
      refine wpAnyE_ready (rs := [11]) (by kernel_rfl) (by simp) ?_
      refine AllReadyE.last rfl (fun K hK => ?_)
      refine wp_stE (by kernel_rfl) none rfl 67 (.tmp 3) (.tmp 14) rfl gB 0 rfl (.agg #[.bool l.st, .slice aT l.nT cT, .slice none 0 0, .slice aq l.R.nQ cq, .slice ad l.R.nD cd, .int .i64 l.R.turn, .bool l.R.fresh, .slice av l.R.nS cv]) rfl 8 rfl 67 _ kB infoLgI (Nat.le_of_ble_eq_true rfl) (by simp [Value.cells, Value.oneCell']) ?_
      intro X hP
      refine hK.out _ _ ?_
      clear hK K
      try simp only [Act.put, PZ]
      refine wpAnyE_done (by kernel_rfl) ?_ _
      obtain ⟨p, ep⟩ : ∃ p, (⟨l.st, aT, l.nT, cT, l.t, none, 0, 0, fun _ => none, l.uL, fun _ => 0, l.uz, l.R.cp2 aq cq ad cd av cv A C⟩ : Lng) = p := ⟨_, rfl⟩
      replace hP : Put X9 X gB p.cells 67 := hP.cast (by rw [← ep]; rfl)
      have HC : Hid (CutL w l (.pointer (some ⟨gB, 0, none⟩)) X) := ⟨gB, p, rfl, hgB, by rw [← ep], by rw [← ep], by rw [← ep], by
       rw [← ep] at hP ⊢
       exact cutOwn2 oT oR hTR kB hP, ⟨(hP.to.block _ (blk_lt HX.out.a) (by simp; omega)).trans HX.out.a, (hP.to.block _ (blk_lt HX.out.b) (by simp; omega)).trans HX.out.b, HX.out.bel.trans (hP.to.below HX.out.bel.size (fun x hx => by simp at hx; omega))⟩⟩
      clear hP oT oR kB hTR HX hT0 ep
      go_wp2_with fail
      go_meet
      case rel => exact HC.out
  ·
   obtain ⟨X10, eV⟩ : ∃ X, V.alloc (.cells #[.bool false, .slice none 0 0, .slice none 0 0, .slice none 0 0, .slice none 0 0, .int .i64 0, .bool false, .slice none 0 0] 67) = X := ⟨_, rfl⟩
   have hb : Below V.heap.size V X10 := by rw [← eV]; exact (Below.refl _ _).alloc (Nat.le_refl _) _
   have kB : X10.heap[V.heap.size]? = some (.cells #[.bool false, .slice none 0 0, .slice none 0 0, .slice none 0 0, .slice none 0 0, .int .i64 0, .bool false, .slice none 0 0] 67 (0, 0)) := by rw [← eV]; exact blk_new _ _
   have hgB : w.heap.size + 1 < V.heap.size := blk_lt HX.out.b
   go_simp
   clear eV
   replace HX : Hid (Two w l.cells zLane 67 X10) := HX.out.up hb
   replace hT0 := HX.out.a
   clear hb
   obtain ⟨gB, eB⟩ : ∃ g, V.heap.size = g := ⟨_, rfl⟩
   rw [eB] at kB hgB ⊢
   refine hK.out _ _ hT0 ?_
   clear hK K
   try simp only [Act.put, PZ]
   refine wpAnyE_ready (rs := [2]) (by kernel_rfl) (by simp) ?_
   refine AllReadyE.cons rfl (fun K hK => ?_) AllReadyE.nil
   ·
    obtain ⟨X11, eV⟩ : ∃ X, X10.alloc (.cells #[] 2) = X := ⟨_, rfl⟩
    have hb : Below X10.heap.size X10 X11 := by rw [← eV]; exact (Below.refl _ _).alloc (Nat.le_refl _) _
    have oE : OG 2 1 X11 w.heap.size (some ⟨X10.heap.size, 0, none⟩) 0 0 [] := by rw [← eV]; exact World.ownsRow_made X10 #[] 0 HX.out.bel.size (Nat.zero_le _) rfl
    go_simp
    clear eV
    replace HX : Hid (Two w l.cells zLane 67 X11) := HX.out.up hb
    replace hT0 := HX.out.a
    replace kB := (hb.block _ (blk_lt kB)).trans kB
    clear hb
    obtain ⟨gE, eE⟩ : ∃ g, X10.heap.size = g := ⟨_, rfl⟩
    rw [eE] at oE ⊢
    refine hK.out _ _ hT0 ?_
    clear hK K
    try simp only [Act.put, PZ]
    refine wpAnyE_ready (rs := [5]) (by kernel_rfl) (by simp) ?_
    refine AllReadyE.cons rfl (fun K hK => ?_) AllReadyE.nil
    ·
     obtain ⟨aT, cT, X12, hr, oT, hgr, _⟩ := appendA (c := l.cT) oE HX.out.bel.size HS.out.t (HR.out.t.up HX.out.bel)
     have hgt : Touch [gE] X11 X12 := Touch.ofGrown (v := .slice (some ⟨gE, 0, none⟩) 0 0) hgr
     have lE := (OG.blk oE gE (by simp [blkO])).1
     have hne := OG.notT oE (by decide) HX.out.a
     have hne2 := OG.notT oE (by decide) HX.out.b
     have hne3 := OG.notT oE (by decide) kB
     replace kB := (hgt.block _ (blk_lt kB) (by simpa [blkO] using hne3)).trans kB
     clear hne3
     refine wp_appE (by kernel_rfl) (some 10) rfl (.tmp 7) (.tmp 9) 25 _ _ _ rfl rfl rfl rfl hr ?_
     replace HX : Hid (Two w l.cells zLane 67 X12) := ⟨(hgt.block _ (blk_lt HX.out.a) (by simpa [blkO] using hne)).trans HX.out.a, (hgt.block _ (blk_lt HX.out.b) (by simpa [blkO] using hne2)).trans HX.out.b, HX.out.bel.trans (hgt.below HX.out.bel.size (fun x hx => by simp at hx; omega))⟩
     replace hT0 := HX.out.a
     clear hr hgr hgt hne hne2 lE oE
     refine hK.out _ _ hT0 ?_
     clear hK K
     try simp only [Act.put, PZ]
     refine wpAnyE_ready (rs := [8]) (by kernel_rfl) (by simp) ?_
     refine AllReadyE.cons rfl (fun K hK => ?_) AllReadyE.nil
     ·
      go_simp
      refine (l4Copy_any l.R _ HS.out.r (HR.out.r.up HX.out.bel)).mono ?_
      rintro e X13 ⟨aq, cq, ad, cd, av, cv, A, C, rfl, oR, hb⟩
      have hTR : ∀ x ∈ blkO aT, x ∉ (l.R.cp2 aq cq ad cd av cv A C).blkz := fun x hx hy => by have := (OI.blk oT x hx).2; have := (oR.blk x hy).1; omega
      replace oR := oR.monoZ (base' := w.heap.size) HX.out.bel.size
      replace HX : Hid (Two w l.cells zLane 67 X13) := HX.out.up hb
      replace hT0 := HX.out.a
      replace oT := oT.up hb
      replace kB := (hb.block _ (blk_lt kB)).trans kB
      clear hb
      dsimp only [Rnd.cells, Rnd.cp2]
      go_wp2_with fail
      refine hK.out _ _ hT0 ?_
      clear hK K
      try simp only [Act.put, PZ]
      refine takeE (i := 9) (some 14) (v := ?_) ?_ hT0 ?_
      rotate_left
      ·
       intro wx hSw
       go_simp
       try (with_reducible rfl)
      try simp only [Act.put, PZ]
      refine wpAnyE_ready (rs := [11]) (by kernel_rfl) (by simp) ?_
      refine AllReadyE.last rfl (fun K hK => ?_)
      refine wp_stE (by kernel_rfl) none rfl 67 (.tmp 3) (.tmp 14) rfl gB 0 rfl (.agg #[.bool l.st, .slice aT l.nT cT, .slice none 0 0, .slice aq l.R.nQ cq, .slice ad l.R.nD cd, .int .i64 l.R.turn, .bool l.R.fresh, .slice av l.R.nS cv]) rfl 8 rfl 67 _ kB infoLgI (Nat.le_of_ble_eq_true rfl) (by simp [Value.cells, Value.oneCell']) ?_
      intro X hP
      refine hK.out _ _ ?_
      clear hK K
      try simp only [Act.put, PZ]
      refine wpAnyE_done (by kernel_rfl) ?_ _
      obtain ⟨p, ep⟩ : ∃ p, (⟨l.st, aT, l.nT, cT, l.t, none, 0, 0, fun _ => none, l.uL, fun _ => 0, l.uz, l.R.cp2 aq cq ad cd av cv A C⟩ : Lng) = p := ⟨_, rfl⟩
      replace hP : Put X13 X gB p.cells 67 := hP.cast (by rw [← ep]; rfl)
      have HC : Hid (CutL w l (.pointer (some ⟨gB, 0, none⟩)) X) := ⟨gB, p, rfl, hgB, by rw [← ep], by rw [← ep], by rw [← ep], by
       rw [← ep] at hP ⊢
       exact cutOwn2 oT oR hTR kB hP, ⟨(hP.to.block _ (blk_lt HX.out.a) (by simp; omega)).trans HX.out.a, (hP.to.block _ (blk_lt HX.out.b) (by simp; omega)).trans HX.out.b, HX.out.bel.trans (hP.to.below HX.out.bel.size (fun x hx => by simp at hx; omega))⟩⟩
      clear hP oT oR kB hTR HX hT0 ep
      go_wp2_with fail
      go_meet
      case rel => exact HC.out
 case rest =>
  obtain ⟨gB, p, rfl, hgB, hnU, haU, hcU, hC, hX⟩ := hcut
  have HC : Hid (CpL w.heap.size gB l p wc) := hC
  replace HX : Hid (Two w l.cells zLane 67 wc) := hX
  have HP0 : Hid (p.nU = 0) := hnU
  have HgB : Hid (w.heap.size + 1 < gB) := hgB
  clear hC hX hnU haU hcU hgB
  have HU : Hid (RdRow w l.aU l.nU fun i => .slice (l.uA i) (l.uL i) (l.uC i)) := HR.out.u
  obtain ⟨aU, eU⟩ : ∃ a, l.aU = a := ⟨_, rfl⟩
  have HAU : Hid (l.aU = aU) := eU
  rw [eU] at HU
  clear eU
  have hnu := HS.out.u
  go_wp2_with fail
  go_loopw [4] (fun i wr => ∃ (k : Nat) (q : Lng), k ≤ l.nU ∧ i = .int .i64 k ∧ Hid (q.nU = k ∧ CpL w.heap.size gB l q wr ∧ Two w l.cells zLane 67 wr)) (fun i _ => l.nU - (intOf i).toNat)
  case atStart => exact ⟨0, p, Nat.zero_le _, rfl, ⟨HP0.out, HC.out, HX.out⟩⟩
  case round =>
   clear HC HX
   obtain ⟨k, q, hk, rfl, HQ⟩ := hrel
   have c2 : wr.cell? ⟨w.heap.size, 2, none⟩ = some (.slice aU l.nU l.cU) := by rw [← HAU.out]; exact blk_cell HQ.out.2.2.a 2
   by_cases hlt : k < l.nU
   ·
    have hlt' : (k : Int) < l.nU := by omega
    obtain ⟨g0, o0, ea, hc0⟩ := (HU.out.up HQ.out.2.2.bel) k hlt
    subst ea
    dsimp only at hc0
    go_wp2_with fail
    refine wp_region_E (fun w' => w'.heap[gB]? = some (.cells q.cells 67 (0, 0)) ∧ w'.cell? ⟨w.heap.size, 2, none⟩ = some (.slice (some ⟨g0, o0, none⟩) l.nU l.cU) ∧ w'.cell? ⟨g0, o0 + k, none⟩ = some (.slice (l.uA k) (l.uL k) (l.uC k))) 12 (by kernel_rfl) ?_
    have hd : Below wr.heap.size wr wr.drew := (Below.refl _ _).drew
    replace HQ : Hid (q.nU = k ∧ CpL w.heap.size gB l q wr.drew ∧ Two w l.cells zLane 67 wr.drew) := ⟨HQ.out.1, HQ.out.2.1.up hd, HQ.out.2.2.up hd⟩
    replace c2 : wr.drew.cell? ⟨w.heap.size, 2, none⟩ = some (.slice (some ⟨g0, o0, none⟩) l.nU l.cU) := c2
    replace hc0 : wr.drew.cell? ⟨g0, o0 + k, none⟩ = some (.slice (l.uA k) (l.uL k) (l.uC k)) := hc0
    clear hd
    generalize wr.drew = V at *
    have hg0 : g0 < w.heap.size := by obtain ⟨g9, o9, e9, h9⟩ := HU.out k hlt; cases e9; exact cellLt h9
    have HTT : Hid (∀ X : World, X.heap[gB]? = some (.cells q.cells 67 (0, 0)) → Below w.heap.size w X → X.heap[w.heap.size]? = some (.cells l.cells 67 (0, 0)) → (fun w' => w'.heap[gB]? = some (.cells q.cells 67 (0, 0)) ∧ w'.cell? ⟨w.heap.size, 2, none⟩ = some (.slice (some ⟨g0, o0, none⟩) l.nU l.cU) ∧ w'.cell? ⟨g0, o0 + k, none⟩ = some (.slice (l.uA k) (l.uL k) (l.uC k))) X) := fun X e1 e2 e3 => ⟨e1, (blk_cell e3 2).trans ((blk_cell HQ.out.2.2.a 2).symm.trans c2), by
     obtain ⟨g9, o9, e9, h9⟩ := (HU.out.up e2) k hlt
     cases e9
     exact h9⟩
    have hT0 := HTT.out V HQ.out.2.1.box HQ.out.2.2.bel HQ.out.2.2.a
    clear c2 hc0
    refine takeE (i := 0) (some 22) (v := ?_) ?_ hT0 ?_
    rotate_left
    ·
     intro wx hSw
     go_simp
     try (with_reducible rfl)
    try simp only [Act.put, PZ]
    refine takeE (i := 1) (some 23) (v := ?_) ?_ hT0 ?_
    rotate_left
    ·
     intro wx hSw
     obtain ⟨hS1, hS2, hS3⟩ := hSw
     have c2 : wx.cell? ⟨gB, 2, none⟩ = some (.slice q.aU k q.cU) := by rw [blk_cell hS1 2, ← HQ.out.1]; rfl
     go_simp
     try (with_reducible rfl)
    try simp only [Act.put, PZ]
    refine takeE (i := 3) (some 25) (v := ?_) ?_ hT0 ?_
    rotate_left
    ·
     intro wx hSw
     go_simp
     try (with_reducible rfl)
    try simp only [Act.put, PZ]
    refine takeE (i := 4) (some 26) (v := ?_) ?_ hT0 ?_
    rotate_left
    ·
     intro wx hSw
     obtain ⟨hS1, hS2, hS3⟩ := hSw
     go_simp
     try (with_reducible rfl)
    try simp only [Act.put, PZ]
    refine takeE (i := 5) (some 27) (v := ?_) ?_ hT0 ?_
    rotate_left
    ·
     intro wx hSw
     go_simp
     try (with_reducible rfl)
    try simp only [Act.put, PZ]
    refine takeE (i := 6) (some 28) (v := ?_) ?_ hT0 ?_
    rotate_left
    ·
     intro wx hSw
     obtain ⟨hS1, hS2, hS3⟩ := hSw
     go_simp
     try (with_reducible rfl)
    try simp only [Act.put, PZ]
    refine takeE (i := 7) (some 29) (v := ?_) ?_ hT0 ?_
    rotate_left
    ·
     intro wx hSw
     obtain ⟨hS1, hS2, hS3⟩ := hSw
     go_simp
     try (with_reducible rfl)
    try simp only [Act.put, PZ]
    obtain ⟨a1, c1, X1, hr1, oA, hb⟩ := appendNew (c := l.uC k) (HS.out.z k hlt) ((HR.out.z k hlt).up HQ.out.2.2.bel)
    have HA1 : Hid (OI X1 V.heap.size a1 (l.uL k) c1 (l.uz k) ∧ Below V.heap.size V X1) := ⟨oA, hb⟩
    have HR1 : Hid ((Builtin.append_ #[25, 25] 25 #[.slice (some ⟨V.heap.size, 0, none⟩) 0 0, .slice (l.uA k) (l.uL k) (l.uC k)]).run Tryz.prog (V.alloc (.cells #[] 2)) = .ok (.slice a1 (l.uL k) c1) X1) := hr1
    have hA : Below V.heap.size V (V.alloc (.cells #[] 2)) := (Below.refl _ _).alloc (Nat.le_refl _) _
    have hTa := HTT.out _ (HQ.out.2.1.up hA).box (HQ.out.2.2.up hA).bel (HQ.out.2.2.up hA).a
    have Q1 := HQ.out.2.1.up hb
    have hu0 : OG 25 1 X1 w.heap.size q.aU k q.cU (slsV k q.uA q.uL q.uC) := by have := Q1.own.u; rw [HQ.out.1] at this; exact this
    obtain ⟨g1, c3, X3, hr, hu, ht, hg⟩ := appendOG 63 25 (.slice none 0 0) 1 24 info22 Tryz.underlying63 rfl (by decide) (by decide) hu0 (by omega) (Nat.le_trans HQ.out.2.2.bel.size hb.size) #[.slice a1 (l.uL k) c1] rfl (by simp [Value.oneCell'])
    have hX1 := HQ.out.2.2.up hb
    have hT1 := HTT.out X1 Q1.box hX1.bel hX1.a
    have hB2 : Below X1.heap.size X1 (X1.alloc (.cells #[.slice a1 (l.uL k) c1] 25)) := (Below.refl _ _).alloc (Nat.le_refl _) _
    have hT2 := HTT.out _ (Q1.up hB2).box (hX1.up hB2).bel (hX1.up hB2).a
    have hX3 := hX1.far ht (fun hg => hu0.notT (by decide) hg) (fun x hx => (hu0.blk x hx).1)
    have hb3 : X3.heap[gB]? = some (.cells q.cells 67 (0, 0)) := (ht.block gB (blk_lt Q1.box) (hu0.notT (by decide) Q1.box)).trans Q1.box
    have hT3 := HTT.out X3 hb3 hX3.bel hX3.a
    have HX3 : Hid (Two w l.cells zLane 67 X3) := hX3
    have HN3 : Hid (OG 25 1 X3 w.heap.size (some ⟨g1, 0, none⟩) (k + 1) c3 (slsV k q.uA q.uL q.uC ++ [.slice a1 (l.uL k) c1]) ∧ Touch (blkO q.aU) X1 X3 ∧ (g1 ∈ blkO q.aU ∨ X1.heap.size ≤ g1)) := ⟨hu, ht, hg⟩
    have HR3 : Hid ((Builtin.append_ #[63, 63] 63 #[.slice q.aU k q.cU, .slice (some ⟨X1.heap.size, 0, none⟩) 1 1]).run Tryz.prog (X1.alloc (.cells #[.slice a1 (l.uL k) c1] 25)) = .ok (.slice (some ⟨g1, 0, none⟩) (k + 1) c3) X3) := hr
    clear oA hb Q1 hu0 hr hr1 hu ht hg hT0 hA hX1 hB2 hX3
    refine wpAnyE_ready (rs := [2]) (by kernel_rfl) (by simp) ?_
    refine AllReadyE.cons rfl (fun K hK => ?_) AllReadyE.nil
    go_simp
    refine hK.out _ _ hTa ?_
    clear hK K
    try simp only [Act.put, PZ]
    refine wpAnyE_ready (rs := [8]) (by kernel_rfl) (by simp) ?_
    refine AllReadyE.cons rfl (fun K hK => ?_) AllReadyE.nil
    refine wp_appE (by kernel_rfl) (some 30) rfl (.tmp 24) (.tmp 29) 25 _ _ _ rfl rfl rfl rfl HR1.out ?_
    refine hK.out _ _ hT1 ?_
    clear hK K
    try simp only [Act.put, PZ]
    refine wpAnyE_ready (rs := [9]) (by kernel_rfl) (by simp) ?_
    refine AllReadyE.cons rfl (fun K hK => ?_) AllReadyE.nil
    go_simp
    refine hK.out _ _ hT2 ?_
    clear hK K
    try simp only [Act.put, PZ]
    refine wpAnyE_ready (rs := [10]) (by kernel_rfl) (by simp) ?_
    refine AllReadyE.cons rfl (fun K hK => ?_) AllReadyE.nil
    refine wp_appE (by kernel_rfl) (some 32) rfl (.tmp 23) (.tmp 31) 63 _ _ _ rfl rfl rfl rfl HR3.out ?_
    refine hK.out _ _ hT3 ?_
    clear hK K hT2 HR3 hTa HR1 hT1
    try simp only [Act.put, PZ]
    have hT0 := hT3
    refine takeE (i := 11) (some 33) (v := ?_) ?_ hT0 ?_
    rotate_left
    ·
     intro wx hSw
     go_simp
     try (with_reducible rfl)
    try simp only [Act.put, PZ]
    refine wpAnyE_ready (rs := [12]) (by kernel_rfl) (by simp) ?_
    refine AllReadyE.last rfl (fun K hK => ?_)
    refine wp_stE (by kernel_rfl) none rfl 63 (.tmp 33) (.tmp 32) rfl gB 2 rfl (.slice (some ⟨g1, 0, none⟩) (k + 1) c3) rfl 1 rfl 67 _ hb3 infoIss (Nat.le_of_ble_eq_true rfl) (by simp [Value.cells, Value.oneCell']) ?_
    intro X4 hP
    refine hK.out _ _ ?_
    clear hK K
    try simp only [Act.put, PZ]
    refine wpAnyE_done (by kernel_rfl) ?_ _
    have HN : Hid ((q.more k (some ⟨g1, 0, none⟩) c3 a1 c1).nU = k + 1 ∧ CpL w.heap.size gB l (q.more k (some ⟨g1, 0, none⟩) c3 a1 c1) X4 ∧ Two w l.cells zLane 67 X4) := ⟨rfl, HQ.out.2.1.more HQ.out.1 HA1.out.2 HQ.out.2.2.bel.size HA1.out.1 HN3.out.1 HN3.out.2.1 HN3.out.2.2 hP, HX3.out.put hP HgB.out⟩
    clear hP hT0 hT3 hb3 HN3 HA1 HQ HX3 HTT hg0
    go_wp2_with fail
    go_roundw
    case rel => exact ⟨k + 1, _, by omega, by go_num, HN⟩
    case measure => simp [intOf]; omega
   ·
    obtain rfl : k = l.nU := by omega
    obtain ⟨hq1, hq2, hq3⟩ := HQ.out
    have HL : Hid (∀ j, j < 8 → wr.cell? ⟨gB, 0 + j, none⟩ = q.cells[j]?) := fun j _ => by rw [Nat.zero_add]; exact blk_cell hq2.box j
    have HD : Hid (wr.heap[w.heap.size + 1]? = some (.cells zLane 67 (0, 0))) := hq3.b
    clear hq1 hq2 hq3
    go_wp2_with (first | refine wpList_ldT rfl 67 8 _ Tryz.underlying67 rfl infoLgI (.tmp 3) rfl gB 0 rfl q.cells rfl HL.out ?_ | refine wpList_stA rfl 67 (.tmp 2) (.tmp 34) rfl (w.heap.size + 1) 0 rfl (.agg q.cells) rfl 8 rfl 67 _ HD.out infoLgI (Nat.le_of_ble_eq_true rfl) (Lng.oneC _) ?_)
    intro X hP
    replace hP : Put wr X (w.heap.size + 1) q.cells 67 := hP.cast rfl
    have HK : Hid (X.heap[w.heap.size + 1]? = some (.cells q.cells 67 (0, 0))) := hP.blk
    have HF : Hid (AlikeL l q ∧ OwnLz X w.heap.size q ∧ Below w.heap.size w X) := ⟨⟨HQ.out.2.1.st, HQ.out.2.1.nT, HQ.out.2.1.t, HQ.out.1, HQ.out.2.1.ul, HQ.out.2.1.uz, HQ.out.2.1.r⟩, HQ.out.2.1.own.box HD.out (by decide) (by decide) hP.to, HQ.out.2.2.bel.trans (hP.to.below HQ.out.2.2.bel.size (fun x hx => by simp at hx; omega))⟩
    clear hP HL HD HQ
    go_wp2_with fail
    exact bodyPost_ret (res_cellT Tryz.results120 8 _ Tryz.underlying67 rfl infoLgI _ _ (w.heap.size + 1) q.cells rfl 67 HK.out rfl) rfl ⟨q, rfl, HF.out.1, HF.out.2.1, HF.out.2.2⟩
def entD (x : Ent) : DataW Unit := .agg [.lit (.int .i64 x.m), .lit (.int .i64 x.p), .lit (.int .i64 x.t)]
theorem entD_inj {x y : Ent} (h : entD x = entD y) : x = y := by
 cases x; cases y
 simp [entD] at h
 simp [h]
theorem v_inj {x y : Ent} (h : x.v = y.v) : x = y := by
 cases x; cases y
 simp [Ent.v] at h
 simp [h]
open Classical in
noncomputable def entElem (v : Value) : Option (DataW Unit × List MemPlace) := if h : ∃ x : Ent, v = x.v then some (entD (Classical.choose h), []) else none
theorem entElem_mk (x : Ent) : entElem x.v = some (entD x, []) := by
 unfold entElem
 have h : ∃ y : Ent, x.v = y.v := ⟨x, rfl⟩
 rw [dif_pos h, ← v_inj (Classical.choose_spec h)]
theorem entElem_inv {v : Value} {x : Ent} {ps : List MemPlace} (h : entElem v = some (entD x, ps)) : v = x.v := by
 unfold entElem at h
 split at h
 ·
  rename_i hx
  have e := Classical.choose_spec hx
  simp only [Option.some.injEq, Prod.mk.injEq] at h
  rw [e, entD_inj h.1]
 ·
  cases h
def kv (x : Ent) : Lit × DataW Unit := (.int .i64 x.m, entD x)
def mD (L : List Ent) : DataW Unit := .map (L.map kv)
def insE (x : Ent) : List Ent → List Ent
 | [] => [x]
 | y :: r => if x.m < y.m then x :: y :: r else y :: insE x r
def notM (k : Int) (L : List Ent) : List Ent := L.filter fun y => decide (y.m ≠ k)
theorem same_int (a b : Int) : (Lit.int .i64 a).sameKey (Lit.int .i64 b) = decide (a = b) := by simp [Lit.sameKey]
theorem ins_kv (x : Ent) : ∀ L : List Ent, DataW.insert (kv x) (L.map kv) = (insE x L).map kv
 | [] => rfl
 | y :: r => by
  have hb : (kv x).1.before (kv y).1 = decide (x.m < y.m) := by simp [kv, Lit.before]
  show DataW.insert (kv x) (kv y :: r.map kv) = _
  unfold DataW.insert insE
  rw [hb]
  by_cases h : x.m < y.m
  ·
   simp [h]
  ·
   simp [h, ins_kv x r]
theorem filter_kv (k : Int) (L : List Ent) : (L.map kv).filter (fun p => !p.1.sameKey (.int .i64 k)) = (notM k L).map kv := by
 unfold notM
 induction L with
 | nil => rfl
 | cons y r ih =>
  have hb : (kv y).1.sameKey (.int .i64 k) = decide (y.m = k) := same_int _ _
  by_cases h : y.m = k
  ·
   simp [List.filter_cons, hb, h, ih]
  ·
   simp [List.filter_cons, hb, h, ih]
theorem mD_put (x : Ent) (L : List Ent) : (mD L).put (.int .i64 x.m) (entD x) = mD (insE x (notM x.m L)) := by
 show DataW.map (DataW.insert (kv x) ((L.map kv).filter _)) = _
 rw [filter_kv, ins_kv]; rfl
theorem mD_del (k : Int) (L : List Ent) : (mD L).del (.int .i64 k) = mD (notM k L) := by
 show DataW.map ((L.map kv).filter _) = _
 rw [filter_kv]; rfl
theorem mD_size (L : List Ent) : Maps.size (mD L) = L.length := by simp [mD, Maps.size]
def atM (k : Int) (L : List Ent) : Ent := (L.find? fun y => decide (y.m = k)).getD ⟨0, 0, 0⟩
theorem mD_at (k : Int) (L : List Ent) : (mD L).atKey (.int .i64 k) (entD ⟨0, 0, 0⟩) = entD (atM k L) := by
 unfold mD atM
 simp only [DataW.atKey]
 induction L with
 | nil => rfl
 | cons y r ih =>
  have hb : (kv y).1.sameKey (.int .i64 k) = decide (y.m = k) := same_int _ _
  by_cases h : y.m = k
  ·
   simp only [List.map_cons, List.find?_cons, hb, h, decide_true]
   rfl
  ·
   simp only [List.map_cons, List.find?_cons, hb, h, decide_false]
   exact ih
theorem notM_all {k : Int} {L : List Ent} (h : ∀ y ∈ L, y.m ≠ k) : notM k L = L := by
 unfold notM
 rw [List.filter_eq_self]
 intro y hy
 simp [h y hy]
theorem insE_last {x : Ent} : ∀ {L : List Ent}, (∀ y ∈ L, y.m < x.m) → insE x L = L ++ [x]
 | [], _ => rfl
 | y :: r, h => by
  have h1 := h y (by simp)
  unfold insE
  rw [if_neg (by omega), insE_last (fun z hz => h z (by simp [hz]))]
  rfl
def entsL (n : Nat) (f : Nat → Ent) : List Ent := (List.range n).map f
theorem entsL_succ (n : Nat) (f : Nat → Ent) : entsL (n + 1) f = entsL n f ++ [f n] := by simp [entsL, List.range_succ]
theorem entsL_len (n : Nat) (f : Nat → Ent) : (entsL n f).length = n := by simp [entsL]
theorem entsOk.lt {n : Nat} {f : Nat → Ent} (h : entsOk n f) : ∀ j i, i < j → j < n → (f i).m < (f j).m
 | 0, i, hi, _ => by omega
 | j + 1, i, hi, hj => by
  have h1 := (h (j + 1) hj).2 (by omega)
  simp only [Nat.add_sub_cancel] at h1
  by_cases e : i = j
  ·
   subst e; exact h1
  ·
   have := entsOk.lt h j i (by omega) (by omega)
   omega
theorem entsOk.below {n k : Nat} {f : Nat → Ent} (h : entsOk n f) (hk : k < n) : ∀ y ∈ entsL k f, y.m < (f k).m := by
 intro y hy
 obtain ⟨i, hi, rfl⟩ := List.mem_map.1 hy
 exact h.lt k i (List.mem_range.1 hi) hk
abbrev OwnsE (w : World) (b n : Nat) (L : List Ent) : Prop := w.ownsMap Tryz.prog 2 entElem b n (mD L)
theorem keyI {k : Int} (h0 : -9223372036854775808 ≤ k) (h1 : k ≤ 9223372036854775807) : keyOf Tryz.prog 2 (.int .i64 k) = some (.int .i64 k) :=
 Maps.keyOf_int_mk Tryz.underlying2 (by simp [Lit.wf, IntKind.min, IntKind.max, IntKind.signed, IntKind.bits]; omega)
theorem infoE : (Tryz.prog.info? 56).map (fun i => (i.zero, i.size, i.bytes)) = some (some (.agg #[.int .i64 0, .int .i64 0, .int .i64 0]), 3, 24) := by kernel_rfl
def cellsE (x : Ent) : List Value := [.int .i64 x.m, .int .i64 x.p, .int .i64 x.t]
def flatE (L : List Ent) : List Value := L.flatMap cellsE
theorem flatE_len : ∀ L : List Ent, (flatE L).length = L.length * 3
 | [] => rfl
 | x :: r => by
  have := flatE_len r
  unfold flatE at this ⊢
  simp [cellsE, this]; omega
theorem flatE_snoc (L : List Ent) (x : Ent) : flatE (L ++ [x]) = flatE L ++ cellsE x := by simp [flatE]
theorem flatE_get : ∀ (L : List Ent) (i : Nat), i < L.length → (flatE L)[i * 3]? = some (.int .i64 (L.getD i default).m) ∧ (flatE L)[i * 3 + 1]? = some (.int .i64 (L.getD i default).p) ∧ (flatE L)[i * 3 + 2]? = some (.int .i64 (L.getD i default).t)
 | [], i, h => by simp at h
 | x :: r, 0, _ => by simp [flatE, cellsE]
 | x :: r, i + 1, h => by
  have hr := flatE_get r i (by simpa using h)
  have e : flatE (x :: r) = .int .i64 x.m :: .int .i64 x.p :: .int .i64 x.t :: flatE r := by simp [flatE, cellsE]
  rw [e, show (i + 1) * 3 = i * 3 + 1 + 1 + 1 by omega]
  simpa using hr
def OwnL (w : World) (base : Nat) (v : Value) (L : List Ent) : Prop := w.ownsRow base 56 3 v L.length (flatE L)
theorem OwnL.nil (w : World) (base : Nat) : OwnL w base (.slice none 0 0) [] := World.ownsRow_nil _ _ _ _
theorem cells_three_new (w : World) (x : Ent) (t : TypeId) : ∀ j u, (cellsE x)[j]? = some u → (w.alloc (.cells #[.int .i64 x.m, .int .i64 x.p, .int .i64 x.t] t)).cell? ((⟨w.heap.size, 0, none⟩ : Addr).add j) = some u := by
 intro j u hj
 have hc := blk_cell (blk_new w (.cells #[.int .i64 x.m, .int .i64 x.p, .int .i64 x.t] t))
 match j, hj with
 | 0, hj => simpa [cellsE, Addr.add] using (hc 0).trans hj
 | 1, hj => simpa [cellsE, Addr.add] using (hc 1).trans hj
 | 2, hj => simpa [cellsE, Addr.add] using (hc 2).trans hj
theorem oneE (x : Ent) : ∀ u ∈ cellsE x, u.oneCell' = true := by
 intro u hu
 simp [cellsE] at hu
 rcases hu with rfl | rfl | rfl <;> rfl
theorem OwnL.mono {w : World} {base base' : Nat} {v : Value} {L : List Ent} (h : OwnL w base v L) (hb : base' ≤ base) : OwnL w base' v L := by
 obtain ⟨h1, h2⟩ := h
 refine ⟨h1, h2.imp id ?_⟩
 rintro ⟨g, cap, cur, hv, hg, hr⟩
 exact ⟨g, cap, cur, hv, by omega, hr⟩
theorem appendNoneG {W : World} {v : Value} {c base : Nat} (t e : TypeId) (z : Value) (sz bytes : Nat) (hinfo : (Tryz.prog.info? e).map (fun i => (i.zero, i.size, i.bytes)) = some (some z, sz, bytes)) (hu : Tryz.prog.underlying t = some (.slice e)) (h : W.ownsRow base e sz v 0 []) :
  (Builtin.append_ #[t, t] t #[v, .slice none 0 c]).run Tryz.prog W = .ok v W := by
 obtain ⟨i0, hi, hz0, hz1, hz2⟩ := info_parts hinfo
 rcases h.2 with ⟨rfl, _⟩ | ⟨g, cap, cur, rfl, _⟩
 ·
  simp [Builtin.append_, run_underlying hu, sizeOf, typeInfo, hi, Builtin.lenOf, Builtin.firstCells, loadCells, loadCellsFrom]
 ·
  simp [Builtin.append_, run_underlying hu, sizeOf, typeInfo, hi, Builtin.lenOf, Builtin.firstCells, loadCells, loadCellsFrom, storeCells]
def RdCs (w : World) (a : Option Addr) (xs : List Value) : Prop := ∀ j u, xs[j]? = some u → ∃ g o, a = some ⟨g, o, none⟩ ∧ w.cell? ⟨g, o + j, none⟩ = some u
theorem RdCs.up {w w2 : World} {a : Option Addr} {xs : List Value} (h : RdCs w a xs) (hb : Below w.heap.size w w2) : RdCs w2 a xs := fun j u hj => by
 obtain ⟨g, o, ha, hc⟩ := h j u hj
 exact ⟨g, o, ha, (hb.cell (p := ⟨g, o + j, none⟩) (cellLt hc)).trans hc⟩
theorem appendRow {W : World} {base : Nat} {v : Value} {a : Option Addr} {n c : Nat} {xs : List Value} (t e : TypeId) (z : Value) (sz bytes : Nat) (hinfo : (Tryz.prog.info? e).map (fun i => (i.zero, i.size, i.bytes)) = some (some z, sz, bytes)) (hu : Tryz.prog.underlying t = some (.slice e)) (hz : z.cells.size = sz) (hsz : 0 < sz) (hby : bytes ≤ 1000)
  (h : W.ownsRow base e sz v 0 []) (hb : base ≤ W.heap.size) (hn : n ≤ 1048576) (hl : xs.length = n * sz) (hr : RdCs W a xs) (h1 : ∀ u ∈ xs, u.oneCell' = true) :
  ∃ a' c' W', (Builtin.append_ #[t, t] t #[v, .slice a n c]).run Tryz.prog W = .ok (.slice a' n c') W' ∧ OG e sz W' base a' n c' xs ∧ W.grownBy W' v.ownBlock := by
 have fin : ∀ (v' : Value) (W' : World), W'.ownsRow base e sz v' n xs → ∃ a' c', v' = .slice a' n c' ∧ OG e sz W' base a' n c' xs := by
  intro v' W' h2
  rcases h2.2 with ⟨e1, e2⟩ | ⟨g, cap, cur, e1, _⟩
  ·
   subst e1
   subst e2
   exact ⟨none, 0, rfl, h2⟩
  ·
   refine ⟨some ⟨g, 0, none⟩, cap, e1, ?_⟩
   rw [e1] at h2
   exact h2
 have hbb : (0 + n) * bytes ≤ 140737488355328 := by
  have := Nat.mul_le_mul (show 0 + n ≤ 1048577 by omega) hby
  omega
 obtain ⟨i0, hi, hz0, hz1, hz2⟩ := info_parts hinfo
 cases a with
 | none =>
  have hx : xs = [] := by
   cases xs with
   | nil => rfl
   | cons x r =>
    obtain ⟨g, o, ha, _⟩ := hr 0 x rfl
    cases ha
  subst hx
  have hl' : n * sz = 0 := hl.symm
  have h0 : n = 0 := (Nat.mul_eq_zero.1 hl').resolve_right (by omega)
  subst h0
  obtain ⟨a', c', rfl, hv⟩ := fin v W h
  exact ⟨a', c', W, appendNoneG t e z sz bytes hinfo hu h, hv, ⟨rfl, rfl, rfl, Nat.le_refl _, fun _ _ _ => rfl⟩⟩
 | some ad =>
  obtain ⟨v', W', hr', h2, h3, h4, h5⟩ := run_append_own_at (P := Tryz.prog) W base t t e i0 z sz bytes hu hi hz0 hz1 hz2 hz hsz v 0 [] h ad n c xs hl (fun j u hj => by
   obtain ⟨g, o, ha, hc⟩ := hr j u hj
   cases ha
   have e0 : (⟨g, o, none⟩ : Addr).add j = ⟨g, o + j, none⟩ := by unfold Addr.add; split <;> simp_all
   rw [e0]
   exact hc) h1 (by unfold maxLen; omega) hbb hb
  rw [Nat.zero_add, List.nil_append] at h2
  obtain ⟨a', c', rfl, hv⟩ := fin v' W' h2
  exact ⟨a', c', W', hr', hv, h3⟩
theorem appendRowNil {W : World} {a : Option Addr} {n c : Nat} {xs : List Value} (t e : TypeId) (z : Value) (sz bytes : Nat) (hinfo : (Tryz.prog.info? e).map (fun i => (i.zero, i.size, i.bytes)) = some (some z, sz, bytes)) (hu : Tryz.prog.underlying t = some (.slice e)) (hz : z.cells.size = sz) (hsz : 0 < sz) (hby : bytes ≤ 1000)
  (hn : n ≤ 1048576) (hl : xs.length = n * sz) (hr : RdCs W a xs) (h1 : ∀ u ∈ xs, u.oneCell' = true) :
  ∃ a' c' W', (Builtin.append_ #[t, t] t #[.slice none 0 0, .slice a n c]).run Tryz.prog W = .ok (.slice a' n c') W' ∧ OG e sz W' W.heap.size a' n c' xs ∧ Below W.heap.size W W' := by
 obtain ⟨a', c', W', h2, h3, h4⟩ := appendRow (c := c) t e z sz bytes hinfo hu hz hsz hby (World.ownsRow_nil W W.heap.size e sz) (Nat.le_refl _) hn hl hr h1
 exact ⟨a', c', W', h2, h3, (Below.refl _ _).grown h4 (Nat.le_refl _) (fun k e => by simp [Value.ownBlock] at e)⟩
theorem appendRowNew {V : World} {a : Option Addr} {n c : Nat} {xs : List Value} (t e : TypeId) (z : Value) (sz bytes : Nat) (hinfo : (Tryz.prog.info? e).map (fun i => (i.zero, i.size, i.bytes)) = some (some z, sz, bytes)) (hu : Tryz.prog.underlying t = some (.slice e)) (hz : z.cells.size = sz) (hsz : 0 < sz) (hby : bytes ≤ 1000)
  (hn : n ≤ 1048576) (hl : xs.length = n * sz) (hr : RdCs V a xs) (h1 : ∀ u ∈ xs, u.oneCell' = true) :
  ∃ a' c' W', (Builtin.append_ #[t, t] t #[.slice (some ⟨V.heap.size, 0, none⟩) 0 0, .slice a n c]).run Tryz.prog (V.alloc (.cells #[] e)) = .ok (.slice a' n c') W' ∧ OG e sz W' V.heap.size a' n c' xs ∧ Below V.heap.size V W' := by
 have hA : Below V.heap.size V (V.alloc (.cells #[] e)) := (Below.refl _ _).alloc (Nat.le_refl _) _
 have hm : (V.alloc (.cells #[] e)).ownsRow V.heap.size e sz (.slice (some ⟨V.heap.size, 0, none⟩) 0 0) 0 [] := World.ownsRow_made V #[] 0 (Nat.le_refl _) (Nat.zero_le _) (by simp)
 obtain ⟨a', c', W', h2, h3, h4⟩ := appendRow (c := c) t e z sz bytes hinfo hu hz hsz hby hm (by simp) hn hl (hr.up hA) h1
 exact ⟨a', c', W', h2, h3, hA.grown h4 (by simp) (fun k e => by simp [Value.ownBlock] at e; omega)⟩
def pksV (n : Nat) (K : Nat → Pkt) : List Value := (List.range n).flatMap fun i => (K i).cells.toList
theorem pksV_succ (n : Nat) (K : Nat → Pkt) : pksV (n + 1) K = pksV n K ++ (K n).cells.toList := by simp [pksV, List.range_succ]
theorem pksV_len (n : Nat) (K : Nat → Pkt) : (pksV n K).length = n * 8 := by
 induction n with
 | zero => rfl
 | succ n ih => rw [pksV_succ, List.length_append, ih, Array.length_toList, Pkt.cells_size]; omega
theorem pksV_get (n : Nat) (K : Nat → Pkt) (i j : Nat) (hi : i < n) (hj : j < 8) : (pksV n K)[i * 8 + j]? = (K i).cells[j]? := by
 induction n with
 | zero => omega
 | succ n ih =>
  rw [pksV_succ]
  by_cases e : i = n
  ·
   subst e
   rw [List.getElem?_append_right (by rw [pksV_len]; omega), pksV_len, show i * 8 + j - i * 8 = j by omega, Array.getElem?_toList]
  ·
   rw [List.getElem?_append_left (by rw [pksV_len]; omega)]
   exact ih (by omega)
theorem pksV_flat (n : Nat) (K : Nat → Pkt) (j : Nat) (hj : j < n * 8) : (pksV n K)[j]? = some (flatK K j) := by
 have h := pksV_get n K (j / 8) (j % 8) (by omega) (by omega)
 rw [show j / 8 * 8 + j % 8 = j by omega] at h
 rw [h, ← flatK_at K (j / 8) (j % 8) (by omega), show j / 8 * 8 + j % 8 = j by omega]
theorem pksV_one (n : Nat) (K : Nat → Pkt) : ∀ u ∈ pksV n K, u.oneCell' = true := by
 intro u hu
 unfold pksV at hu
 simp only [List.mem_flatMap, List.mem_range] at hu
 obtain ⟨i, _, hu⟩ := hu
 exact (Array.all_eq_true_iff_forall_mem.1 (Pkt.oneC (K i))) u (by simpa using hu)
theorem RdPk.cs {w : World} {a : Option Addr} {n : Nat} {K : Nat → Pkt} (h : RdPk w a n K) : RdCs w a (pksV n K) := by
 intro j u hj
 have hlt : j < n * 8 := by
  have := (List.getElem?_eq_some_iff.1 hj).1
  rwa [pksV_len] at this
 obtain ⟨g, o, ha, hc⟩ := h (j / 8) (by omega)
 refine ⟨g, o, ha, ?_⟩
 have h2 := hc (j % 8) (by omega)
 rw [show o + j / 8 * 8 + j % 8 = o + j by omega] at h2
 rw [h2, ← pksV_get n K (j / 8) (j % 8) (by omega) (by omega), show j / 8 * 8 + j % 8 = j by omega]
 exact hj
def lnsV (n : Nat) (L : Nat → Lng) : List Value := (List.range n).flatMap fun i => (L i).cells.toList
theorem lnsV_succ (n : Nat) (L : Nat → Lng) : lnsV (n + 1) L = lnsV n L ++ (L n).cells.toList := by simp [lnsV, List.range_succ]
theorem lnsV_len (n : Nat) (L : Nat → Lng) : (lnsV n L).length = n * 8 := by
 induction n with
 | zero => rfl
 | succ n ih => rw [lnsV_succ, List.length_append, ih, Array.length_toList, Lng.cells_size]; omega
theorem lnsV_ext {n : Nat} {L L' : Nat → Lng} (h : ∀ i, i < n → L i = L' i) : lnsV n L = lnsV n L' := by
 induction n with
 | zero => rfl
 | succ n ih => rw [lnsV_succ, lnsV_succ, ih (fun i hi => h i (by omega)), h n (by omega)]
theorem lnsV_get (n : Nat) (L : Nat → Lng) (i j : Nat) (hi : i < n) (hj : j < 8) : (lnsV n L)[i * 8 + j]? = (L i).cells[j]? := by
 induction n with
 | zero => omega
 | succ n ih =>
  rw [lnsV_succ]
  by_cases e : i = n
  ·
   subst e
   rw [List.getElem?_append_right (by rw [lnsV_len]; omega), lnsV_len, show i * 8 + j - i * 8 = j by omega, Array.getElem?_toList]
  ·
   rw [List.getElem?_append_left (by rw [lnsV_len]; omega)]
   exact ih (by omega)
theorem lnsV_flat (n : Nat) (L : Nat → Lng) (j : Nat) (hj : j < n * 8) : (lnsV n L)[j]? = some (flatG L j) := by
 have h := lnsV_get n L (j / 8) (j % 8) (by omega) (by omega)
 rw [show j / 8 * 8 + j % 8 = j by omega] at h
 rw [h, ← flatG_at L (j / 8) (j % 8) (by omega), show j / 8 * 8 + j % 8 = j by omega]
theorem RdEnt.cs {w : World} {a : Option Addr} {n : Nat} {f : Nat → Ent} (h : RdEnt w a n f) : RdCs w a (flatE (entsL n f)) := by
 intro j u hj
 have hlt : j < n * 3 := by
  have := (List.getElem?_eq_some_iff.1 hj).1
  rwa [flatE_len, entsL_len] at this
 have hg : ∀ i, i < n → (entsL n f).getD i default = f i := fun i hi => by simp [entsL, hi]
 obtain ⟨i, hm⟩ : ∃ i, j = i * 3 ∨ j = i * 3 + 1 ∨ j = i * 3 + 2 := ⟨j / 3, by omega⟩
 obtain ⟨g, o, ha, h1, h2, h3⟩ := h i (by omega)
 obtain ⟨q1, q2, q3⟩ := flatE_get (entsL n f) i (by rw [entsL_len]; omega)
 rw [hg _ (by omega)] at q1 q2 q3
 refine ⟨g, o, ha, ?_⟩
 rcases hm with e | e | e
 ·
  subst e
  rw [q1] at hj
  cases hj
  exact h1
 ·
  subst e
  rw [q2] at hj
  cases hj
  rw [← Nat.add_assoc]
  exact h2
 ·
  subst e
  rw [q3] at hj
  cases hj
  rw [← Nat.add_assoc]
  exact h3
theorem flatE_one (L : List Ent) : ∀ u ∈ flatE L, u.oneCell' = true := by
 intro u hu
 unfold flatE at hu
 simp only [List.mem_flatMap] at hu
 obtain ⟨x, _, hu⟩ := hu
 exact oneE x u hu
theorem flatE_flat (n : Nat) (f : Nat → Ent) (j : Nat) (hj : j < n * 3) : (flatE (entsL n f))[j]? = some (flat f j) := by
 have hg : ∀ i, i < n → (entsL n f).getD i default = f i := fun i hi => by simp [entsL, hi]
 obtain ⟨i, hm⟩ : ∃ i, j = i * 3 ∨ j = i * 3 + 1 ∨ j = i * 3 + 2 := ⟨j / 3, by omega⟩
 obtain ⟨q1, q2, q3⟩ := flatE_get (entsL n f) i (by rw [entsL_len]; omega)
 rw [hg _ (by omega)] at q1 q2 q3
 rcases hm with e | e | e
 ·
  subst e
  rw [q1, flat0]
 ·
  subst e
  rw [q2, flat1]
 ·
  subst e
  rw [q3, flat2]
def Lng.tops (l : Lng) : List Nat := blkO l.aU ++ blkI l.R.aS l.R.nS
theorem OwnLz.tnd {w : World} {base : Nat} {l : Lng} (h : OwnLz w base l) : l.tops.Nodup :=
 List.nodup_append.2 ⟨blkO_nodup _, blkI_nodup _ _, fun x hx y hy e => h.su y hy (e ▸ hx)⟩
theorem OwnLz.tblk {w : World} {base : Nat} {l : Lng} (h : OwnLz w base l) : ∀ x ∈ l.tops, base ≤ x ∧ x < w.heap.size := by
 intro x hx
 rcases List.mem_append.1 hx with hx | hx
 ·
  exact h.u.blk x hx
 ·
  exact (h.r.own.s.blkS x hx).1
structure OwnLs (w : World) (base : Nat) (aL : Option Addr) (nL cL : Nat) (L : Nat → Lng) : Prop where
 l : OG 67 8 w base aL nL cL (lnsV nL L)
 ls : ∀ i, i < nL → OwnLz w base (L i)
 nd : ((List.range nL).flatMap fun i => (L i).blkz).Nodup
 td : ((List.range nL).flatMap fun i => (L i).tops).Nodup
theorem OwnLs.up {w w' : World} {base : Nat} {aL : Option Addr} {nL cL : Nat} {L : Nat → Lng} (h : OwnLs w base aL nL cL L) (hb : Below w.heap.size w w') : OwnLs w' base aL nL cL L := ⟨h.l.up hb, fun i hi => (h.ls i hi).up hb, h.nd, h.td⟩
theorem OwnLs.mono {w : World} {base base' : Nat} {aL : Option Addr} {nL cL : Nat} {L : Nat → Lng} (h : OwnLs w base aL nL cL L) (hb : base' ≤ base) : OwnLs w base' aL nL cL L := ⟨h.l.mono hb, fun i hi => (h.ls i hi).mono hb, h.nd, h.td⟩
theorem OwnLs.box {w w' : World} {base g : Nat} {aL : Option Addr} {nL cL : Nat} {L : Nat → Lng} {cs : Array Value} {t : TypeId} (h : OwnLs w base aL nL cL L) (hg : w.heap[g]? = some (.cells cs t (0, 0))) (ht2 : t ≠ 2) (hts : t ≠ 25) (htl : 67 ≠ t) (ht : Touch [g] w w') : OwnLs w' base aL nL cL L :=
 ⟨h.l.touchS ht (fun x hx hy => h.l.notT htl hg ((List.mem_singleton.1 hy) ▸ hx)), fun i hi => (h.ls i hi).box hg ht2 hts ht, h.nd, h.td⟩
theorem OwnLs.nil (w : World) (base : Nat) (L : Nat → Lng) : OwnLs w base none 0 0 L := ⟨OG.nil _ _ _ _, fun i hi => absurd hi (Nat.not_lt_zero _), by simp, by simp⟩
theorem OwnLs.more {V V1 W : World} {base g c2 k cL : Nat} {aL : Option Addr} {L : Nat → Lng} {l2 : Lng} (h : OwnLs V base aL k cL L) (hb : Below V.heap.size V V1) (hbase : base ≤ V.heap.size) (ho : OwnLz V1 V.heap.size l2)
  (hu : OG 67 8 W base (some ⟨g, 0, none⟩) (k + 1) c2 (lnsV k L ++ l2.cells.toList)) (ht : Touch (blkO aL) V1 W) : OwnLs W base (some ⟨g, 0, none⟩) (k + 1) c2 (fun i => if i = k then l2 else L i) := by
 have h1 := h.up hb
 have far : ∀ {b : Nat} {l : Lng}, OwnLz V1 b l → OwnLz W b l := fun hl => hl.touch ht (fun x hx hy => by
   obtain ⟨cs, e1⟩ := hl.type2 x hx
   exact h1.l.notT (by decide) e1 hy) (fun x hx hy => by
   obtain ⟨cs, e1⟩ := hl.u.type x hx
   exact h1.l.notT (by decide) e1 hy) (fun x hx hy => by
   obtain ⟨_, cs, e1⟩ := hl.r.own.s.blkS x hx
   exact h1.l.notT (by decide) e1 hy)
 refine ⟨?_, fun i hi => ?_, ?_, ?_⟩
 ·
  rw [lnsV_succ, lnsV_ext (L' := L) (fun i hi => if_neg (by omega)), if_pos rfl]
  exact hu
 ·
  by_cases e : i = k
  ·
   rw [if_pos e]
   exact (far ho).mono hbase
  ·
   rw [if_neg e]
   exact far (h1.ls i (by omega))
 ·
  rw [List.range_succ, List.flatMap_append]
  simp only [List.flatMap_cons, List.flatMap_nil, List.append_nil, if_true]
  rw [range_flatMap_congrO (f := fun i => (if i = k then l2 else L i).blkz) (g := fun i => (L i).blkz) (fun i hi => by rw [if_neg (by omega)])]
  refine nodup_app h.nd ho.nd V.heap.size (fun x hx => ?_) (fun x hx => (ho.blk x hx).1)
  simp only [List.mem_flatMap, List.mem_range] at hx
  obtain ⟨i, hi, hx⟩ := hx
  exact ((h.ls i hi).blk x hx).2
 ·
  rw [List.range_succ, List.flatMap_append]
  simp only [List.flatMap_cons, List.flatMap_nil, List.append_nil, if_true]
  rw [range_flatMap_congrO (f := fun i => (if i = k then l2 else L i).tops) (g := fun i => (L i).tops) (fun i hi => by rw [if_neg (by omega)])]
  refine nodup_app h.td ho.tnd V.heap.size (fun x hx => ?_) (fun x hx => (ho.tblk x hx).1)
  simp only [List.mem_flatMap, List.mem_range] at hx
  obtain ⟨i, hi, hx⟩ := hx
  exact ((h.ls i hi).tblk x hx).2
structure OwnSz (w : World) (base : Nat) (S : Swg) : Prop where
 e : OG 56 3 w base S.aE S.nE S.cE (flatE (entsL S.nE S.e))
 n : OwnCn w base S.N
 k : OG 60 8 w base S.aK S.nK S.cK (pksV S.nK S.K)
 l : OwnLs w base S.aL S.nL S.cL S.L
 un : ∀ x ∈ blkV S.N.aU S.N.nU, x ∉ (List.range S.nL).flatMap fun i => (S.L i).blkz
theorem lz_sub (l : Lng) : ∀ x ∈ l.blks, x ∈ l.blkz := by
 intro x hx
 have hv : ∀ {a : Option Addr} {n : Nat}, x ∈ blkV a n → x ∈ blkO a := fun h => (blkV_sub _ _).subset h
 unfold Lng.blks at hx
 unfold Lng.blkz Rnd.blkz
 simp only [List.mem_append, blkS_mem, flO_mem] at hx ⊢
 rcases hx with hx | ⟨i, hi, hx⟩ | hx | hx | ⟨i, hi, hx⟩
 ·
  exact .inl (.inl (hv hx))
 ·
  exact .inr ⟨i, hi, hv hx⟩
 ·
  exact .inl (.inr (.inl hx))
 ·
  exact .inl (.inr (.inr (.inl hx)))
 ·
  exact .inl (.inr (.inr (.inr ⟨i, hi, hv hx⟩)))
theorem flat_nd {f g : Nat → List Nat} : ∀ n, ((List.range n).flatMap g).Nodup → (∀ i, i < n → (f i).Nodup) → (∀ i, i < n → ∀ x ∈ f i, x ∈ g i) → ((List.range n).flatMap f).Nodup := by
 intro n hg hf hs
 refine nodup_flat n hf (fun i j hi hj hne x hx hy => ?_)
 have : ∀ n, ((List.range n).flatMap g).Nodup → ∀ i j, i < j → j < n → ∀ x, x ∈ g i → x ∉ g j := by
  intro n
  induction n with
  | zero => intro _ i j _ hj; omega
  | succ n ih =>
   intro hn i j hij hj x h1 h2
   rw [List.range_succ, List.flatMap_append] at hn
   simp only [List.flatMap_cons, List.flatMap_nil, List.append_nil] at hn
   obtain ⟨n1, n2, n3⟩ := List.nodup_append.1 hn
   by_cases e : j = n
   ·
    subst e
    exact n3 x (by simp only [List.mem_flatMap, List.mem_range]; exact ⟨i, hij, h1⟩) x h2 rfl
   ·
    exact ih n1 i j hij (by omega) x h1 h2
 rcases Nat.lt_or_gt_of_ne hne with h | h
 ·
  exact this n hg i j h hj x (hs i hi x hx) (hs j hj x hy)
 ·
  exact this n hg j i h hi x (hs j hj x hy) (hs i hi x hx)
theorem OwnSz.g {w : World} {base : Nat} {S : Swg} (h : OwnSz w base S) : OwnSg w base S := by
 refine ⟨h.e.vt (fun i hi => flatE_flat _ _ i hi), h.n.u, h.n.p, h.k.vt (fun i hi => pksV_flat _ _ i hi), h.l.l.vt (fun i hi => lnsV_flat _ _ i hi), fun i hi => (h.l.ls i hi).g, ?_⟩
 refine List.nodup_append.2 ⟨blkV_nodup _ _, flat_nd _ h.l.nd (fun i hi => (h.l.ls i hi).g.nd) (fun i hi => lz_sub _), fun x hx y hy e => h.un x hx ?_⟩
 subst e
 simp only [List.mem_flatMap, List.mem_range] at hy ⊢
 obtain ⟨i, hi, hy⟩ := hy
 exact ⟨i, hi, lz_sub _ x hy⟩
end Go.Proofs.YtlipielghpoaoaaGreat
