/- SwitchNew of the specification. -/
import Derived.Test.YtaiodombphpcgaaSwN
import Derived.Test.YtaiodombphpcgaaRnNewS
namespace Go.Proofs.Ytaiodombphpcgaa
open Go.RowKit
set_option linter.unusedVariables false
set_option linter.unusedSimpArgs false

theorem MadeL.far {V V' : World} {b0 k : Nat} {v : Value} {b : Nat → Nat} {L : Nat → Ln} (hM : MadeL V b0 v k b L) (hg : V.grownBy V' v.ownBlock) {x : Nat} {arr : Array Value} {t : TypeId} (hx : V.heap[x]? = some (.cells arr t (0, 0))) (ht : t ≠ 51) : V'.heap[x]? = some (.cells arr t (0, 0)) :=
  (hg.block x (blk_lt hx) (fun e => by
    obtain ⟨_, arr2, h2⟩ := hM.row.typed x (by rw [← e]; simp)
    rw [hx] at h2
    simp at h2
    exact ht h2.2)).trans hx
theorem MadeL.counts {V V' : World} {b0 k base : Nat} {v : Value} {b : Nat → Nat} {L : Nat → Ln} {N : Cnt} (hM : MadeL V b0 v k b L) (hg : V.grownBy V' v.ownBlock) (hN : OwnCn V base N) : OwnCn V' base N :=
  hN.off (grown_touch hg) (fun x hx hm => by
    obtain ⟨_, arr2, h2⟩ := hM.row.typed x hm
    exact hN.boxOut (by decide) (by decide) h2 hx)
theorem MadeL.below {V V' a : World} {B b0 k : Nat} {v : Value} {b : Nat → Nat} {L : Nat → Ln} (hM : MadeL V b0 v k b L) (hg : V.grownBy V' v.ownBlock) (hb : Below B a V) (h0 : B ≤ b0) : Below B a V' :=
  hb.grown hg (Nat.le_trans (by have := hM.mono (i := 0) (j := k) (by omega) (by omega); have := hM.b0; have := hM.bn; omega) (Nat.le_refl _)) (fun x e => Nat.le_trans h0 (hM.row.typed x (by rw [e]; simp)).1)
set_option maxRecDepth 100000 in
set_option maxHeartbeats 8000000 in
theorem sSwitchNew_bad (C : Cfg) (n : Nat) (w : World) (hp : 2 ≤ C.p ∧ C.p ≤ 4 → C.p = (n : Int)) (hok : false = true ↔ C.Ok) :
    Calls Try.prog 7 #[.agg C.cells] w fun e w' => ∃ S : Sw, e = .returned (.tuple #[.agg S.cells, .bool false]) ∧ NewS w' w.heap.size C n false S ∧ Below w.heap.size w w' := by
  · have HO : Hid (false = true ↔ C.Ok) := hok
    have HP : Hid (2 ≤ C.p ∧ C.p ≤ 4 → C.p = (n : Int)) := hp
    have HB0 : Hid (Below (w.heap.size + 2) ((w.alloc (.cells C.cells 25)).alloc (.cells #[.int .i64 0, .int .i64 0, .int .i64 0, .int .i64 0, .int .i64 0, .int .i64 0, .int .i64 0, .int .i64 0, .int .i64 0, .slice none 0 0, .slice none 0 0, .int .i64 0, .slice none 0 0, .slice none 0 0, .slice none 0 0, .int .i64 0, .int .i64 0] 35)) ((w.alloc (.cells C.cells 25)).alloc (.cells #[.int .i64 0, .int .i64 0, .int .i64 0, .int .i64 0, .int .i64 0, .int .i64 0, .int .i64 0, .int .i64 0, .int .i64 0, .slice none 0 0, .slice none 0 0, .int .i64 0, .slice none 0 0, .slice none 0 0, .slice none 0 0, .int .i64 0, .int .i64 0] 35))) := Below.refl _ _
    clear hok hp
    unfold Cfg.cells at *
    go_enter Try.func7, Try.ntmps7
    go_wp2_with fail
    refine (sCountsNew_any C n _ HP.out false HO.out).mono ?_
    rintro e w1 ⟨RW, rfl, hW, hb, hAW⟩
    have hB := next2 HB0.out hb
    have hA := (Below.refl w1.heap.size w1).alloc (Nat.le_refl _) (.cells #[.slice RW.aU RW.nU RW.cU, .int .i64 RW.lo, .slice RW.aP RW.nP RW.cP] 31)
    replace hB := next2 hB hA
    have kz := (laid2 hB).2
    have ht := setRow_touch (w1.alloc (.cells #[.slice RW.aU RW.nU RW.cU, .int .i64 RW.lo, .slice RW.aP RW.nP RW.cP] 31)) (w.heap.size + 1) #[.int .i64 0, .int .i64 0, .int .i64 0, .int .i64 0, .int .i64 0, .int .i64 0, .int .i64 0, .int .i64 0, .int .i64 0, .slice none 0 0, .slice none 0 0, .int .i64 0, .slice none 0 0, .slice none 0 0, .slice none 0 0, .int .i64 0, .int .i64 0]
    have kz3 := setRow_blk (cs := #[.int .i64 0, .int .i64 0, .int .i64 0, .int .i64 0, .int .i64 0, .int .i64 0, .int .i64 0, .int .i64 0, .int .i64 0, .slice none 0 0, .slice none 0 0, .int .i64 0, .slice none 0 0, .slice none 0 0, .slice none 0 0, .int .i64 0, .int .i64 0]) kz
    have B := (under2 hB).trans (ht.below (under2 hB).size (fun x hx => by simp at hx; omega))
    have HKz : Hid ((w1.alloc (.cells #[.slice RW.aU RW.nU RW.cU, .int .i64 RW.lo, .slice RW.aP RW.nP RW.cP] 31)).heap[w.heap.size + 1]? = some (.cells #[.int .i64 0, .int .i64 0, .int .i64 0, .int .i64 0, .int .i64 0, .int .i64 0, .int .i64 0, .int .i64 0, .int .i64 0, .slice none 0 0, .slice none 0 0, .int .i64 0, .slice none 0 0, .slice none 0 0, .slice none 0 0, .int .i64 0, .int .i64 0] 35 (0, 0))) := kz
    have HK3 : Hid (((w1.alloc (.cells #[.slice RW.aU RW.nU RW.cU, .int .i64 RW.lo, .slice RW.aP RW.nP RW.cP] 31)).setRow (w.heap.size + 1) #[.int .i64 0, .int .i64 0, .int .i64 0, .int .i64 0, .int .i64 0, .int .i64 0, .int .i64 0, .int .i64 0, .int .i64 0, .slice none 0 0, .slice none 0 0, .int .i64 0, .slice none 0 0, .slice none 0 0, .slice none 0 0, .int .i64 0, .int .i64 0]).heap[w.heap.size + 1]? = some (.cells #[.int .i64 0, .int .i64 0, .int .i64 0, .int .i64 0, .int .i64 0, .int .i64 0, .int .i64 0, .int .i64 0, .int .i64 0, .slice none 0 0, .slice none 0 0, .int .i64 0, .slice none 0 0, .slice none 0 0, .slice none 0 0, .int .i64 0, .int .i64 0] 35 (0, 0))) := kz3
    clear hb kz ht kz3 hB hW hAW hA
    dsimp only [Cnt.cells]
    go_wp2_with (refine wpList_stS rfl (.tmp 2) (.tmp 17) rfl (w.heap.size + 1) rfl #[.int .i64 0, .int .i64 0, .int .i64 0, .int .i64 0, .int .i64 0, .int .i64 0, .int .i64 0, .int .i64 0, .int .i64 0, .slice none 0 0, .slice none 0 0, .int .i64 0, .slice none 0 0, .slice none 0 0, .slice none 0 0, .int .i64 0, .int .i64 0] rfl #[.int .i64 0, .int .i64 0, .int .i64 0, .int .i64 0, .int .i64 0, .int .i64 0, .int .i64 0, .int .i64 0, .int .i64 0, .slice none 0 0, .slice none 0 0, .int .i64 0, .slice none 0 0, .slice none 0 0, .slice none 0 0, .int .i64 0, .int .i64 0] HKz.out rfl rfl (by simp [Value.oneCell']) ?_)
    generalize (w1.alloc (.cells #[.slice RW.aU RW.nU RW.cU, .int .i64 RW.lo, .slice RW.aP RW.nP RW.cP] 31)).setRow (w.heap.size + 1) #[.int .i64 0, .int .i64 0, .int .i64 0, .int .i64 0, .int .i64 0, .int .i64 0, .int .i64 0, .int .i64 0, .int .i64 0, .slice none 0 0, .slice none 0 0, .int .i64 0, .slice none 0 0, .slice none 0 0, .slice none 0 0, .int .i64 0, .int .i64 0] = WF at *
    exact bodyPost_ret (res_cellS Try.results7 _ _ (w.heap.size + 1) _ rfl HK3.out rfl (.bool false) rfl) rfl ⟨zeroS, rfl, rfl, B⟩
set_option maxRecDepth 100000 in
set_option maxHeartbeats 8000000 in
theorem sSwitchNew_ok (n : Nat) (c xo xn hd lo dl : Int) (w : World) (hC : Cfg.Ok ⟨(n : Int), c, xo, xn, hd, lo, dl⟩) :
    Calls Try.prog 7 #[.agg (Cfg.cells ⟨(n : Int), c, xo, xn, hd, lo, dl⟩)] w fun e w' => ∃ S : Sw, e = .returned (.tuple #[.agg S.cells, .bool true]) ∧ NewS w' w.heap.size ⟨(n : Int), c, xo, xn, hd, lo, dl⟩ n true S ∧ Below w.heap.size w w' := by
  · have h1 : 2 ≤ (n : Int) ∧ (n : Int) ≤ 4 := hC.num.p
    have hn : n ≤ 4 := by omega
    have hn2 : 2 ≤ n := by omega
    have HO : Hid (Cfg.Ok ⟨(n : Int), c, xo, xn, hd, lo, dl⟩) := hC
    have HB0 : Hid (Below (w.heap.size + 2) ((w.alloc (.cells #[.int .i64 (n : Int), .int .i64 c, .int .i64 xo, .int .i64 xn, .int .i64 hd, .int .i64 lo, .int .i64 dl] 25)).alloc (.cells #[.int .i64 0, .int .i64 0, .int .i64 0, .int .i64 0, .int .i64 0, .int .i64 0, .int .i64 0, .int .i64 0, .int .i64 0, .slice none 0 0, .slice none 0 0, .int .i64 0, .slice none 0 0, .slice none 0 0, .slice none 0 0, .int .i64 0, .int .i64 0] 35)) ((w.alloc (.cells #[.int .i64 (n : Int), .int .i64 c, .int .i64 xo, .int .i64 xn, .int .i64 hd, .int .i64 lo, .int .i64 dl] 25)).alloc (.cells #[.int .i64 0, .int .i64 0, .int .i64 0, .int .i64 0, .int .i64 0, .int .i64 0, .int .i64 0, .int .i64 0, .int .i64 0, .slice none 0 0, .slice none 0 0, .int .i64 0, .slice none 0 0, .slice none 0 0, .slice none 0 0, .int .i64 0, .int .i64 0] 35))) := Below.refl _ _
    clear hC h1
    unfold Cfg.cells
    dsimp only
    go_enter Try.func7, Try.ntmps7
    go_wp2_with fail
    refine (sCountsNew_any ⟨(n : Int), c, xo, xn, hd, lo, dl⟩ n _ (fun _ => rfl) true ⟨fun _ => HO.out, fun _ => rfl⟩).mono ?_
    rintro e w1 ⟨RW, rfl, hW, hb, hAW⟩
    have hB := next2 HB0.out hb
    have HAW : Hid (AlikeC (newC n true) RW) := hAW
    have HR0 : Hid (∀ x ∈ rowsT RW, x < w1.heap.size) := fun x hx => (hW.tbl x hx).2
    replace hW : OwnCn w1 (w.heap.size + 2) RW := by simpa using hW
    have hA := (Below.refl w1.heap.size w1).alloc (Nat.le_refl _) (.cells #[.slice RW.aU RW.nU RW.cU, .int .i64 RW.lo, .slice RW.aP RW.nP RW.cP] 31)
    have hA2 := hA.trans ((Below.refl (w1.alloc (.cells #[.slice RW.aU RW.nU RW.cU, .int .i64 RW.lo, .slice RW.aP RW.nP RW.cP] 31)).heap.size (w1.alloc (.cells #[.slice RW.aU RW.nU RW.cU, .int .i64 RW.lo, .slice RW.aP RW.nP RW.cP] 31))).alloc (Nat.le_refl _) (.cells #[.int .i64 0, .int .i64 0, .int .i64 0, .int .i64 0, .int .i64 0, .int .i64 0, .int .i64 0, .int .i64 0, .int .i64 0, .slice none 0 0, .slice none 0 0, .int .i64 0, .slice none 0 0, .slice none 0 0, .slice none 0 0, .int .i64 0, .int .i64 0] 35) |>.mono (by simp))
    have kS0 : ((w1.alloc (.cells #[.slice RW.aU RW.nU RW.cU, .int .i64 RW.lo, .slice RW.aP RW.nP RW.cP] 31)).alloc (.cells #[.int .i64 0, .int .i64 0, .int .i64 0, .int .i64 0, .int .i64 0, .int .i64 0, .int .i64 0, .int .i64 0, .int .i64 0, .slice none 0 0, .slice none 0 0, .int .i64 0, .slice none 0 0, .slice none 0 0, .slice none 0 0, .int .i64 0, .int .i64 0] 35)).heap[w1.heap.size + 1]? = some (.cells #[.int .i64 0, .int .i64 0, .int .i64 0, .int .i64 0, .int .i64 0, .int .i64 0, .int .i64 0, .int .i64 0, .int .i64 0, .slice none 0 0, .slice none 0 0, .int .i64 0, .slice none 0 0, .slice none 0 0, .slice none 0 0, .int .i64 0, .int .i64 0] 35 (0, 0)) := by
      have := blk_new (w1.alloc (.cells #[.slice RW.aU RW.nU RW.cU, .int .i64 RW.lo, .slice RW.aP RW.nP RW.cP] 31)) (.cells #[.int .i64 0, .int .i64 0, .int .i64 0, .int .i64 0, .int .i64 0, .int .i64 0, .int .i64 0, .int .i64 0, .int .i64 0, .slice none 0 0, .slice none 0 0, .int .i64 0, .slice none 0 0, .slice none 0 0, .slice none 0 0, .int .i64 0, .int .i64 0] 35)
      simpa using this
    have hz : (((w1.alloc (.cells #[.slice RW.aU RW.nU RW.cU, .int .i64 RW.lo, .slice RW.aP RW.nP RW.cP] 31)).alloc (.cells #[.int .i64 0, .int .i64 0, .int .i64 0, .int .i64 0, .int .i64 0, .int .i64 0, .int .i64 0, .int .i64 0, .int .i64 0, .slice none 0 0, .slice none 0 0, .int .i64 0, .slice none 0 0, .slice none 0 0, .slice none 0 0, .int .i64 0, .int .i64 0] 35)).setRow (w1.heap.size + 1) #[.int .i64 (n : Int), .int .i64 c, .int .i64 xo, .int .i64 xn, .int .i64 hd, .int .i64 lo, .int .i64 dl, .int .i64 0, .int .i64 1, .slice none 0 0, .slice RW.aU RW.nU RW.cU, .int .i64 RW.lo, .slice RW.aP RW.nP RW.cP, .slice none 0 0, .slice none 0 0, .int .i64 0, .int .i64 0]).heap.size = w1.heap.size + 2 := by simp [World.setRow]
    have ht := setRow_touch ((w1.alloc (.cells #[.slice RW.aU RW.nU RW.cU, .int .i64 RW.lo, .slice RW.aP RW.nP RW.cP] 31)).alloc (.cells #[.int .i64 0, .int .i64 0, .int .i64 0, .int .i64 0, .int .i64 0, .int .i64 0, .int .i64 0, .int .i64 0, .int .i64 0, .slice none 0 0, .slice none 0 0, .int .i64 0, .slice none 0 0, .slice none 0 0, .slice none 0 0, .int .i64 0, .int .i64 0] 35)) (w1.heap.size + 1) #[.int .i64 (n : Int), .int .i64 c, .int .i64 xo, .int .i64 xn, .int .i64 hd, .int .i64 lo, .int .i64 dl, .int .i64 0, .int .i64 1, .slice none 0 0, .slice RW.aU RW.nU RW.cU, .int .i64 RW.lo, .slice RW.aP RW.nP RW.cP, .slice none 0 0, .slice none 0 0, .int .i64 0, .int .i64 0]
    have kS : (((w1.alloc (.cells #[.slice RW.aU RW.nU RW.cU, .int .i64 RW.lo, .slice RW.aP RW.nP RW.cP] 31)).alloc (.cells #[.int .i64 0, .int .i64 0, .int .i64 0, .int .i64 0, .int .i64 0, .int .i64 0, .int .i64 0, .int .i64 0, .int .i64 0, .slice none 0 0, .slice none 0 0, .int .i64 0, .slice none 0 0, .slice none 0 0, .slice none 0 0, .int .i64 0, .int .i64 0] 35)).setRow (w1.heap.size + 1) #[.int .i64 (n : Int), .int .i64 c, .int .i64 xo, .int .i64 xn, .int .i64 hd, .int .i64 lo, .int .i64 dl, .int .i64 0, .int .i64 1, .slice none 0 0, .slice RW.aU RW.nU RW.cU, .int .i64 RW.lo, .slice RW.aP RW.nP RW.cP, .slice none 0 0, .slice none 0 0, .int .i64 0, .int .i64 0]).heap[w1.heap.size + 1]? = some (.cells #[.int .i64 (n : Int), .int .i64 c, .int .i64 xo, .int .i64 xn, .int .i64 hd, .int .i64 lo, .int .i64 dl, .int .i64 0, .int .i64 1, .slice none 0 0, .slice RW.aU RW.nU RW.cU, .int .i64 RW.lo, .slice RW.aP RW.nP RW.cP, .slice none 0 0, .slice none 0 0, .int .i64 0, .int .i64 0] 35 (0, 0)) := setRow_blk kS0
    have HK0 : Hid (((w1.alloc (.cells #[.slice RW.aU RW.nU RW.cU, .int .i64 RW.lo, .slice RW.aP RW.nP RW.cP] 31)).alloc (.cells #[.int .i64 0, .int .i64 0, .int .i64 0, .int .i64 0, .int .i64 0, .int .i64 0, .int .i64 0, .int .i64 0, .int .i64 0, .slice none 0 0, .slice none 0 0, .int .i64 0, .slice none 0 0, .slice none 0 0, .slice none 0 0, .int .i64 0, .int .i64 0] 35)).heap[w1.heap.size + 1]? = some (.cells #[.int .i64 0, .int .i64 0, .int .i64 0, .int .i64 0, .int .i64 0, .int .i64 0, .int .i64 0, .int .i64 0, .int .i64 0, .slice none 0 0, .slice none 0 0, .int .i64 0, .slice none 0 0, .slice none 0 0, .slice none 0 0, .int .i64 0, .int .i64 0] 35 (0, 0))) := kS0
    have cb := (boxed2 (next2 hB hA)).1
    have hlo : w.heap.size + 2 ≤ w1.heap.size := upper2 hB
    replace hW := (hW.up hA2).off ht (fun x hx hm => by
      simp at hm
      subst hm
      exact (hW.up hA2).boxOut (by decide) (by decide) kS0 hx)
    replace hB := (next2 hB hA2).trans (ht.below (by simp; omega) (fun x hx => by simp at hx; omega))
    have cb2 := (boxed2 hB).1
    clear hb hA hA2 hAW kS0 ht
    dsimp only [Cnt.cells]
    go_wp2_with (refine wpList_stS rfl (.tmp 6) (.tmp 20) rfl (w1.heap.size + 1) rfl #[.int .i64 (n : Int), .int .i64 c, .int .i64 xo, .int .i64 xn, .int .i64 hd, .int .i64 lo, .int .i64 dl, .int .i64 0, .int .i64 1, .slice none 0 0, .slice RW.aU RW.nU RW.cU, .int .i64 RW.lo, .slice RW.aP RW.nP RW.cP, .slice none 0 0, .slice none 0 0, .int .i64 0, .int .i64 0] rfl #[.int .i64 0, .int .i64 0, .int .i64 0, .int .i64 0, .int .i64 0, .int .i64 0, .int .i64 0, .int .i64 0, .int .i64 0, .slice none 0 0, .slice none 0 0, .int .i64 0, .slice none 0 0, .slice none 0 0, .slice none 0 0, .int .i64 0, .int .i64 0] HK0.out rfl rfl (by simp [Value.oneCell']) ?_)
    clear HK0
    generalize hgs : w1.heap.size + 1 = gs at *
    have hz' : _ = gs + 1 := hz.trans (by omega)
    clear hz
    have HRT : Hid (∀ x ∈ rowsT RW, x < gs + 1) := fun x hx => by have := HR0.out x hx; omega
    replace hlo : w.heap.size + 2 ≤ gs := by omega
    generalize (((w1.alloc (.cells #[.slice RW.aU RW.nU RW.cU, .int .i64 RW.lo, .slice RW.aP RW.nP RW.cP] 31)).alloc (.cells #[.int .i64 0, .int .i64 0, .int .i64 0, .int .i64 0, .int .i64 0, .int .i64 0, .int .i64 0, .int .i64 0, .int .i64 0, .slice none 0 0, .slice none 0 0, .int .i64 0, .slice none 0 0, .slice none 0 0, .slice none 0 0, .int .i64 0, .int .i64 0] 35)).setRow gs #[.int .i64 (n : Int), .int .i64 c, .int .i64 xo, .int .i64 xn, .int .i64 hd, .int .i64 lo, .int .i64 dl, .int .i64 0, .int .i64 1, .slice none 0 0, .slice RW.aU RW.nU RW.cU, .int .i64 RW.lo, .slice RW.aP RW.nP RW.cP, .slice none 0 0, .slice none 0 0, .int .i64 0, .int .i64 0]) = wA at *
    have hM : MadeL wA (gs + 1) (.slice none 0 0) 0 (fun _ => gs + 1) noLn := MadeL.start _ _ (by omega) _
    clear hgs hz' cb cb2 HR0
    generalize (Value.tuple #[.agg #[.slice RW.aU RW.nU RW.cU, .int .i64 RW.lo, .slice RW.aP RW.nP RW.cP], .bool true]) = uT
    generalize (Value.agg #[.int .i64 (n : Int), .int .i64 c, .int .i64 xo, .int .i64 xn, .int .i64 hd, .int .i64 lo, .int .i64 dl, .int .i64 0, .int .i64 1, .slice none 0 0, .slice RW.aU RW.nU RW.cU, .int .i64 RW.lo, .slice RW.aP RW.nP RW.cP, .slice none 0 0, .slice none 0 0, .int .i64 0, .int .i64 0]) = uX
    generalize (Value.agg #[.slice RW.aU RW.nU RW.cU, .int .i64 RW.lo, .slice RW.aP RW.nP RW.cP]) = uR
    generalize (Value.agg #[.int .i64 (n : Int), .int .i64 c, .int .i64 xo, .int .i64 xn, .int .i64 hd, .int .i64 lo, .int .i64 dl]) = uC
    go_loopw [7] (fun i wr => ∃ (k : Nat) (v : Value) (b : Nat → Nat) (L : Nat → Ln), k ≤ n ∧ i = .int .i64 k ∧ MadeL wr (gs + 1) v k b L ∧ (∀ i, i < k → freshL (L i)) ∧ wr.heap[gs]? = some (.cells #[.int .i64 (n : Int), .int .i64 c, .int .i64 xo, .int .i64 xn, .int .i64 hd, .int .i64 lo, .int .i64 dl, .int .i64 0, .int .i64 1, .slice none 0 0, .slice RW.aU RW.nU RW.cU, .int .i64 RW.lo, .slice RW.aP RW.nP RW.cP, .slice none 0 0, v, .int .i64 0, .int .i64 0] 35 (0, 0)) ∧ OwnCn wr (w.heap.size + 2) RW ∧ Below (w.heap.size + 2) ((w.alloc (.cells #[.int .i64 (n : Int), .int .i64 c, .int .i64 xo, .int .i64 xn, .int .i64 hd, .int .i64 lo, .int .i64 dl] 25)).alloc (.cells #[.int .i64 0, .int .i64 0, .int .i64 0, .int .i64 0, .int .i64 0, .int .i64 0, .int .i64 0, .int .i64 0, .int .i64 0, .slice none 0 0, .slice none 0 0, .int .i64 0, .slice none 0 0, .slice none 0 0, .slice none 0 0, .int .i64 0, .int .i64 0] 35)) wr) (fun i _ => n - (intOf i).toNat)
    case atStart => exact ⟨0, _, _, _, Nat.zero_le _, rfl, hM, fun i hi => absurd hi (Nat.not_lt_zero i), kS, hW, hB⟩
    case round =>
      clear hM kS hW hB
      obtain ⟨k, v, b, L, hk, rfl, hM, hF, kS, hW, hB⟩ := hrel
      have HF : Hid (∀ i, i < k → freshL (L i)) := hF
      clear hF
      have cb := (boxed2 hB).1
      by_cases hlt : k < n
      · have hlt' : (k : Int) < n := by omega
        go_wp2_with fail
        refine (sRoundNew_any wr.heap.size 0 2 2 qf _ (by omega) (two_row wr) true ⟨fun _ => qf_ok, fun _ => rfl⟩).mono ?_
        rintro e w2 ⟨R, rfl, hR, hb, hAl⟩
        have hb1 : Below wr.heap.size wr w2 := ((Below.refl wr.heap.size wr).alloc (Nat.le_refl _) _).trans (hb.mono (by simp))
        replace hR : OwnRn w2 (b k) R := hR.mono (by have := hM.bn; simp; omega)
        have HAl : Hid (Alike (newM 2 qf true) R) := hAl
        have hA := hb1.trans (((Below.refl w2.heap.size w2).alloc (Nat.le_refl _) (.cells #[.slice R.aQ R.nQ R.cQ, .slice R.aD R.nD R.cD, .int .i64 R.turn, .bool R.fresh, .slice R.aS R.nS R.cS] 49)).mono hb1.size)
        have hA1 := (Below.refl w2.heap.size w2).alloc (Nat.le_refl _) (.cells #[.slice R.aQ R.nQ R.cQ, .slice R.aD R.nD R.cD, .int .i64 R.turn, .bool R.fresh, .slice R.aS R.nS R.cS] 49)
        have kR := blk_new w2 (.cells #[.slice R.aQ R.nQ R.cQ, .slice R.aD R.nD R.cD, .int .i64 R.turn, .bool R.fresh, .slice R.aS R.nS R.cS] 49)
        replace hR := hR.up hA1
        replace hM := hM.up hA
        replace kS := (hA.block _ (blk_lt kS)).trans kS
        replace hW := hW.up hA
        replace hB := next2 hB hA
        clear hb hb1 hA hA1 hAl cb
        dsimp only [Rnd.cells]
        go_wp2_with fail
        generalize hgr : w2.heap.size = gr at *
        generalize (w2.alloc (.cells #[.slice R.aQ R.nQ R.cQ, .slice R.aD R.nD R.cD, .int .i64 R.turn, .bool R.fresh, .slice R.aS R.nS R.cS] 49)) = W at *
        clear hgr
        refine wp_region_held_drew (S := fun w' => ∀ o, w'.cell? ⟨gr, o, none⟩ = (#[.slice R.aQ R.nQ R.cQ, .slice R.aD R.nD R.cD, .int .i64 R.turn, .bool R.fresh, .slice R.aS R.nS R.cS] : Array Value)[o]?) (by kernel_rfl) (fun o => blk_cell kR o) (fun hHeld => ?_)
        have hd := (Below.refl W.heap.size W).drew
        replace hR := hR.up hd
        replace hM := hM.up hd
        replace kR := (hd.block _ (blk_lt kR)).trans kR
        replace kS := (hd.block _ (blk_lt kS)).trans kS
        replace hW := hW.up hd
        replace hB := next2 hB hd
        clear hd hHeld
        generalize W.drew = V at *
        have hHeld := blk_cell kR
        refine takeD (i := 0) (some 32) (v := ?_) rfl rfl (by kernel_rfl) (by kernel_rfl) (by kernel_rfl) (fun _ _ _ h => h) (by kernel_rfl) ?_ (by assumption) ?_
        rotate_left
        · intro wx hSw
          try dsimp only at hSw
          go_simp
          try (with_reducible rfl)
        try simp only [Act.put, List.setIfInBounds_toArray, List.set_cons_zero, List.set_cons_succ]
        refine takeD (i := 3) (some 35) (v := ?_) rfl rfl (by kernel_rfl) (by kernel_rfl) (by kernel_rfl) (fun _ _ _ h => h) (by kernel_rfl) ?_ (by assumption) ?_
        rotate_left
        · intro wx hSw
          try dsimp only at hSw
          go_simp
          try (with_reducible rfl)
        try simp only [Act.put, List.setIfInBounds_toArray, List.set_cons_zero, List.set_cons_succ]
        refine wpAnyH_ready (rs := [1, 2]) (by kernel_rfl) (by simp) ?_
        refine AllReadyH.cons rfl (fun K hK => ?_) (AllReadyH.cons rfl (fun K hK => ?_) AllReadyH.nil)
        · have cS := blk_cell kS
          go_simp
          clear cS
          refine hK.out _ _ (blk_cell kR) (fun hHeld => ?_)
          clear hK K
          try simp only [Act.put, List.setIfInBounds_toArray, List.set_cons_zero, List.set_cons_succ]
          refine wpAnyH_ready (rs := [2]) (by kernel_rfl) (by simp) ?_
          refine AllReadyH.cons rfl (fun K hK => ?_) AllReadyH.nil
          · have m := make_two V
            go_simp
            clear m
            have hA := (Below.refl V.heap.size V).alloc (Nat.le_refl _) (.cells (zSls 2) 28)
            have kU := blk_new V (.cells (zSls 2) 28)
            have gUl : b k ≤ V.heap.size := hM.bn
            replace hR := hR.up hA
            replace hM := hM.up hA
            replace kR := (hA.block _ (blk_lt kR)).trans kR
            replace kS := (hA.block _ (blk_lt kS)).trans kS
            replace hW := hW.up hA
            replace hB := next2 hB hA
            clear hA hHeld
            refine hK.out _ _ (blk_cell kR) (fun hHeld => ?_)
            clear hK K
            try simp only [Act.put, List.setIfInBounds_toArray, List.set_cons_zero, List.set_cons_succ]
            generalize V.heap.size = gU at *
            generalize V.alloc (.cells (zSls 2) 28) = V at *
            refine takeD (i := 4) (some 36) (v := ?_) rfl rfl (by kernel_rfl) (by kernel_rfl) (by kernel_rfl) (fun _ _ _ h => h) (by kernel_rfl) ?_ (by assumption) ?_
            rotate_left
            · intro wx hSw
              try dsimp only at hSw
              go_simp
              try (with_reducible rfl)
            try simp only [Act.put, List.setIfInBounds_toArray, List.set_cons_zero, List.set_cons_succ]
            refine wpAnyH_ready (rs := [5]) (by kernel_rfl) (by simp) ?_
            refine AllReadyH.cons rfl (fun K hK => ?_) AllReadyH.nil
            · obtain ⟨ga, ca, W', hr, hrow, hgb, hwh⟩ := appendLn ⟨false, some ⟨gU, 0, none⟩, 2, R⟩ hM.row (by omega) (by have := hM.mono (i := 0) (j := k) (by omega) (by omega); have := hM.b0; have := hM.bn; omega) 33
              have hr : (Builtin.append_ #[33, 33] 33 #[v, .slice (some ⟨V.heap.size, 0, none⟩) 1 1]).run Try.prog (V.alloc (.cells #[.bool false, .slice none 0 0, .slice (some ⟨gU, 0, none⟩) 2 2, .slice R.aQ R.nQ R.cQ, .slice R.aD R.nD R.cD, .int .i64 R.turn, .bool R.fresh, .slice R.aS R.nS R.cS] 51)) = .ok (.slice (some ⟨ga, 0, none⟩) (k + 1) ca) W' := hr
              have hM' := hM.next ⟨false, some ⟨gU, 0, none⟩, 2, R⟩ hrow hgb hR (freshL.sh ⟨rfl, HAl.out⟩) (two_vs gUl kU)
              have kR' := hM.far hgb kR (by decide)
              have kS' := hM.far hgb kS (by decide)
              have hW' := hM.counts hgb hW
              have hB' := hM.below hgb hB (by omega)
              have hA := (Below.refl V.heap.size V).alloc (Nat.le_refl _) (.cells #[.bool false, .slice none 0 0, .slice (some ⟨gU, 0, none⟩) 2 2, .slice R.aQ R.nQ R.cQ, .slice R.aD R.nD R.cD, .int .i64 R.turn, .bool R.fresh, .slice R.aS R.nS R.cS] 51)
              replace kS := (hA.block _ (blk_lt kS)).trans kS
              replace kR := (hA.block _ (blk_lt kR)).trans kR
              go_simp
              clear hHeld hA hgb hrow hwh hM hW hB
              refine hK.out _ _ (blk_cell kR) (fun hHeld => ?_)
              clear hK K
              try simp only [Act.put, List.setIfInBounds_toArray, List.set_cons_zero, List.set_cons_succ]
              generalize V.heap.size = gl at *
              generalize V.alloc (.cells #[.bool false, .slice none 0 0, .slice (some ⟨gU, 0, none⟩) 2 2, .slice R.aQ R.nQ R.cQ, .slice R.aD R.nD R.cD, .int .i64 R.turn, .bool R.fresh, .slice R.aS R.nS R.cS] 51) = V at *
              refine wpAnyH_ready (rs := [6]) (by kernel_rfl) (by simp) ?_
              refine AllReadyH.cons rfl (fun K hK => ?_) AllReadyH.nil
              · refine wp_appD (by kernel_rfl) (some 38) (.tmp 33) (.tmp 37) 33 _ _ _ rfl rfl rfl rfl rfl hr ?_
                clear hr hHeld kS kR
                have kS := kS'
                have kR := kR'
                clear kS' kR'
                refine hK.out _ _ (blk_cell kR) (fun hHeld => ?_)
                clear hK K
                try simp only [Act.put, List.setIfInBounds_toArray, List.set_cons_zero, List.set_cons_succ]
                refine takeD (i := 7) (some 39) (v := ?_) rfl rfl (by kernel_rfl) (by kernel_rfl) (by kernel_rfl) (fun _ _ _ h => h) (by kernel_rfl) ?_ (by assumption) ?_
                rotate_left
                · intro wx hSw
                  try dsimp only at hSw
                  go_simp
                  try (with_reducible rfl)
                try simp only [Act.put, List.setIfInBounds_toArray, List.set_cons_zero, List.set_cons_succ]
                refine wpAnyH_ready (rs := [8]) (by kernel_rfl) (by simp) ?_
                refine AllReadyH.cons rfl (fun K hK => ?_) AllReadyH.nil
                · have cS := blk_cell kS
                  have fS := blk_free kS
                  have hT : Touch [gs] W' (W'.setCell ⟨gs, 14, none⟩ (.slice (some ⟨ga, 0, none⟩) (k + 1) ca)) := (Touch.refl _ _).set (by simp) _ _
                  have kR2 := (hT.block gr (blk_lt kR) (fun hx => by simp at hx; subst hx; rw [kR] at kS; simp at kS)).trans kR
                  go_simp
                  clear cS fS hHeld
                  refine hK.out _ _ (blk_cell kR2) (fun hHeld => ?_)
                  clear hK K kR2
                  try simp only [Act.put, List.setIfInBounds_toArray, List.set_cons_zero, List.set_cons_succ]
                  refine wpAnyH_done (by kernel_rfl) ?_ _
                  have HM2 : Hid (MadeL (W'.setCell ⟨gs, 14, none⟩ (.slice (some ⟨ga, 0, none⟩) (k + 1) ca)) (gs + 1) (.slice (some ⟨ga, 0, none⟩) (k + 1) ca) (k + 1) (upB b k W'.heap.size) (upd L k ⟨false, some ⟨gU, 0, none⟩, 2, R⟩)) := hM'.touchLo hT (fun x hx => by simp at hx; omega)
                  have HS2 : Hid ((W'.setCell ⟨gs, 14, none⟩ (.slice (some ⟨ga, 0, none⟩) (k + 1) ca)).heap[gs]? = some (.cells #[.int .i64 (n : Int), .int .i64 c, .int .i64 xo, .int .i64 xn, .int .i64 hd, .int .i64 lo, .int .i64 dl, .int .i64 0, .int .i64 1, .slice none 0 0, .slice RW.aU RW.nU RW.cU, .int .i64 RW.lo, .slice RW.aP RW.nP RW.cP, .slice none 0 0, .slice (some ⟨ga, 0, none⟩) (k + 1) ca, .int .i64 0, .int .i64 0] 35 (0, 0))) := blk_set kS _
                  have HW2 : Hid (OwnCn (W'.setCell ⟨gs, 14, none⟩ (.slice (some ⟨ga, 0, none⟩) (k + 1) ca)) (w.heap.size + 2) RW) := hW'.off hT (fun x hx hm => by
                    simp at hm
                    subst hm
                    exact hW'.boxOut (by decide) (by decide) kS hx)
                  have HB2 : Hid (Below (w.heap.size + 2) ((w.alloc (.cells #[.int .i64 (n : Int), .int .i64 c, .int .i64 xo, .int .i64 xn, .int .i64 hd, .int .i64 lo, .int .i64 dl] 25)).alloc (.cells #[.int .i64 0, .int .i64 0, .int .i64 0, .int .i64 0, .int .i64 0, .int .i64 0, .int .i64 0, .int .i64 0, .int .i64 0, .slice none 0 0, .slice none 0 0, .int .i64 0, .slice none 0 0, .slice none 0 0, .slice none 0 0, .int .i64 0, .int .i64 0] 35)) (W'.setCell ⟨gs, 14, none⟩ (.slice (some ⟨ga, 0, none⟩) (k + 1) ca))) := hB'.setCell (by show _ ≤ gs; omega) _
                  have HF2 : Hid (∀ i, i < k + 1 → freshL (upd L k ⟨false, some ⟨gU, 0, none⟩, 2, R⟩ i)) := upd_all (p := fun _ l => freshL l) (fun i hi hne => HF.out i (by omega)) ⟨rfl, HAl.out⟩
                  clear hM' kS hW' hB' hT kR hR HF HAl kU
                  go_wp2_with fail
                  go_roundw
                  case rel => exact ⟨k + 1, _, _, _, by omega, by go_num, HM2.out, HF2.out, HS2.out, HW2.out, HB2.out⟩
                  case measure => simp [intOf]; omega
        · have m := make_two V
          go_simp
          clear m
          have hA := (Below.refl V.heap.size V).alloc (Nat.le_refl _) (.cells (zSls 2) 28)
          have kU := blk_new V (.cells (zSls 2) 28)
          have gUl : b k ≤ V.heap.size := hM.bn
          replace hR := hR.up hA
          replace hM := hM.up hA
          replace kR := (hA.block _ (blk_lt kR)).trans kR
          replace kS := (hA.block _ (blk_lt kS)).trans kS
          replace hW := hW.up hA
          replace hB := next2 hB hA
          clear hA hHeld
          refine hK.out _ _ (blk_cell kR) (fun hHeld => ?_)
          clear hK K
          try simp only [Act.put, List.setIfInBounds_toArray, List.set_cons_zero, List.set_cons_succ]
          generalize V.heap.size = gU at *
          generalize V.alloc (.cells (zSls 2) 28) = V at *
          refine takeD (i := 4) (some 36) (v := ?_) rfl rfl (by kernel_rfl) (by kernel_rfl) (by kernel_rfl) (fun _ _ _ h => h) (by kernel_rfl) ?_ (by assumption) ?_
          rotate_left
          · intro wx hSw
            try dsimp only at hSw
            go_simp
            try (with_reducible rfl)
          try simp only [Act.put, List.setIfInBounds_toArray, List.set_cons_zero, List.set_cons_succ]
          refine wpAnyH_ready (rs := [1, 5]) (by kernel_rfl) (by simp) ?_
          refine AllReadyH.cons rfl (fun K hK => ?_) (AllReadyH.cons rfl (fun K hK => ?_) AllReadyH.nil)
          · have cS := blk_cell kS
            go_simp
            clear cS
            refine hK.out _ _ (blk_cell kR) (fun hHeld => ?_)
            clear hK K
            try simp only [Act.put, List.setIfInBounds_toArray, List.set_cons_zero, List.set_cons_succ]
            refine wpAnyH_ready (rs := [5]) (by kernel_rfl) (by simp) ?_
            refine AllReadyH.cons rfl (fun K hK => ?_) AllReadyH.nil
            · obtain ⟨ga, ca, W', hr, hrow, hgb, hwh⟩ := appendLn ⟨false, some ⟨gU, 0, none⟩, 2, R⟩ hM.row (by omega) (by have := hM.mono (i := 0) (j := k) (by omega) (by omega); have := hM.b0; have := hM.bn; omega) 33
              have hr : (Builtin.append_ #[33, 33] 33 #[v, .slice (some ⟨V.heap.size, 0, none⟩) 1 1]).run Try.prog (V.alloc (.cells #[.bool false, .slice none 0 0, .slice (some ⟨gU, 0, none⟩) 2 2, .slice R.aQ R.nQ R.cQ, .slice R.aD R.nD R.cD, .int .i64 R.turn, .bool R.fresh, .slice R.aS R.nS R.cS] 51)) = .ok (.slice (some ⟨ga, 0, none⟩) (k + 1) ca) W' := hr
              have hM' := hM.next ⟨false, some ⟨gU, 0, none⟩, 2, R⟩ hrow hgb hR (freshL.sh ⟨rfl, HAl.out⟩) (two_vs gUl kU)
              have kR' := hM.far hgb kR (by decide)
              have kS' := hM.far hgb kS (by decide)
              have hW' := hM.counts hgb hW
              have hB' := hM.below hgb hB (by omega)
              have hA := (Below.refl V.heap.size V).alloc (Nat.le_refl _) (.cells #[.bool false, .slice none 0 0, .slice (some ⟨gU, 0, none⟩) 2 2, .slice R.aQ R.nQ R.cQ, .slice R.aD R.nD R.cD, .int .i64 R.turn, .bool R.fresh, .slice R.aS R.nS R.cS] 51)
              replace kS := (hA.block _ (blk_lt kS)).trans kS
              replace kR := (hA.block _ (blk_lt kR)).trans kR
              go_simp
              clear hHeld hA hgb hrow hwh hM hW hB
              refine hK.out _ _ (blk_cell kR) (fun hHeld => ?_)
              clear hK K
              try simp only [Act.put, List.setIfInBounds_toArray, List.set_cons_zero, List.set_cons_succ]
              generalize V.heap.size = gl at *
              generalize V.alloc (.cells #[.bool false, .slice none 0 0, .slice (some ⟨gU, 0, none⟩) 2 2, .slice R.aQ R.nQ R.cQ, .slice R.aD R.nD R.cD, .int .i64 R.turn, .bool R.fresh, .slice R.aS R.nS R.cS] 51) = V at *
              refine wpAnyH_ready (rs := [6]) (by kernel_rfl) (by simp) ?_
              refine AllReadyH.cons rfl (fun K hK => ?_) AllReadyH.nil
              · refine wp_appD (by kernel_rfl) (some 38) (.tmp 33) (.tmp 37) 33 _ _ _ rfl rfl rfl rfl rfl hr ?_
                clear hr hHeld kS kR
                have kS := kS'
                have kR := kR'
                clear kS' kR'
                refine hK.out _ _ (blk_cell kR) (fun hHeld => ?_)
                clear hK K
                try simp only [Act.put, List.setIfInBounds_toArray, List.set_cons_zero, List.set_cons_succ]
                refine takeD (i := 7) (some 39) (v := ?_) rfl rfl (by kernel_rfl) (by kernel_rfl) (by kernel_rfl) (fun _ _ _ h => h) (by kernel_rfl) ?_ (by assumption) ?_
                rotate_left
                · intro wx hSw
                  try dsimp only at hSw
                  go_simp
                  try (with_reducible rfl)
                try simp only [Act.put, List.setIfInBounds_toArray, List.set_cons_zero, List.set_cons_succ]
                refine wpAnyH_ready (rs := [8]) (by kernel_rfl) (by simp) ?_
                refine AllReadyH.cons rfl (fun K hK => ?_) AllReadyH.nil
                · have cS := blk_cell kS
                  have fS := blk_free kS
                  have hT : Touch [gs] W' (W'.setCell ⟨gs, 14, none⟩ (.slice (some ⟨ga, 0, none⟩) (k + 1) ca)) := (Touch.refl _ _).set (by simp) _ _
                  have kR2 := (hT.block gr (blk_lt kR) (fun hx => by simp at hx; subst hx; rw [kR] at kS; simp at kS)).trans kR
                  go_simp
                  clear cS fS hHeld
                  refine hK.out _ _ (blk_cell kR2) (fun hHeld => ?_)
                  clear hK K kR2
                  try simp only [Act.put, List.setIfInBounds_toArray, List.set_cons_zero, List.set_cons_succ]
                  refine wpAnyH_done (by kernel_rfl) ?_ _
                  have HM2 : Hid (MadeL (W'.setCell ⟨gs, 14, none⟩ (.slice (some ⟨ga, 0, none⟩) (k + 1) ca)) (gs + 1) (.slice (some ⟨ga, 0, none⟩) (k + 1) ca) (k + 1) (upB b k W'.heap.size) (upd L k ⟨false, some ⟨gU, 0, none⟩, 2, R⟩)) := hM'.touchLo hT (fun x hx => by simp at hx; omega)
                  have HS2 : Hid ((W'.setCell ⟨gs, 14, none⟩ (.slice (some ⟨ga, 0, none⟩) (k + 1) ca)).heap[gs]? = some (.cells #[.int .i64 (n : Int), .int .i64 c, .int .i64 xo, .int .i64 xn, .int .i64 hd, .int .i64 lo, .int .i64 dl, .int .i64 0, .int .i64 1, .slice none 0 0, .slice RW.aU RW.nU RW.cU, .int .i64 RW.lo, .slice RW.aP RW.nP RW.cP, .slice none 0 0, .slice (some ⟨ga, 0, none⟩) (k + 1) ca, .int .i64 0, .int .i64 0] 35 (0, 0))) := blk_set kS _
                  have HW2 : Hid (OwnCn (W'.setCell ⟨gs, 14, none⟩ (.slice (some ⟨ga, 0, none⟩) (k + 1) ca)) (w.heap.size + 2) RW) := hW'.off hT (fun x hx hm => by
                    simp at hm
                    subst hm
                    exact hW'.boxOut (by decide) (by decide) kS hx)
                  have HB2 : Hid (Below (w.heap.size + 2) ((w.alloc (.cells #[.int .i64 (n : Int), .int .i64 c, .int .i64 xo, .int .i64 xn, .int .i64 hd, .int .i64 lo, .int .i64 dl] 25)).alloc (.cells #[.int .i64 0, .int .i64 0, .int .i64 0, .int .i64 0, .int .i64 0, .int .i64 0, .int .i64 0, .int .i64 0, .int .i64 0, .slice none 0 0, .slice none 0 0, .int .i64 0, .slice none 0 0, .slice none 0 0, .slice none 0 0, .int .i64 0, .int .i64 0] 35)) (W'.setCell ⟨gs, 14, none⟩ (.slice (some ⟨ga, 0, none⟩) (k + 1) ca))) := hB'.setCell (by show _ ≤ gs; omega) _
                  have HF2 : Hid (∀ i, i < k + 1 → freshL (upd L k ⟨false, some ⟨gU, 0, none⟩, 2, R⟩ i)) := upd_all (p := fun _ l => freshL l) (fun i hi hne => HF.out i (by omega)) ⟨rfl, HAl.out⟩
                  clear hM' kS hW' hB' hT kR hR HF HAl kU
                  go_wp2_with fail
                  go_roundw
                  case rel => exact ⟨k + 1, _, _, _, by omega, by go_num, HM2.out, HF2.out, HS2.out, HW2.out, HB2.out⟩
                  case measure => simp [intOf]; omega
          · obtain ⟨ga, ca, W', hr, hrow, hgb, hwh⟩ := appendLn ⟨false, some ⟨gU, 0, none⟩, 2, R⟩ hM.row (by omega) (by have := hM.mono (i := 0) (j := k) (by omega) (by omega); have := hM.b0; have := hM.bn; omega) 33
            have hr : (Builtin.append_ #[33, 33] 33 #[v, .slice (some ⟨V.heap.size, 0, none⟩) 1 1]).run Try.prog (V.alloc (.cells #[.bool false, .slice none 0 0, .slice (some ⟨gU, 0, none⟩) 2 2, .slice R.aQ R.nQ R.cQ, .slice R.aD R.nD R.cD, .int .i64 R.turn, .bool R.fresh, .slice R.aS R.nS R.cS] 51)) = .ok (.slice (some ⟨ga, 0, none⟩) (k + 1) ca) W' := hr
            have hM' := hM.next ⟨false, some ⟨gU, 0, none⟩, 2, R⟩ hrow hgb hR (freshL.sh ⟨rfl, HAl.out⟩) (two_vs gUl kU)
            have kR' := hM.far hgb kR (by decide)
            have kS' := hM.far hgb kS (by decide)
            have hW' := hM.counts hgb hW
            have hB' := hM.below hgb hB (by omega)
            have hA := (Below.refl V.heap.size V).alloc (Nat.le_refl _) (.cells #[.bool false, .slice none 0 0, .slice (some ⟨gU, 0, none⟩) 2 2, .slice R.aQ R.nQ R.cQ, .slice R.aD R.nD R.cD, .int .i64 R.turn, .bool R.fresh, .slice R.aS R.nS R.cS] 51)
            replace kS := (hA.block _ (blk_lt kS)).trans kS
            replace kR := (hA.block _ (blk_lt kR)).trans kR
            go_simp
            clear hHeld hA hgb hrow hwh hM hW hB
            refine hK.out _ _ (blk_cell kR) (fun hHeld => ?_)
            clear hK K
            try simp only [Act.put, List.setIfInBounds_toArray, List.set_cons_zero, List.set_cons_succ]
            generalize V.heap.size = gl at *
            generalize V.alloc (.cells #[.bool false, .slice none 0 0, .slice (some ⟨gU, 0, none⟩) 2 2, .slice R.aQ R.nQ R.cQ, .slice R.aD R.nD R.cD, .int .i64 R.turn, .bool R.fresh, .slice R.aS R.nS R.cS] 51) = V at *
            refine wpAnyH_ready (rs := [1]) (by kernel_rfl) (by simp) ?_
            refine AllReadyH.cons rfl (fun K hK => ?_) AllReadyH.nil
            · have cS := blk_cell kS
              go_simp
              clear cS
              refine hK.out _ _ (blk_cell kR) (fun hHeld => ?_)
              clear hK K
              try simp only [Act.put, List.setIfInBounds_toArray, List.set_cons_zero, List.set_cons_succ]
              refine wpAnyH_ready (rs := [6]) (by kernel_rfl) (by simp) ?_
              refine AllReadyH.cons rfl (fun K hK => ?_) AllReadyH.nil
              · refine wp_appD (by kernel_rfl) (some 38) (.tmp 33) (.tmp 37) 33 _ _ _ rfl rfl rfl rfl rfl hr ?_
                clear hr hHeld kS kR
                have kS := kS'
                have kR := kR'
                clear kS' kR'
                refine hK.out _ _ (blk_cell kR) (fun hHeld => ?_)
                clear hK K
                try simp only [Act.put, List.setIfInBounds_toArray, List.set_cons_zero, List.set_cons_succ]
                refine takeD (i := 7) (some 39) (v := ?_) rfl rfl (by kernel_rfl) (by kernel_rfl) (by kernel_rfl) (fun _ _ _ h => h) (by kernel_rfl) ?_ (by assumption) ?_
                rotate_left
                · intro wx hSw
                  try dsimp only at hSw
                  go_simp
                  try (with_reducible rfl)
                try simp only [Act.put, List.setIfInBounds_toArray, List.set_cons_zero, List.set_cons_succ]
                refine wpAnyH_ready (rs := [8]) (by kernel_rfl) (by simp) ?_
                refine AllReadyH.cons rfl (fun K hK => ?_) AllReadyH.nil
                · have cS := blk_cell kS
                  have fS := blk_free kS
                  have hT : Touch [gs] W' (W'.setCell ⟨gs, 14, none⟩ (.slice (some ⟨ga, 0, none⟩) (k + 1) ca)) := (Touch.refl _ _).set (by simp) _ _
                  have kR2 := (hT.block gr (blk_lt kR) (fun hx => by simp at hx; subst hx; rw [kR] at kS; simp at kS)).trans kR
                  go_simp
                  clear cS fS hHeld
                  refine hK.out _ _ (blk_cell kR2) (fun hHeld => ?_)
                  clear hK K kR2
                  try simp only [Act.put, List.setIfInBounds_toArray, List.set_cons_zero, List.set_cons_succ]
                  refine wpAnyH_done (by kernel_rfl) ?_ _
                  have HM2 : Hid (MadeL (W'.setCell ⟨gs, 14, none⟩ (.slice (some ⟨ga, 0, none⟩) (k + 1) ca)) (gs + 1) (.slice (some ⟨ga, 0, none⟩) (k + 1) ca) (k + 1) (upB b k W'.heap.size) (upd L k ⟨false, some ⟨gU, 0, none⟩, 2, R⟩)) := hM'.touchLo hT (fun x hx => by simp at hx; omega)
                  have HS2 : Hid ((W'.setCell ⟨gs, 14, none⟩ (.slice (some ⟨ga, 0, none⟩) (k + 1) ca)).heap[gs]? = some (.cells #[.int .i64 (n : Int), .int .i64 c, .int .i64 xo, .int .i64 xn, .int .i64 hd, .int .i64 lo, .int .i64 dl, .int .i64 0, .int .i64 1, .slice none 0 0, .slice RW.aU RW.nU RW.cU, .int .i64 RW.lo, .slice RW.aP RW.nP RW.cP, .slice none 0 0, .slice (some ⟨ga, 0, none⟩) (k + 1) ca, .int .i64 0, .int .i64 0] 35 (0, 0))) := blk_set kS _
                  have HW2 : Hid (OwnCn (W'.setCell ⟨gs, 14, none⟩ (.slice (some ⟨ga, 0, none⟩) (k + 1) ca)) (w.heap.size + 2) RW) := hW'.off hT (fun x hx hm => by
                    simp at hm
                    subst hm
                    exact hW'.boxOut (by decide) (by decide) kS hx)
                  have HB2 : Hid (Below (w.heap.size + 2) ((w.alloc (.cells #[.int .i64 (n : Int), .int .i64 c, .int .i64 xo, .int .i64 xn, .int .i64 hd, .int .i64 lo, .int .i64 dl] 25)).alloc (.cells #[.int .i64 0, .int .i64 0, .int .i64 0, .int .i64 0, .int .i64 0, .int .i64 0, .int .i64 0, .int .i64 0, .int .i64 0, .slice none 0 0, .slice none 0 0, .int .i64 0, .slice none 0 0, .slice none 0 0, .slice none 0 0, .int .i64 0, .int .i64 0] 35)) (W'.setCell ⟨gs, 14, none⟩ (.slice (some ⟨ga, 0, none⟩) (k + 1) ca))) := hB'.setCell (by show _ ≤ gs; omega) _
                  have HF2 : Hid (∀ i, i < k + 1 → freshL (upd L k ⟨false, some ⟨gU, 0, none⟩, 2, R⟩ i)) := upd_all (p := fun _ l => freshL l) (fun i hi hne => HF.out i (by omega)) ⟨rfl, HAl.out⟩
                  clear hM' kS hW' hB' hT kR hR HF HAl kU
                  go_wp2_with fail
                  go_roundw
                  case rel => exact ⟨k + 1, _, _, _, by omega, by go_num, HM2.out, HF2.out, HS2.out, HW2.out, HB2.out⟩
                  case measure => simp [intOf]; omega
      · obtain rfl : k = n := by omega
        rcases hM.lanes with ⟨_, h0⟩ | ⟨g, cap, rfl, hg, hL⟩
        · omega
        have kz := (laid2 hB).2
        have ht := setRow_touch wr (w.heap.size + 1) #[.int .i64 (k : Int), .int .i64 c, .int .i64 xo, .int .i64 xn, .int .i64 hd, .int .i64 lo, .int .i64 dl, .int .i64 0, .int .i64 1, .slice none 0 0, .slice RW.aU RW.nU RW.cU, .int .i64 RW.lo, .slice RW.aP RW.nP RW.cP, .slice none 0 0, .slice (some ⟨g, 0, none⟩) k cap, .int .i64 0, .int .i64 0]
        have HK3 : Hid ((wr.setRow (w.heap.size + 1) #[.int .i64 (k : Int), .int .i64 c, .int .i64 xo, .int .i64 xn, .int .i64 hd, .int .i64 lo, .int .i64 dl, .int .i64 0, .int .i64 1, .slice none 0 0, .slice RW.aU RW.nU RW.cU, .int .i64 RW.lo, .slice RW.aP RW.nP RW.cP, .slice none 0 0, .slice (some ⟨g, 0, none⟩) k cap, .int .i64 0, .int .i64 0]).heap[w.heap.size + 1]? = some (.cells #[.int .i64 (k : Int), .int .i64 c, .int .i64 xo, .int .i64 xn, .int .i64 hd, .int .i64 lo, .int .i64 dl, .int .i64 0, .int .i64 1, .slice none 0 0, .slice RW.aU RW.nU RW.cU, .int .i64 RW.lo, .slice RW.aP RW.nP RW.cP, .slice none 0 0, .slice (some ⟨g, 0, none⟩) k cap, .int .i64 0, .int .i64 0] 35 (0, 0))) := setRow_blk kz
        have hb0 := hM.b0
        have HFin : Hid (NewS (wr.setRow (w.heap.size + 1) #[.int .i64 (k : Int), .int .i64 c, .int .i64 xo, .int .i64 xn, .int .i64 hd, .int .i64 lo, .int .i64 dl, .int .i64 0, .int .i64 1, .slice none 0 0, .slice RW.aU RW.nU RW.cU, .int .i64 RW.lo, .slice RW.aP RW.nP RW.cP, .slice none 0 0, .slice (some ⟨g, 0, none⟩) k cap, .int .i64 0, .int .i64 0]) w.heap.size ⟨(k : Int), c, xo, xn, hd, lo, dl⟩ k true ⟨⟨(k : Int), c, xo, xn, hd, lo, dl⟩, 1, RW, some ⟨g, 0, none⟩, k, cap, L⟩) :=
          ⟨rfl, rfl, rfl, by omega, hn, HAW.out, HF.out, g, b, ⟨(hW.touch ht (fun x hx => by simp at hx; omega)).mono (by omega), by omega, hL.touchLo ht (fun x hx => by simp at hx; omega), rfl, fun x hx => by have := HRT.out x hx; omega⟩⟩
        have HB2 : Hid (Below w.heap.size w (wr.setRow (w.heap.size + 1) #[.int .i64 (k : Int), .int .i64 c, .int .i64 xo, .int .i64 xn, .int .i64 hd, .int .i64 lo, .int .i64 dl, .int .i64 0, .int .i64 1, .slice none 0 0, .slice RW.aU RW.nU RW.cU, .int .i64 RW.lo, .slice RW.aP RW.nP RW.cP, .slice none 0 0, .slice (some ⟨g, 0, none⟩) k cap, .int .i64 0, .int .i64 0])) := (under2 hB).trans (ht.below (under2 hB).size (fun x hx => by simp at hx; omega))
        have HKz : Hid (wr.heap[w.heap.size + 1]? = some (.cells #[.int .i64 0, .int .i64 0, .int .i64 0, .int .i64 0, .int .i64 0, .int .i64 0, .int .i64 0, .int .i64 0, .int .i64 0, .slice none 0 0, .slice none 0 0, .int .i64 0, .slice none 0 0, .slice none 0 0, .slice none 0 0, .int .i64 0, .int .i64 0] 35 (0, 0))) := kz
        have HKs : Hid (wr.heap[gs]? = some (.cells #[.int .i64 (k : Int), .int .i64 c, .int .i64 xo, .int .i64 xn, .int .i64 hd, .int .i64 lo, .int .i64 dl, .int .i64 0, .int .i64 1, .slice none 0 0, .slice RW.aU RW.nU RW.cU, .int .i64 RW.lo, .slice RW.aP RW.nP RW.cP, .slice none 0 0, .slice (some ⟨g, 0, none⟩) k cap, .int .i64 0, .int .i64 0] 35 (0, 0))) := kS
        clear kz ht hB hM hL hW kS HB0 HO HAW HRT HF hg hb0
        go_wp2_with (first | refine wpList_ldS rfl (.tmp 6) rfl gs rfl #[.int .i64 (k : Int), .int .i64 c, .int .i64 xo, .int .i64 xn, .int .i64 hd, .int .i64 lo, .int .i64 dl, .int .i64 0, .int .i64 1, .slice none 0 0, .slice RW.aU RW.nU RW.cU, .int .i64 RW.lo, .slice RW.aP RW.nP RW.cP, .slice none 0 0, .slice (some ⟨g, 0, none⟩) k cap, .int .i64 0, .int .i64 0] HKs.out rfl ?_ | refine wpList_stS rfl (.tmp 2) (.tmp 40) rfl (w.heap.size + 1) rfl #[.int .i64 (k : Int), .int .i64 c, .int .i64 xo, .int .i64 xn, .int .i64 hd, .int .i64 lo, .int .i64 dl, .int .i64 0, .int .i64 1, .slice none 0 0, .slice RW.aU RW.nU RW.cU, .int .i64 RW.lo, .slice RW.aP RW.nP RW.cP, .slice none 0 0, .slice (some ⟨g, 0, none⟩) k cap, .int .i64 0, .int .i64 0] rfl #[.int .i64 0, .int .i64 0, .int .i64 0, .int .i64 0, .int .i64 0, .int .i64 0, .int .i64 0, .int .i64 0, .int .i64 0, .slice none 0 0, .slice none 0 0, .int .i64 0, .slice none 0 0, .slice none 0 0, .slice none 0 0, .int .i64 0, .int .i64 0] HKz.out rfl rfl (by simp [Value.oneCell']) ?_)
        generalize wr.setRow (w.heap.size + 1) #[.int .i64 (k : Int), .int .i64 c, .int .i64 xo, .int .i64 xn, .int .i64 hd, .int .i64 lo, .int .i64 dl, .int .i64 0, .int .i64 1, .slice none 0 0, .slice RW.aU RW.nU RW.cU, .int .i64 RW.lo, .slice RW.aP RW.nP RW.cP, .slice none 0 0, .slice (some ⟨g, 0, none⟩) k cap, .int .i64 0, .int .i64 0] = WF at *
        exact bodyPost_ret (res_cellS Try.results7 _ _ (w.heap.size + 1) _ rfl HK3.out rfl (.bool true) rfl) rfl ⟨⟨⟨(k : Int), c, xo, xn, hd, lo, dl⟩, 1, RW, some ⟨g, 0, none⟩, k, cap, L⟩, rfl, HFin.out, HB2.out⟩
theorem sSwitchNew_any (C : Cfg) (n : Nat) (w : World) (hp : 2 ≤ C.p ∧ C.p ≤ 4 → C.p = (n : Int)) (ok : Bool) (hok : ok = true ↔ C.Ok) :
    Calls Try.prog 7 #[.agg C.cells] w fun e w' => ∃ S : Sw, e = .returned (.tuple #[.agg S.cells, .bool ok]) ∧ NewS w' w.heap.size C n ok S ∧ Below w.heap.size w w' := by
  cases ok
  · exact sSwitchNew_bad C n w hp hok
  · obtain ⟨p, c, xo, xn, hd, lo, dl⟩ := C
    have hC := hok.1 rfl
    have h1 : 2 ≤ p ∧ p ≤ 4 := hC.num.p
    obtain rfl : p = (n : Int) := hp h1
    exact sSwitchNew_ok n c xo xn hd lo dl w hC
end Go.Proofs.Ytaiodombphpcgaa
