import Derived.Test.YtfkpncopkgidfaaGreatN25
import Derived.Test.YtfkpncopkgidfaaGreatN27
import Derived.Test.YtfkpncopkgidfaaGreatN28
import Derived.Deep.Cut
import Derived.Deep.DeepCutAuto
namespace Go.Proofs.YtfkpncopkgidfaaGreat
open Go.RowKit
set_option linter.unusedVariables false
set_option linter.unusedSimpArgs false
def zFb : Array Value := #[.int .i64 0, .int .i64 0, .int .i64 0, .int .i64 0, .int .i64 0, .int .i64 0, .int .i64 0, .int .i64 0, .int .i64 0, .slice none 0 0, .slice none 0 0, .int .i64 0, .slice none 0 0, .slice none 0 0, .slice none 0 0, .int .i64 0, .int .i64 0, .slice none 0 0, .slice none 0 0, .slice none 0 0]
theorem OG.farT {t t' : TypeId} {sz : Nat} {w w' : World} {base n c : Nat} {a : Option Addr} {xs : List Value} {S : List Nat} (h : OG t sz w base a n c xs) (ht : Touch S w w') (hS : ∀ x ∈ S, ∃ cs, w.heap[x]? = some (.cells cs t' (0, 0))) (hne : t ≠ t') : OG t sz w' base a n c xs :=
 h.touchS ht (fun x hx hy => by
  obtain ⟨cs, e1⟩ := h.type x hx
  obtain ⟨cs', e2⟩ := hS x hy
  rw [e1] at e2
  simp at e2
  exact hne e2.2)
structure OffS (t' : TypeId) : Prop where
 e : 109 ≠ t'
 i : 2 ≠ t'
 b : 4 ≠ t'
 k : 112 ≠ t'
 l : 118 ≠ t'
 s : 25 ≠ t'
theorem OwnSg.farT {t' : TypeId} {w w' : World} {base : Nat} {G : Swg} {S : List Nat} (h : OwnSg w base G) (ht : Touch S w w') (hS : ∀ x ∈ S, ∃ cs, w.heap[x]? = some (.cells cs t' (0, 0))) (q : OffS t') : OwnSg w' base G :=
 ⟨h.e.farT ht hS q.e, h.u.farT ht hS q.i, h.p.farT ht hS q.b, h.k.farT ht hS q.k, h.l.farT ht hS q.l, fun i hi => (h.ls i hi).farT ht hS q.i q.s, h.nd⟩
theorem offFb : OffS 49 := ⟨by decide, by decide, by decide, by decide, by decide, by decide⟩
theorem offHt : OffS 73 := ⟨by decide, by decide, by decide, by decide, by decide, by decide⟩
theorem offFr : OffS 110 := ⟨by decide, by decide, by decide, by decide, by decide, by decide⟩
def Hst.blkz (h : Hst) : List Nat := blkO h.aO ++ blkO h.aG
structure OwnHz (w : World) (base : Nat) (h : Hst) : Prop where
 o : OG 110 5 w base h.aO h.nO h.cO (tV h.nO fun i => (h.O i).frame)
 g : OG 110 5 w base h.aG h.nG h.cG (tV h.nG fun i => (h.G i).frame)
 og : ∀ x ∈ blkO h.aO, x ∉ blkO h.aG
theorem OwnHz.up {w w' : World} {base : Nat} {h : Hst} (k : OwnHz w base h) (hb : Below w.heap.size w w') : OwnHz w' base h := ⟨k.o.up hb, k.g.up hb, k.og⟩
theorem OwnHz.mono {w : World} {base base' : Nat} {h : Hst} (k : OwnHz w base h) (hb : base' ≤ base) : OwnHz w base' h := ⟨k.o.mono hb, k.g.mono hb, k.og⟩
theorem OwnHz.low {w w' : World} {base : Nat} {h : Hst} {S : List Nat} (k : OwnHz w base h) (ht : Touch S w w') (hS : ∀ x ∈ S, x < base) : OwnHz w' base h := ⟨k.o.low ht hS, k.g.low ht hS, k.og⟩
theorem OwnHz.farT {t' : TypeId} {w w' : World} {base : Nat} {h : Hst} {S : List Nat} (k : OwnHz w base h) (ht : Touch S w w') (hS : ∀ x ∈ S, ∃ cs, w.heap[x]? = some (.cells cs t' (0, 0))) (q : 110 ≠ t') : OwnHz w' base h := ⟨k.o.farT ht hS q, k.g.farT ht hS q, k.og⟩
theorem OwnHz.blk {w : World} {base : Nat} {h : Hst} (k : OwnHz w base h) : ∀ x ∈ h.blkz, base ≤ x ∧ x < w.heap.size := by
 intro x hx
 rcases List.mem_append.1 hx with hx | hx
 ·
  exact k.o.blk x hx
 ·
  exact k.g.blk x hx
theorem OwnHz.rd {w : World} {base : Nat} {h : Hst} (k : OwnHz w base h) : RdHt w h := ⟨k.o.frames, k.g.frames⟩
structure OwnHs (w : World) (base : Nat) (aH : Option Addr) (nH cH : Nat) (H : Nat → Hst) : Prop where
 h : OG 73 3 w base aH nH cH (tV nH fun i => (H i).cells)
 hs : ∀ i, i < nH → OwnHz w base (H i)
 ap : ∀ i j, i < nH → j < nH → i ≠ j → ∀ x ∈ (H i).blkz, x ∉ (H j).blkz
theorem OwnHs.nil (w : World) (base : Nat) (H : Nat → Hst) : OwnHs w base none 0 0 H := ⟨OG.nil _ _ _ _, fun i hi => absurd hi (Nat.not_lt_zero _), fun i j hi => absurd hi (Nat.not_lt_zero _)⟩
section
variable {w w' : World} {base base' : Nat} {aH : Option Addr} {nH cH : Nat} {H : Nat → Hst} {S : List Nat}
theorem OwnHs.up (k : OwnHs w base aH nH cH H) (hb : Below w.heap.size w w') : OwnHs w' base aH nH cH H := ⟨k.h.up hb, fun i hi => (k.hs i hi).up hb, k.ap⟩
theorem OwnHs.mono (k : OwnHs w base aH nH cH H) (hb : base' ≤ base) : OwnHs w base' aH nH cH H := ⟨k.h.mono hb, fun i hi => (k.hs i hi).mono hb, k.ap⟩
theorem OwnHs.low (k : OwnHs w base aH nH cH H) (ht : Touch S w w') (hS : ∀ x ∈ S, x < base) : OwnHs w' base aH nH cH H := ⟨k.h.low ht hS, fun i hi => (k.hs i hi).low ht hS, k.ap⟩
theorem OwnHs.farT {t' : TypeId} (k : OwnHs w base aH nH cH H) (ht : Touch S w w') (hS : ∀ x ∈ S, ∃ cs, w.heap[x]? = some (.cells cs t' (0, 0))) (q : 73 ≠ t') (q2 : 110 ≠ t') : OwnHs w' base aH nH cH H := ⟨k.h.farT ht hS q, fun i hi => (k.hs i hi).farT ht hS q2, k.ap⟩
end
theorem OG.hosts {w : World} {base : Nat} {a : Option Addr} {n c : Nat} {H : Nat → Hst} (h : OG 73 3 w base a n c (tV n fun i => (H i).cells)) : RdHs w a n H := (h.vg (tV_get (fun _ _ => rfl))).hosts
theorem OG.flights {w : World} {base : Nat} {a : Option Addr} {n c : Nat} {F : Nat → Pkt} (h : OG 122 7 w base a n c (tV n fun i => (F i).flight)) : RdV w a n F := (h.vg (tV_get (fun _ _ => rfl))).flights
theorem OwnHs.more {V X W : World} {base k cH g1 c3 : Nat} {aH : Option Addr} {H : Nat → Hst} {h2 : Hst} (h : OwnHs V base aH k cH H) (hb : Below V.heap.size V X) (hbase : base ≤ V.heap.size) (ho : OwnHz X V.heap.size h2)
  (hu : OG 73 3 W base (some ⟨g1, 0, none⟩) (k + 1) c3 (tV k (fun i => (H i).cells) ++ h2.cells.toList)) (ht : Touch (blkO aH) X W) : OwnHs W base (some ⟨g1, 0, none⟩) (k + 1) c3 (fun i => if i = k then h2 else H i) := by
 have hty := (h.h.up hb).type
 refine ⟨?_, fun i hi => ?_, fun i j hi hj hij x hx hy => ?_⟩
 ·
  rw [tV_succ, tV_ext (c := fun i => (if i = k then h2 else H i).cells) (c' := fun i => (H i).cells) (fun i hi => by show (if i = k then h2 else H i).cells = _; rw [if_neg (by omega)])]
  rw [if_pos rfl]
  exact hu
 ·
  by_cases e : i = k
  ·
   simp only [e, if_true]
   exact (ho.farT ht hty (by decide)).mono hbase
  ·
   simp only [if_neg e]
   exact ((h.hs i (by omega)).up hb).farT ht hty (by decide)
 ·
  by_cases e : i = k
  ·
   by_cases e2 : j = k
   ·
    omega
   ·
    simp only [e, if_true] at hx
    simp only [if_neg e2] at hy
    have := (ho.blk x hx).1
    have := ((h.hs j (by omega)).blk x hy).2
    omega
  ·
   by_cases e2 : j = k
   ·
    simp only [e2, if_true] at hy
    simp only [if_neg e] at hx
    have := (ho.blk x hy).1
    have := ((h.hs i (by omega)).blk x hx).2
    omega
   ·
    simp only [if_neg e] at hx
    simp only [if_neg e2] at hy
    exact h.ap i j (by omega) (by omega) hij x hx hy
structure CpF (w : World) (F : Fab) (gP : Nat) (P : Fab) (k : Nat) (W : World) : Prop where
 a : W.heap[w.heap.size]? = some (.cells F.cells 49 (0, 0))
 b : W.heap[w.heap.size + 1]? = some (.cells zFb 49 (0, 0))
 c : W.heap[gP]? = some (.cells P.cells 49 (0, 0))
 ne : w.heap.size + 1 < gP
 bel : Below w.heap.size w W
 s : OwnSg W w.heap.size P.S
 u : OG 122 7 W w.heap.size P.aU P.nU P.cU (tV P.nU fun i => (P.U i).flight)
 d : OG 122 7 W w.heap.size P.aD P.nD P.cD (tV P.nD fun i => (P.D i).flight)
 h : OwnHs W w.heap.size P.aH P.nH P.cH P.H
 aS : AlikeG F.S P.S
 nU : P.nU = F.nU
 U : P.U = F.U
 nD : P.nD = F.nD
 D : P.D = F.D
 nH : P.nH = k
 aH : ∀ i, i < k → AlikeH (F.H i) (P.H i)
theorem CpF.up {w : World} {F : Fab} {gP : Nat} {P : Fab} {k : Nat} {W W' : World} (h : CpF w F gP P k W) (hb : Below W.heap.size W W') : CpF w F gP P k W' :=
 ⟨(hb.block _ (blk_lt h.a)).trans h.a, (hb.block _ (blk_lt h.b)).trans h.b, (hb.block _ (blk_lt h.c)).trans h.c, h.ne, h.bel.trans (hb.mono h.bel.size), h.s.up hb, h.u.up hb, h.d.up hb, h.h.up hb, h.aS, h.nU, h.U, h.nD, h.D, h.nH, h.aH⟩
theorem typ1 {w : World} {g : Nat} {cs : Array Value} {t : TypeId} (h : w.heap[g]? = some (.cells cs t (0, 0))) : ∀ x ∈ [g], ∃ cs, w.heap[x]? = some (.cells cs t (0, 0)) := fun x hx => by rw [List.mem_singleton.1 hx]; exact ⟨cs, h⟩
theorem CpF.more {w : World} {F : Fab} {gP : Nat} {P : Fab} {k : Nat} {V X X3 X4 : World} {h2 : Hst} {g1 c3 : Nat} (h : CpF w F gP P k V) (hb : Below V.heap.size V X) (ho : OwnHz X V.heap.size h2) (ha : AlikeH (F.H k) h2)
  (hu : OG 73 3 X3 w.heap.size (some ⟨g1, 0, none⟩) (k + 1) c3 (tV k (fun i => (P.H i).cells) ++ h2.cells.toList)) (ht : Touch (blkO P.aH) X X3) (hP : Put X3 X4 gP ({ P with aH := some ⟨g1, 0, none⟩, nH := k + 1, cH := c3, H := fun i => if i = k then h2 else P.H i } : Fab).cells 49) :
  CpF w F gP { P with aH := some ⟨g1, 0, none⟩, nH := k + 1, cH := c3, H := fun i => if i = k then h2 else P.H i } (k + 1) X4 := by
 have q := h.up hb
 have hty := q.h.h.type
 have nx : ∀ {g : Nat} {cs : Array Value}, X.heap[g]? = some (.cells cs 49 (0, 0)) → X3.heap[g]? = some (.cells cs 49 (0, 0)) := fun hg => (ht.block _ (blk_lt hg) (q.h.h.notT (by decide) hg)).trans hg
 have hc3 := nx q.c
 have hne := h.ne
 have nb : w.heap.size ≤ X.heap.size := q.bel.size
 have hbl : Below w.heap.size w X3 := q.bel.trans (ht.below nb (fun x hx => (q.h.h.blk x hx).1))
 have hh : OwnHs X3 w.heap.size (some ⟨g1, 0, none⟩) (k + 1) c3 (fun i => if i = k then h2 else P.H i) := by
  have h9 := h.h
  rw [h.nH] at h9
  exact h9.more hb h.bel.size ho hu ht
 refine ⟨(hP.to.block _ (blk_lt (nx q.a)) (by simp; omega)).trans (nx q.a), (hP.to.block _ (blk_lt (nx q.b)) (by simp; omega)).trans (nx q.b), hP.blk, h.ne, hbl.trans (hP.to.below hbl.size (fun x hx => by simp at hx; omega)), (q.s.farT ht hty offHt).farT hP.to (typ1 hc3) offFb, (q.u.farT ht hty (by decide)).farT hP.to (typ1 hc3) (by decide), (q.d.farT ht hty (by decide)).farT hP.to (typ1 hc3) (by decide), hh.farT hP.to (typ1 hc3) (by decide) (by decide), h.aS, h.nU, h.U, h.nD, h.D, rfl, fun i hi => ?_⟩
 by_cases e : i = k
 ·
  simp only [e, if_true]
  exact ha
 ·
  simp only [if_neg e]
  exact h.aH i (by omega)
structure OwnFz (w : World) (base : Nat) (F : Fab) : Prop where
 s : OwnSg w base F.S
 u : OG 122 7 w base F.aU F.nU F.cU (tV F.nU fun i => (F.U i).flight)
 d : OG 122 7 w base F.aD F.nD F.cD (tV F.nD fun i => (F.D i).flight)
 h : OwnHs w base F.aH F.nH F.cH F.H
theorem OwnFz.rd {w : World} {base : Nat} {F : Fab} (k : OwnFz w base F) : RdFb w F := ⟨k.s.rd, k.h.h.hosts, fun i hi => (k.h.hs i hi).rd, k.u.flights, k.d.flights⟩
theorem OwnFz.up {w w' : World} {base : Nat} {F : Fab} (k : OwnFz w base F) (hb : Below w.heap.size w w') : OwnFz w' base F := ⟨k.s.up hb, k.u.up hb, k.d.up hb, k.h.up hb⟩
theorem OwnFz.mono {w : World} {base base' : Nat} {F : Fab} (k : OwnFz w base F) (hb : base' ≤ base) : OwnFz w base' F := ⟨k.s.mono hb, k.u.mono hb, k.d.mono hb, k.h.mono hb⟩
theorem OwnFz.low {w w' : World} {base : Nat} {F : Fab} {S : List Nat} (k : OwnFz w base F) (ht : Touch S w w') (hS : ∀ x ∈ S, x < base) : OwnFz w' base F := ⟨k.s.low ht hS, k.u.low ht hS, k.d.low ht hS, k.h.low ht hS⟩
theorem OwnFz.off {w w' : World} {base g : Nat} {F : Fab} {cs : Array Value} (k : OwnFz w base F) (hg : w.heap[g]? = some (.cells cs 49 (0, 0))) (ht : Touch [g] w w') : OwnFz w' base F := ⟨k.s.farT ht (typ1 hg) offFb, k.u.farT ht (typ1 hg) (by decide), k.d.farT ht (typ1 hg) (by decide), k.h.farT ht (typ1 hg) (by decide) (by decide)⟩
theorem CpF.own {w : World} {F : Fab} {gP : Nat} {P : Fab} {k : Nat} {W : World} (h : CpF w F gP P k W) : OwnFz W w.heap.size P := ⟨h.s, h.u, h.d, h.h⟩
theorem CpF.alike {w : World} {F : Fab} {gP : Nat} {P : Fab} {k : Nat} {W : World} (h : CpF w F gP P k W) (e : k = F.nH) : AlikeF F P := by
 subst e
 exact ⟨h.aS, h.nH, h.aH, h.nU, h.U, h.nD, h.D⟩
theorem Hid.mk' {p : Prop} (h : p) : Hid p := h
set_option maxRecDepth 100000 in
set_option maxHeartbeats 4000000 in
theorem copyFabric_any (F : Fab) (w : World) (hs : F.Small) (hU : 0 < F.S.N.nU) (hPp : 0 < F.S.N.nP) (h : RdFb w F) :
  Calls Tryz.prog 41 #[.agg F.cells] w fun e w' => ∃ F2, e = .returned (.agg F2.cells) ∧ AlikeF F F2 ∧ OwnFz w' w.heap.size F2 ∧ Below w.heap.size w w' := by
 have HR : Hid (RdFb w F) := h
 have HS : Hid F.Small := hs
 have HN : Hid (0 < F.S.N.nU ∧ 0 < F.S.N.nP) := ⟨hU, hPp⟩
 have hnH : F.nH ≤ 1048576 := hs.h
 obtain ⟨W0, eW⟩ : ∃ W, (w.alloc (.cells F.cells 49)).alloc (.cells zFb 49) = W := ⟨_, rfl⟩
 have HX : Hid (Two w F.cells zFb 49 W0) := by rw [← eW]; exact Two.start _ _ _ _
 have HSf : Hid (∀ w' : World, w'.heap[w.heap.size]? = some (.cells F.cells 49 (0, 0)) → Hid (∀ j, j < 17 → w'.cell? ⟨w.heap.size, 0 + j, none⟩ = F.S.cells[j]?) ∧ w'.cell? ⟨w.heap.size, 18, none⟩ = some (.slice F.aU F.nU F.cU) ∧ w'.cell? ⟨w.heap.size, 19, none⟩ = some (.slice F.aD F.nD F.cD)) := fun w' k => ⟨blkSw k, blk_cell k 18, blk_cell k 19⟩
 clear h hs hU hPp
 unfold zFb at eW
 go_enter Tryz.func41, Tryz.ntmps41
 go_wp2_with fail
 clear eW
 go_cut [3] (fun s3 wc => ∃ gP P, s3 = .pointer (some ⟨gP, 0, none⟩) ∧ Hid (CpF w F gP P 0 wc))
 case first =>
  have hd : Below W0.heap.size W0 W0.drew := (Below.refl _ _).drew
  have hA := (HX.out.up hd).a
  have hZ := (HX.out.up hd).b
  have hBel := (HX.out.up hd).bel
  have s := HSf.out _ hA
  clear hd
  refine wp_region_held_drew (S := fun w' => Hid (∀ j, j < 17 → w'.cell? ⟨w.heap.size, 0 + j, none⟩ = F.S.cells[j]?) ∧ w'.cell? ⟨w.heap.size, 18, none⟩ = some (.slice F.aU F.nU F.cU) ∧ w'.cell? ⟨w.heap.size, 19, none⟩ = some (.slice F.aD F.nD F.cD)) (by kernel_rfl) s (fun hHeld => ?_)
  clear s HX
  generalize W0.drew = W at *
  clear W0
  refine tQ 0 6 ?_
  try simp only [Act.put, PZ]
  refine tC 1 7 (v := .agg F.S.cells) (fun wx hSw => run_ldT 45 17 _ Tryz.underlying45 rfl infoSgI (.tmp 6) rfl w.heap.size 0 rfl F.S.cells rfl hSw.1.out) ?_
  try simp only [Act.put, PZ]
  refine tQ 3 9 ?_
  try simp only [Act.put, PZ]
  refine tQ 4 10 ?_
  try simp only [Act.put, PZ]
  refine tQ 6 12 ?_
  try simp only [Act.put, PZ]
  refine tQ 7 13 ?_
  try simp only [Act.put, PZ]
  refine r2 2 10 (fun K hK => ?_) (fun K hK => ?_)
  ·
   go_simp
   refine (copySwitch_any F.S _ HS.out.s HN.out.1 HN.out.2 (HR.out.s.up hBel)).mono ?_
   rintro e W' ⟨S2, rfl, aS, oS, hb⟩
   have HaS : Hid (AlikeG F.S S2) := aS
   have HoS : Hid (OwnSg W' w.heap.size S2) := oS.g.mono hBel.size
   clear aS oS
   replace hBel := hBel.trans (hb.mono hBel.size)
   replace hA := (hb.block _ (blk_lt hA)).trans hA
   replace hZ := (hb.block _ (blk_lt hZ)).trans hZ
   have s := HSf.out _ hA
   clear hb
   rw [show S2.cells = #[.int .i64 S2.C.p, .int .i64 S2.C.c, .int .i64 S2.C.xo, .int .i64 S2.C.xn, .int .i64 S2.C.hd, .int .i64 S2.C.lo, .int .i64 S2.C.dl, .int .i64 S2.now, .int .i64 S2.nx, .slice S2.aE S2.nE S2.cE, .slice S2.N.aU S2.N.nU S2.N.cU, .int .i64 S2.N.lo, .slice S2.N.aP S2.N.nP S2.N.cP, .slice S2.aK S2.nK S2.cK, .slice S2.aL S2.nL S2.cL, .int .i64 S2.dr, .int .i64 S2.lst] from rfl]
   go_wp2_with fail
   clear hHeld
   refine hK.out _ _ s (fun hHeld => ?_)
   clear hK K s
   try simp only [Act.put, PZ]
   clear W
   rename World => W
   refine r2 5 10 (fun K hK => ?_) (fun K hK => ?_)
   ·
    go_simp
    refine (copyFlights_any F.aU F.nU F.cU F.U _ HS.out.u HS.out.bu (HR.out.u.up hBel)).mono ?_
    rintro e W' ⟨aU2, cU2, rfl, oU, hb⟩
    have HoU : Hid (OG 122 7 W' w.heap.size aU2 F.nU cU2 (tV F.nU fun i => (F.U i).flight)) := oU.mono hBel.size
    clear oU
    replace hBel := hBel.trans (hb.mono hBel.size)
    replace hA := (hb.block _ (blk_lt hA)).trans hA
    replace hZ := (hb.block _ (blk_lt hZ)).trans hZ
    replace HoS := Hid.mk' (HoS.out.up hb)
    have s := HSf.out _ hA
    clear hb
    go_wp2_with fail
    clear hHeld
    refine hK.out _ _ s (fun hHeld => ?_)
    clear hK K s
    try simp only [Act.put, PZ]
    clear W
    rename World => W
    refine r2 8 10 (fun K hK => ?_) (fun K hK => ?_)
    ·
     go_simp
     refine (copyFlights_any F.aD F.nD F.cD F.D _ HS.out.d HS.out.bd (HR.out.d.up hBel)).mono ?_
     rintro e W' ⟨aD2, cD2, rfl, oD, hb⟩
     have HoD : Hid (OG 122 7 W' w.heap.size aD2 F.nD cD2 (tV F.nD fun i => (F.D i).flight)) := oD.mono hBel.size
     clear oD
     replace hBel := hBel.trans (hb.mono hBel.size)
     replace hA := (hb.block _ (blk_lt hA)).trans hA
     replace hZ := (hb.block _ (blk_lt hZ)).trans hZ
     replace HoS := Hid.mk' (HoS.out.up hb)
     replace HoU := Hid.mk' (HoU.out.up hb)
     have s := HSf.out _ hA
     clear hb
     go_wp2_with fail
     clear hHeld
     refine hK.out _ _ s (fun hHeld => ?_)
     clear hK K s
     try simp only [Act.put, PZ]
     clear W
     rename World => W
     refine tP 9 15 ?_
     try simp only [Act.put, PZ]
     refine r1 10 (fun K hK => ?_)
     have hb := (Below.refl W.heap.size W).alloc (Nat.le_refl _) (.cells #[.int .i64 0, .int .i64 0, .int .i64 0, .int .i64 0, .int .i64 0, .int .i64 0, .int .i64 0, .int .i64 0, .int .i64 0, .slice none 0 0, .slice none 0 0, .int .i64 0, .slice none 0 0, .slice none 0 0, .slice none 0 0, .int .i64 0, .int .i64 0, .slice none 0 0, .slice none 0 0, .slice none 0 0] 49)
     have lA : w.heap.size + 1 < W.heap.size := blk_lt hZ
     replace hBel := hBel.trans (hb.mono hBel.size)
     replace hA := (hb.block _ (blk_lt hA)).trans hA
     replace hZ := (hb.block _ (blk_lt hZ)).trans hZ
     replace HoS := Hid.mk' (HoS.out.up hb)
     replace HoU := Hid.mk' (HoU.out.up hb)
     replace HoD := Hid.mk' (HoD.out.up hb)
     have s := HSf.out _ hA
     have kA := blk_new W (.cells #[.int .i64 0, .int .i64 0, .int .i64 0, .int .i64 0, .int .i64 0, .int .i64 0, .int .i64 0, .int .i64 0, .int .i64 0, .slice none 0 0, .slice none 0 0, .int .i64 0, .slice none 0 0, .slice none 0 0, .slice none 0 0, .int .i64 0, .int .i64 0, .slice none 0 0, .slice none 0 0, .slice none 0 0] 49)
     go_simp
     clear hHeld
     refine hK.out _ _ s (fun hHeld => ?_)
     clear hK K s
     try simp only [Act.put, PZ]
     generalize hgA : W.heap.size = gA at *
     generalize W.alloc (.cells #[.int .i64 0, .int .i64 0, .int .i64 0, .int .i64 0, .int .i64 0, .int .i64 0, .int .i64 0, .int .i64 0, .int .i64 0, .slice none 0 0, .slice none 0 0, .int .i64 0, .slice none 0 0, .slice none 0 0, .slice none 0 0, .int .i64 0, .int .i64 0, .slice none 0 0, .slice none 0 0, .slice none 0 0] 49) = W' at *
     clear hb hgA
     clear W
     rename World => W
     obtain ⟨P, eP⟩ : ∃ P : Fab, (⟨S2, none, 0, 0, F.H, aU2, F.nU, cU2, F.U, aD2, F.nD, cD2, F.D⟩ : Fab) = P := ⟨_, rfl⟩
     have HkA : Hid (W.heap[gA]? = some (.cells zFb 49 (0, 0))) := kA
     refine r1 11 (fun K hK => ?_)
     refine wp_stE (by kernel_rfl) none rfl 49 (.tmp 3) (.tmp 15) rfl gA 0 rfl (.agg P.cells) (by rw [← eP]; rfl) 20 rfl 49 _ HkA.out infoFb20 (Nat.le_of_ble_eq_true rfl) (Fab.oneC _) ?_
     intro X hP
     replace hP : Put W X gA P.cells 49 := hP.cast (by rw [← eP]; rfl)
     have hF : CpF w F gA P 0 X := by
      rw [← eP] at hP ⊢
      have nb : w.heap.size ≤ W.heap.size := hBel.size
      exact ⟨(hP.to.block _ (blk_lt hA) (by simp; omega)).trans hA, (hP.to.block _ (blk_lt hZ) (by simp; omega)).trans hZ, hP.blk, lA, hBel.trans (hP.to.below nb (fun x hx => by simp at hx; omega)), HoS.out.farT hP.to (typ1 HkA.out) offFb, HoU.out.farT hP.to (typ1 HkA.out) (by decide), HoD.out.farT hP.to (typ1 HkA.out) (by decide), OwnHs.nil _ _ _, HaS.out, rfl, rfl, rfl, rfl, rfl, fun i hi => absurd hi (Nat.not_lt_zero _)⟩
     have s := HSf.out _ hF.a
     clear hHeld
     refine hK.out _ _ s (fun hHeld => ?_)
     clear hK K s
     try simp only [Act.put, PZ]
     refine dn ?_
     have HF : Hid (CpF w F gA P 0 X) := hF
     clear hF hP hHeld HkA kA HoS HoU HoD HaS hA hZ hBel lA eP
     go_wp2_with fail
     go_meet
     case rel => exact ⟨gA, P, rfl, HF⟩
    ·
     have hb := (Below.refl W.heap.size W).alloc (Nat.le_refl _) (.cells #[.int .i64 0, .int .i64 0, .int .i64 0, .int .i64 0, .int .i64 0, .int .i64 0, .int .i64 0, .int .i64 0, .int .i64 0, .slice none 0 0, .slice none 0 0, .int .i64 0, .slice none 0 0, .slice none 0 0, .slice none 0 0, .int .i64 0, .int .i64 0, .slice none 0 0, .slice none 0 0, .slice none 0 0] 49)
     have lA : w.heap.size + 1 < W.heap.size := blk_lt hZ
     replace hBel := hBel.trans (hb.mono hBel.size)
     replace hA := (hb.block _ (blk_lt hA)).trans hA
     replace hZ := (hb.block _ (blk_lt hZ)).trans hZ
     replace HoS := Hid.mk' (HoS.out.up hb)
     replace HoU := Hid.mk' (HoU.out.up hb)
     have s := HSf.out _ hA
     have kA := blk_new W (.cells #[.int .i64 0, .int .i64 0, .int .i64 0, .int .i64 0, .int .i64 0, .int .i64 0, .int .i64 0, .int .i64 0, .int .i64 0, .slice none 0 0, .slice none 0 0, .int .i64 0, .slice none 0 0, .slice none 0 0, .slice none 0 0, .int .i64 0, .int .i64 0, .slice none 0 0, .slice none 0 0, .slice none 0 0] 49)
     go_simp
     clear hHeld
     refine hK.out _ _ s (fun hHeld => ?_)
     clear hK K s
     try simp only [Act.put, PZ]
     generalize hgA : W.heap.size = gA at *
     generalize W.alloc (.cells #[.int .i64 0, .int .i64 0, .int .i64 0, .int .i64 0, .int .i64 0, .int .i64 0, .int .i64 0, .int .i64 0, .int .i64 0, .slice none 0 0, .slice none 0 0, .int .i64 0, .slice none 0 0, .slice none 0 0, .slice none 0 0, .int .i64 0, .int .i64 0, .slice none 0 0, .slice none 0 0, .slice none 0 0] 49) = W' at *
     clear hb hgA
     clear W
     rename World => W
     refine r1 8 (fun K hK => ?_)
     go_simp
     refine (copyFlights_any F.aD F.nD F.cD F.D _ HS.out.d HS.out.bd (HR.out.d.up hBel)).mono ?_
     rintro e W' ⟨aD2, cD2, rfl, oD, hb⟩
     have HoD : Hid (OG 122 7 W' w.heap.size aD2 F.nD cD2 (tV F.nD fun i => (F.D i).flight)) := oD.mono hBel.size
     clear oD
     replace hBel := hBel.trans (hb.mono hBel.size)
     replace hA := (hb.block _ (blk_lt hA)).trans hA
     replace hZ := (hb.block _ (blk_lt hZ)).trans hZ
     replace kA := (hb.block _ (blk_lt kA)).trans kA
     replace HoS := Hid.mk' (HoS.out.up hb)
     replace HoU := Hid.mk' (HoU.out.up hb)
     have s := HSf.out _ hA
     clear hb
     go_wp2_with fail
     clear hHeld
     refine hK.out _ _ s (fun hHeld => ?_)
     clear hK K s
     try simp only [Act.put, PZ]
     clear W
     rename World => W
     refine tP 9 15 ?_
     try simp only [Act.put, PZ]
     obtain ⟨P, eP⟩ : ∃ P : Fab, (⟨S2, none, 0, 0, F.H, aU2, F.nU, cU2, F.U, aD2, F.nD, cD2, F.D⟩ : Fab) = P := ⟨_, rfl⟩
     have HkA : Hid (W.heap[gA]? = some (.cells zFb 49 (0, 0))) := kA
     refine r1 11 (fun K hK => ?_)
     refine wp_stE (by kernel_rfl) none rfl 49 (.tmp 3) (.tmp 15) rfl gA 0 rfl (.agg P.cells) (by rw [← eP]; rfl) 20 rfl 49 _ HkA.out infoFb20 (Nat.le_of_ble_eq_true rfl) (Fab.oneC _) ?_
     intro X hP
     replace hP : Put W X gA P.cells 49 := hP.cast (by rw [← eP]; rfl)
     have hF : CpF w F gA P 0 X := by
      rw [← eP] at hP ⊢
      have nb : w.heap.size ≤ W.heap.size := hBel.size
      exact ⟨(hP.to.block _ (blk_lt hA) (by simp; omega)).trans hA, (hP.to.block _ (blk_lt hZ) (by simp; omega)).trans hZ, hP.blk, lA, hBel.trans (hP.to.below nb (fun x hx => by simp at hx; omega)), HoS.out.farT hP.to (typ1 HkA.out) offFb, HoU.out.farT hP.to (typ1 HkA.out) (by decide), HoD.out.farT hP.to (typ1 HkA.out) (by decide), OwnHs.nil _ _ _, HaS.out, rfl, rfl, rfl, rfl, rfl, fun i hi => absurd hi (Nat.not_lt_zero _)⟩
     have s := HSf.out _ hF.a
     clear hHeld
     refine hK.out _ _ s (fun hHeld => ?_)
     clear hK K s
     try simp only [Act.put, PZ]
     refine dn ?_
     have HF : Hid (CpF w F gA P 0 X) := hF
     clear hF hP hHeld HkA kA HoS HoU HoD HaS hA hZ hBel lA eP
     go_wp2_with fail
     go_meet
     case rel => exact ⟨gA, P, rfl, HF⟩
   ·
    have hb := (Below.refl W.heap.size W).alloc (Nat.le_refl _) (.cells #[.int .i64 0, .int .i64 0, .int .i64 0, .int .i64 0, .int .i64 0, .int .i64 0, .int .i64 0, .int .i64 0, .int .i64 0, .slice none 0 0, .slice none 0 0, .int .i64 0, .slice none 0 0, .slice none 0 0, .slice none 0 0, .int .i64 0, .int .i64 0, .slice none 0 0, .slice none 0 0, .slice none 0 0] 49)
    have lA : w.heap.size + 1 < W.heap.size := blk_lt hZ
    replace hBel := hBel.trans (hb.mono hBel.size)
    replace hA := (hb.block _ (blk_lt hA)).trans hA
    replace hZ := (hb.block _ (blk_lt hZ)).trans hZ
    replace HoS := Hid.mk' (HoS.out.up hb)
    have s := HSf.out _ hA
    have kA := blk_new W (.cells #[.int .i64 0, .int .i64 0, .int .i64 0, .int .i64 0, .int .i64 0, .int .i64 0, .int .i64 0, .int .i64 0, .int .i64 0, .slice none 0 0, .slice none 0 0, .int .i64 0, .slice none 0 0, .slice none 0 0, .slice none 0 0, .int .i64 0, .int .i64 0, .slice none 0 0, .slice none 0 0, .slice none 0 0] 49)
    go_simp
    clear hHeld
    refine hK.out _ _ s (fun hHeld => ?_)
    clear hK K s
    try simp only [Act.put, PZ]
    generalize hgA : W.heap.size = gA at *
    generalize W.alloc (.cells #[.int .i64 0, .int .i64 0, .int .i64 0, .int .i64 0, .int .i64 0, .int .i64 0, .int .i64 0, .int .i64 0, .int .i64 0, .slice none 0 0, .slice none 0 0, .int .i64 0, .slice none 0 0, .slice none 0 0, .slice none 0 0, .int .i64 0, .int .i64 0, .slice none 0 0, .slice none 0 0, .slice none 0 0] 49) = W' at *
    clear hb hgA
    clear W
    rename World => W
    refine r1 5 (fun K hK => ?_)
    go_simp
    refine (copyFlights_any F.aU F.nU F.cU F.U _ HS.out.u HS.out.bu (HR.out.u.up hBel)).mono ?_
    rintro e W' ⟨aU2, cU2, rfl, oU, hb⟩
    have HoU : Hid (OG 122 7 W' w.heap.size aU2 F.nU cU2 (tV F.nU fun i => (F.U i).flight)) := oU.mono hBel.size
    clear oU
    replace hBel := hBel.trans (hb.mono hBel.size)
    replace hA := (hb.block _ (blk_lt hA)).trans hA
    replace hZ := (hb.block _ (blk_lt hZ)).trans hZ
    replace kA := (hb.block _ (blk_lt kA)).trans kA
    replace HoS := Hid.mk' (HoS.out.up hb)
    have s := HSf.out _ hA
    clear hb
    go_wp2_with fail
    clear hHeld
    refine hK.out _ _ s (fun hHeld => ?_)
    clear hK K s
    try simp only [Act.put, PZ]
    clear W
    rename World => W
    refine r1 8 (fun K hK => ?_)
    go_simp
    refine (copyFlights_any F.aD F.nD F.cD F.D _ HS.out.d HS.out.bd (HR.out.d.up hBel)).mono ?_
    rintro e W' ⟨aD2, cD2, rfl, oD, hb⟩
    have HoD : Hid (OG 122 7 W' w.heap.size aD2 F.nD cD2 (tV F.nD fun i => (F.D i).flight)) := oD.mono hBel.size
    clear oD
    replace hBel := hBel.trans (hb.mono hBel.size)
    replace hA := (hb.block _ (blk_lt hA)).trans hA
    replace hZ := (hb.block _ (blk_lt hZ)).trans hZ
    replace kA := (hb.block _ (blk_lt kA)).trans kA
    replace HoS := Hid.mk' (HoS.out.up hb)
    replace HoU := Hid.mk' (HoU.out.up hb)
    have s := HSf.out _ hA
    clear hb
    go_wp2_with fail
    clear hHeld
    refine hK.out _ _ s (fun hHeld => ?_)
    clear hK K s
    try simp only [Act.put, PZ]
    clear W
    rename World => W
    refine tP 9 15 ?_
    try simp only [Act.put, PZ]
    obtain ⟨P, eP⟩ : ∃ P : Fab, (⟨S2, none, 0, 0, F.H, aU2, F.nU, cU2, F.U, aD2, F.nD, cD2, F.D⟩ : Fab) = P := ⟨_, rfl⟩
    have HkA : Hid (W.heap[gA]? = some (.cells zFb 49 (0, 0))) := kA
    refine r1 11 (fun K hK => ?_)
    refine wp_stE (by kernel_rfl) none rfl 49 (.tmp 3) (.tmp 15) rfl gA 0 rfl (.agg P.cells) (by rw [← eP]; rfl) 20 rfl 49 _ HkA.out infoFb20 (Nat.le_of_ble_eq_true rfl) (Fab.oneC _) ?_
    intro X hP
    replace hP : Put W X gA P.cells 49 := hP.cast (by rw [← eP]; rfl)
    have hF : CpF w F gA P 0 X := by
     rw [← eP] at hP ⊢
     have nb : w.heap.size ≤ W.heap.size := hBel.size
     exact ⟨(hP.to.block _ (blk_lt hA) (by simp; omega)).trans hA, (hP.to.block _ (blk_lt hZ) (by simp; omega)).trans hZ, hP.blk, lA, hBel.trans (hP.to.below nb (fun x hx => by simp at hx; omega)), HoS.out.farT hP.to (typ1 HkA.out) offFb, HoU.out.farT hP.to (typ1 HkA.out) (by decide), HoD.out.farT hP.to (typ1 HkA.out) (by decide), OwnHs.nil _ _ _, HaS.out, rfl, rfl, rfl, rfl, rfl, fun i hi => absurd hi (Nat.not_lt_zero _)⟩
    have s := HSf.out _ hF.a
    clear hHeld
    refine hK.out _ _ s (fun hHeld => ?_)
    clear hK K s
    try simp only [Act.put, PZ]
    refine dn ?_
    have HF : Hid (CpF w F gA P 0 X) := hF
    clear hF hP hHeld HkA kA HoS HoU HoD HaS hA hZ hBel lA eP
    go_wp2_with fail
    go_meet
    case rel => exact ⟨gA, P, rfl, HF⟩
  ·
   have hb := (Below.refl W.heap.size W).alloc (Nat.le_refl _) (.cells #[.int .i64 0, .int .i64 0, .int .i64 0, .int .i64 0, .int .i64 0, .int .i64 0, .int .i64 0, .int .i64 0, .int .i64 0, .slice none 0 0, .slice none 0 0, .int .i64 0, .slice none 0 0, .slice none 0 0, .slice none 0 0, .int .i64 0, .int .i64 0, .slice none 0 0, .slice none 0 0, .slice none 0 0] 49)
   have lA : w.heap.size + 1 < W.heap.size := blk_lt hZ
   replace hBel := hBel.trans (hb.mono hBel.size)
   replace hA := (hb.block _ (blk_lt hA)).trans hA
   replace hZ := (hb.block _ (blk_lt hZ)).trans hZ
   have s := HSf.out _ hA
   have kA := blk_new W (.cells #[.int .i64 0, .int .i64 0, .int .i64 0, .int .i64 0, .int .i64 0, .int .i64 0, .int .i64 0, .int .i64 0, .int .i64 0, .slice none 0 0, .slice none 0 0, .int .i64 0, .slice none 0 0, .slice none 0 0, .slice none 0 0, .int .i64 0, .int .i64 0, .slice none 0 0, .slice none 0 0, .slice none 0 0] 49)
   go_simp
   clear hHeld
   refine hK.out _ _ s (fun hHeld => ?_)
   clear hK K s
   try simp only [Act.put, PZ]
   generalize hgA : W.heap.size = gA at *
   generalize W.alloc (.cells #[.int .i64 0, .int .i64 0, .int .i64 0, .int .i64 0, .int .i64 0, .int .i64 0, .int .i64 0, .int .i64 0, .int .i64 0, .slice none 0 0, .slice none 0 0, .int .i64 0, .slice none 0 0, .slice none 0 0, .slice none 0 0, .int .i64 0, .int .i64 0, .slice none 0 0, .slice none 0 0, .slice none 0 0] 49) = W' at *
   clear hb hgA
   clear W
   rename World => W
   refine r1 2 (fun K hK => ?_)
   go_simp
   refine (copySwitch_any F.S _ HS.out.s HN.out.1 HN.out.2 (HR.out.s.up hBel)).mono ?_
   rintro e W' ⟨S2, rfl, aS, oS, hb⟩
   have HaS : Hid (AlikeG F.S S2) := aS
   have HoS : Hid (OwnSg W' w.heap.size S2) := oS.g.mono hBel.size
   clear aS oS
   replace hBel := hBel.trans (hb.mono hBel.size)
   replace hA := (hb.block _ (blk_lt hA)).trans hA
   replace hZ := (hb.block _ (blk_lt hZ)).trans hZ
   replace kA := (hb.block _ (blk_lt kA)).trans kA
   have s := HSf.out _ hA
   clear hb
   rw [show S2.cells = #[.int .i64 S2.C.p, .int .i64 S2.C.c, .int .i64 S2.C.xo, .int .i64 S2.C.xn, .int .i64 S2.C.hd, .int .i64 S2.C.lo, .int .i64 S2.C.dl, .int .i64 S2.now, .int .i64 S2.nx, .slice S2.aE S2.nE S2.cE, .slice S2.N.aU S2.N.nU S2.N.cU, .int .i64 S2.N.lo, .slice S2.N.aP S2.N.nP S2.N.cP, .slice S2.aK S2.nK S2.cK, .slice S2.aL S2.nL S2.cL, .int .i64 S2.dr, .int .i64 S2.lst] from rfl]
   go_wp2_with fail
   clear hHeld
   refine hK.out _ _ s (fun hHeld => ?_)
   clear hK K s
   try simp only [Act.put, PZ]
   clear W
   rename World => W
   refine r1 5 (fun K hK => ?_)
   go_simp
   refine (copyFlights_any F.aU F.nU F.cU F.U _ HS.out.u HS.out.bu (HR.out.u.up hBel)).mono ?_
   rintro e W' ⟨aU2, cU2, rfl, oU, hb⟩
   have HoU : Hid (OG 122 7 W' w.heap.size aU2 F.nU cU2 (tV F.nU fun i => (F.U i).flight)) := oU.mono hBel.size
   clear oU
   replace hBel := hBel.trans (hb.mono hBel.size)
   replace hA := (hb.block _ (blk_lt hA)).trans hA
   replace hZ := (hb.block _ (blk_lt hZ)).trans hZ
   replace kA := (hb.block _ (blk_lt kA)).trans kA
   replace HoS := Hid.mk' (HoS.out.up hb)
   have s := HSf.out _ hA
   clear hb
   go_wp2_with fail
   clear hHeld
   refine hK.out _ _ s (fun hHeld => ?_)
   clear hK K s
   try simp only [Act.put, PZ]
   clear W
   rename World => W
   refine r1 8 (fun K hK => ?_)
   go_simp
   refine (copyFlights_any F.aD F.nD F.cD F.D _ HS.out.d HS.out.bd (HR.out.d.up hBel)).mono ?_
   rintro e W' ⟨aD2, cD2, rfl, oD, hb⟩
   have HoD : Hid (OG 122 7 W' w.heap.size aD2 F.nD cD2 (tV F.nD fun i => (F.D i).flight)) := oD.mono hBel.size
   clear oD
   replace hBel := hBel.trans (hb.mono hBel.size)
   replace hA := (hb.block _ (blk_lt hA)).trans hA
   replace hZ := (hb.block _ (blk_lt hZ)).trans hZ
   replace kA := (hb.block _ (blk_lt kA)).trans kA
   replace HoS := Hid.mk' (HoS.out.up hb)
   replace HoU := Hid.mk' (HoU.out.up hb)
   have s := HSf.out _ hA
   clear hb
   go_wp2_with fail
   clear hHeld
   refine hK.out _ _ s (fun hHeld => ?_)
   clear hK K s
   try simp only [Act.put, PZ]
   clear W
   rename World => W
   refine tP 9 15 ?_
   try simp only [Act.put, PZ]
   obtain ⟨P, eP⟩ : ∃ P : Fab, (⟨S2, none, 0, 0, F.H, aU2, F.nU, cU2, F.U, aD2, F.nD, cD2, F.D⟩ : Fab) = P := ⟨_, rfl⟩
   have HkA : Hid (W.heap[gA]? = some (.cells zFb 49 (0, 0))) := kA
   refine r1 11 (fun K hK => ?_)
   refine wp_stE (by kernel_rfl) none rfl 49 (.tmp 3) (.tmp 15) rfl gA 0 rfl (.agg P.cells) (by rw [← eP]; rfl) 20 rfl 49 _ HkA.out infoFb20 (Nat.le_of_ble_eq_true rfl) (Fab.oneC _) ?_
   intro X hP
   replace hP : Put W X gA P.cells 49 := hP.cast (by rw [← eP]; rfl)
   have hF : CpF w F gA P 0 X := by
    rw [← eP] at hP ⊢
    have nb : w.heap.size ≤ W.heap.size := hBel.size
    exact ⟨(hP.to.block _ (blk_lt hA) (by simp; omega)).trans hA, (hP.to.block _ (blk_lt hZ) (by simp; omega)).trans hZ, hP.blk, lA, hBel.trans (hP.to.below nb (fun x hx => by simp at hx; omega)), HoS.out.farT hP.to (typ1 HkA.out) offFb, HoU.out.farT hP.to (typ1 HkA.out) (by decide), HoD.out.farT hP.to (typ1 HkA.out) (by decide), OwnHs.nil _ _ _, HaS.out, rfl, rfl, rfl, rfl, rfl, fun i hi => absurd hi (Nat.not_lt_zero _)⟩
   have s := HSf.out _ hF.a
   clear hHeld
   refine hK.out _ _ s (fun hHeld => ?_)
   clear hK K s
   try simp only [Act.put, PZ]
   refine dn ?_
   have HF : Hid (CpF w F gA P 0 X) := hF
   clear hF hP hHeld HkA kA HoS HoU HoD HaS hA hZ hBel lA eP
   go_wp2_with fail
   go_meet
   case rel => exact ⟨gA, P, rfl, HF⟩
 case rest =>
  obtain ⟨gP, P0, rfl, HP0⟩ := hcut
  clear HX
  have c17 : wc.cell? ⟨w.heap.size, 17, none⟩ = some (.slice F.aH F.nH F.cH) := blk_cell HP0.out.a 17
  go_wp2_with fail
  clear c17
  go_loopw [19] (fun i wr => ∃ (k : Nat) (P : Fab), k ≤ F.nH ∧ i = .int .i64 k ∧ Hid (CpF w F gP P k wr)) (fun i _ => F.nH - (intOf i).toNat)
  case atStart => exact ⟨0, P0, Nat.zero_le _, rfl, HP0⟩
  case round =>
   clear HP0
   obtain ⟨k, P, hk, rfl, HP⟩ := hrel
   by_cases hlt : k < F.nH
   ·
    have hlt' : (k : Int) < F.nH := by omega
    obtain ⟨g0, o0, ea, hc⟩ := (HR.out.h.up HP.out.bel).at hlt
    have HC : Hid (∀ j, j < 3 → wr.cell? ⟨g0, o0 + k * 3 + j, none⟩ = (F.H k).cells[j]?) := hc
    have HSk : Hid (F.H k).Small := HS.out.hs k hlt
    have HRk : Hid (RdHt w (F.H k)) := HR.out.hs k hlt
    obtain ⟨V0, eV⟩ : ∃ V, wr.alloc (.cells (F.H k).cells 73) = V := ⟨_, rfl⟩
    have hbV : Below wr.heap.size wr V0 := by rw [← eV]; exact (Below.refl _ _).alloc (Nat.le_refl _) _
    have kV : V0.heap[wr.heap.size]? = some (.cells (F.H k).cells 73 (0, 0)) := by rw [← eV]; exact blk_new _ _
    have HBB : Hid (w.heap.size ≤ wr.heap.size ∧ wr.heap.size ∉ blkO P.aH) := ⟨HP.out.bel.size, fun hx => by have := (HP.out.h.h.blk _ hx).2; omega⟩
    replace HP : Hid (CpF w F gP P k V0) := HP.out.up hbV
    rw [ea]
    clear ea hc hbV
    go_wp2_with (first | refine wpList_ldT rfl 73 3 _ Tryz.underlying73 rfl infoHt3 (.tmp 21) rfl g0 (o0 + k * 3) rfl (F.H k).cells rfl HC.out ?_ | refine wpList_stNew 73 3 infoHt3 rfl (.tmp 5) (.tmp 22) rfl (F.H k).cells _ rfl rfl rfl rfl rfl (Hst.oneH _) (eV ▸ ?_))
    clear HC
    generalize wr.heap.size = gB at *
    refine wp_region_E (fun w' => w'.heap[gP]? = some (.cells P.cells 49 (0, 0)) ∧ w'.heap[gB]? = some (.cells (F.H k).cells 73 (0, 0))) 14 (by kernel_rfl) ?_
    have hd : Below V0.heap.size V0 V0.drew := (Below.refl _ _).drew
    replace HP : Hid (CpF w F gP P k V0.drew) := HP.out.up hd
    replace kV : V0.drew.heap[gB]? = some (.cells (F.H k).cells 73 (0, 0)) := kV
    clear hd eV
    generalize V0.drew = V at *
    have hT0 : (fun w' => w'.heap[gP]? = some (.cells P.cells 49 (0, 0)) ∧ w'.heap[gB]? = some (.cells (F.H k).cells 73 (0, 0))) V := ⟨HP.out.c, kV⟩
    refine takeE (i := 0) (some 23) (v := ?_) ?_ hT0 ?_
    rotate_left
    ·
     intro wx hSw
     go_simp
     try with_reducible rfl
    try simp only [Act.put, PZ]
    refine takeE (i := 1) (some 24) (v := ?_) ?_ hT0 ?_
    rotate_left
    ·
     intro wx hSw
     have c17 : wx.cell? ⟨gP, 17, none⟩ = some (.slice P.aH k P.cH) := by rw [blk_cell hSw.1 17, ← HP.out.nH]; rfl
     go_simp
     try with_reducible rfl
    try simp only [Act.put, PZ]
    refine takeE (i := 2) (some 25) (v := ?_) ?_ hT0 ?_
    rotate_left
    ·
     intro wx hSw
     go_simp
     try with_reducible rfl
    try simp only [Act.put, PZ]
    refine takeE (i := 3) (some 26) (v := ?_) ?_ hT0 ?_
    rotate_left
    ·
     intro wx hSw
     have v0 : wx.cell? ⟨gB, 0, none⟩ = some (.bool (F.H k).st) := blk_cell hSw.2 0
     go_simp
     try with_reducible rfl
    try simp only [Act.put, PZ]
    refine takeE (i := 4) (some 27) (v := ?_) ?_ hT0 ?_
    rotate_left
    ·
     intro wx hSw
     go_simp
     try with_reducible rfl
    try simp only [Act.put, PZ]
    refine takeE (i := 5) (some 28) (v := ?_) ?_ hT0 ?_
    rotate_left
    ·
     intro wx hSw
     have v1 : wx.cell? ⟨gB, 1, none⟩ = some (.slice (F.H k).aO (F.H k).nO (F.H k).cO) := blk_cell hSw.2 1
     go_simp
     try with_reducible rfl
    try simp only [Act.put, PZ]
    refine takeE (i := 7) (some 30) (v := ?_) ?_ hT0 ?_
    rotate_left
    ·
     intro wx hSw
     go_simp
     try with_reducible rfl
    try simp only [Act.put, PZ]
    refine takeE (i := 8) (some 31) (v := ?_) ?_ hT0 ?_
    rotate_left
    ·
     intro wx hSw
     have v2 : wx.cell? ⟨gB, 2, none⟩ = some (.slice (F.H k).aG (F.H k).nG (F.H k).cG) := blk_cell hSw.2 2
     go_simp
     try with_reducible rfl
    try simp only [Act.put, PZ]
    refine wpAnyE_ready (rs := [6]) (by kernel_rfl) (by simp) ?_
    refine AllReadyE.cons rfl (fun K hK => ?_) AllReadyE.nil
    go_simp
    refine (copyFrames_any (F.H k).aO (F.H k).nO (F.H k).cO (F.H k).O _ HSk.out.o HSk.out.bo ((HRk.out.up HP.out.bel).o)).mono ?_
    rintro e X1 ⟨aO2, cO2, rfl, oO, hb⟩
    have HO1 : Hid (OG 110 5 X1 V.heap.size aO2 (F.H k).nO cO2 (tV (F.H k).nO fun i => ((F.H k).O i).frame) ∧ Below V.heap.size V X1) := ⟨oO, hb⟩
    have kV1 := (hb.block _ (blk_lt kV)).trans kV
    have kP1 := (hb.block _ (blk_lt HP.out.c)).trans HP.out.c
    clear oO hb hT0
    have hT0 : (fun w' => w'.heap[gP]? = some (.cells P.cells 49 (0, 0)) ∧ w'.heap[gB]? = some (.cells (F.H k).cells 73 (0, 0))) X1 := ⟨kP1, kV1⟩
    go_wp2_with fail
    refine hK.out _ _ hT0 ?_
    clear hK K
    try simp only [Act.put, PZ]
    refine wpAnyE_ready (rs := [9]) (by kernel_rfl) (by simp) ?_
    refine AllReadyE.cons rfl (fun K hK => ?_) AllReadyE.nil
    go_simp
    refine (copyFrames_any (F.H k).aG (F.H k).nG (F.H k).cG (F.H k).G _ HSk.out.g HSk.out.bg ((HRk.out.up (HP.out.up HO1.out.2).bel).g)).mono ?_
    rintro e X2 ⟨aG2, cG2, rfl, oG, hb⟩
    have HO2 : Hid (OwnHz X2 V.heap.size ⟨(F.H k).st, aO2, (F.H k).nO, cO2, (F.H k).O, aG2, (F.H k).nG, cG2, (F.H k).G⟩ ∧ Below V.heap.size V X2) := ⟨⟨HO1.out.1.up hb, oG.mono HO1.out.2.size, fun x hx hy => by
     have := (HO1.out.1.blk x hx).2
     have := (oG.blk x hy).1
     omega⟩, HO1.out.2.trans (hb.mono HO1.out.2.size)⟩
    have kV2 := (hb.block _ (blk_lt kV1)).trans kV1
    have kP2 := (hb.block _ (blk_lt kP1)).trans kP1
    clear oG hb hT0 kV1 kP1 HO1
    have hT0 : (fun w' => w'.heap[gP]? = some (.cells P.cells 49 (0, 0)) ∧ w'.heap[gB]? = some (.cells (F.H k).cells 73 (0, 0))) X2 := ⟨kP2, kV2⟩
    go_wp2_with fail
    refine hK.out _ _ hT0 ?_
    clear hK K
    try simp only [Act.put, PZ]
    refine takeE (i := 10) (some 33) (v := ?_) ?_ hT0 ?_
    rotate_left
    ·
     intro wx hSw
     go_simp
     try with_reducible rfl
    try simp only [Act.put, PZ]
    have Q1 := HP.out.up HO2.out.2
    have hu0 : OG 73 3 X2 w.heap.size P.aH k P.cH (tV k fun i => (P.H i).cells) := by have := Q1.h.h; rw [HP.out.nH] at this; exact this
    obtain ⟨g1, c3, X3, hr, hu, ht, hg⟩ := appendOG 46 73 _ 3 56 infoHtZ Tryz.underlying46 rfl (by decide) (by decide) hu0 (by omega) Q1.bel.size (#[.bool (F.H k).st, .slice aO2 (F.H k).nO cO2, .slice aG2 (F.H k).nG cG2]) rfl (by simp [Value.oneCell'])
    have hB2 : Below X2.heap.size X2 (X2.alloc (.cells #[.bool (F.H k).st, .slice aO2 (F.H k).nO cO2, .slice aG2 (F.H k).nG cG2] 73)) := (Below.refl _ _).alloc (Nat.le_refl _) _
    have hT2 : (fun w' => w'.heap[gP]? = some (.cells P.cells 49 (0, 0)) ∧ w'.heap[gB]? = some (.cells (F.H k).cells 73 (0, 0))) (X2.alloc (.cells #[.bool (F.H k).st, .slice aO2 (F.H k).nO cO2, .slice aG2 (F.H k).nG cG2] 73)) := ⟨(hB2.block _ (blk_lt kP2)).trans kP2, (hB2.block _ (blk_lt kV2)).trans kV2⟩
    have hc3 : X3.heap[gP]? = some (.cells P.cells 49 (0, 0)) := (ht.block _ (blk_lt kP2) (hu0.notT (by decide) kP2)).trans kP2
    have hT3 : (fun w' => w'.heap[gP]? = some (.cells P.cells 49 (0, 0)) ∧ w'.heap[gB]? = some (.cells (F.H k).cells 73 (0, 0))) X3 := ⟨hc3, (ht.block _ (blk_lt kV2) HBB.out.2) |>.trans kV2⟩
    have HN3 : Hid (OG 73 3 X3 w.heap.size (some ⟨g1, 0, none⟩) (k + 1) c3 (tV k (fun i => (P.H i).cells) ++ (#[.bool (F.H k).st, .slice aO2 (F.H k).nO cO2, .slice aG2 (F.H k).nG cG2] : Array Value).toList) ∧ Touch (blkO P.aH) X2 X3) := ⟨hu, ht⟩
    have HR3 : Hid ((Builtin.append_ #[46, 46] 46 #[.slice P.aH k P.cH, .slice (some ⟨X2.heap.size, 0, none⟩) 1 1]).run Tryz.prog (X2.alloc (.cells #[.bool (F.H k).st, .slice aO2 (F.H k).nO cO2, .slice aG2 (F.H k).nG cG2] 73)) = .ok (.slice (some ⟨g1, 0, none⟩) (k + 1) c3) X3) := hr
    clear Q1 hu0 hr hu ht hg hT0 hB2 kV2 kP2
    refine wpAnyE_ready (rs := [11]) (by kernel_rfl) (by simp) ?_
    refine AllReadyE.cons rfl (fun K hK => ?_) AllReadyE.nil
    go_simp
    refine hK.out _ _ hT2 ?_
    clear hK K
    try simp only [Act.put, PZ]
    refine wpAnyE_ready (rs := [12]) (by kernel_rfl) (by simp) ?_
    refine AllReadyE.cons rfl (fun K hK => ?_) AllReadyE.nil
    refine wp_appE (by kernel_rfl) (some 35) rfl (.tmp 24) (.tmp 34) 46 _ _ _ rfl rfl rfl rfl HR3.out ?_
    refine hK.out _ _ hT3 ?_
    clear hK K hT2 HR3
    try simp only [Act.put, PZ]
    have hT0 := hT3
    refine takeE (i := 13) (some 36) (v := ?_) ?_ hT0 ?_
    rotate_left
    ·
     intro wx hSw
     go_simp
     try with_reducible rfl
    try simp only [Act.put, PZ]
    refine wpAnyE_ready (rs := [14]) (by kernel_rfl) (by simp) ?_
    refine AllReadyE.last rfl (fun K hK => ?_)
    refine wp_stE (by kernel_rfl) none rfl 46 (.tmp 36) (.tmp 35) rfl gP 17 rfl (.slice (some ⟨g1, 0, none⟩) (k + 1) c3) rfl 1 rfl 49 _ hc3 infoHs (Nat.le_of_ble_eq_true rfl) (by simp [Value.cells, Value.oneCell']) ?_
    intro X4 hP
    refine hK.out _ _ ?_
    clear hK K
    try simp only [Act.put, PZ]
    refine wpAnyE_done (by kernel_rfl) ?_ _
    have HN : Hid (CpF w F gP { P with aH := some ⟨g1, 0, none⟩, nH := k + 1, cH := c3, H := fun i => if i = k then ⟨(F.H k).st, aO2, (F.H k).nO, cO2, (F.H k).O, aG2, (F.H k).nG, cG2, (F.H k).G⟩ else P.H i } (k + 1) X4) := HP.out.more HO2.out.2 HO2.out.1 ⟨rfl, rfl, rfl, rfl, rfl⟩ HN3.out.1 HN3.out.2 (hP.cast rfl)
    clear hP hT0 hT3 hc3 HN3 HO2 HP
    go_wp2_with fail
    go_roundw
    case rel => exact ⟨k + 1, _, by omega, by go_num, HN⟩
    case measure => simp [intOf]; omega
   ·
    obtain rfl : k = F.nH := by omega
    have hge : ¬ ((F.nH : Nat) : Int) < ((F.nH : Nat) : Int) := by omega
    have HL : Hid (∀ j, j < 20 → wr.cell? ⟨gP, 0 + j, none⟩ = P.cells[j]?) := blkT HP.out.c 20
    have HD : Hid (wr.heap[w.heap.size + 1]? = some (.cells zFb 49 (0, 0))) := HP.out.b
    go_wp2_with (first | refine wpList_ldT rfl 49 20 _ Tryz.underlying49 rfl infoFb20 (.tmp 3) rfl gP 0 rfl P.cells rfl HL.out ?_ | refine wpList_stA rfl 49 (.tmp 2) (.tmp 38) rfl (w.heap.size + 1) 0 rfl (.agg P.cells) rfl 20 rfl 49 _ HD.out infoFb20 (Nat.le_of_ble_eq_true rfl) (Fab.oneC _) ?_)
    intro X hP
    replace hP : Put wr X (w.heap.size + 1) P.cells 49 := hP.cast rfl
    have HK : Hid (X.heap[w.heap.size + 1]? = some (.cells P.cells 49 (0, 0))) := hP.blk
    have HF : Hid (AlikeF F P ∧ OwnFz X w.heap.size P ∧ Below w.heap.size w X) := ⟨HP.out.alike rfl, HP.out.own.off HD.out hP.to, HP.out.bel.trans (hP.to.below HP.out.bel.size (fun x hx => by simp at hx; omega))⟩
    clear hP HL HD HP
    go_wp2_with fail
    exact bodyPost_ret (res_cellT Tryz.results41 20 _ Tryz.underlying49 rfl infoFb20 _ _ (w.heap.size + 1) P.cells rfl 49 HK.out rfl) rfl ⟨P, rfl, HF.out.1, HF.out.2.1, HF.out.2.2⟩
end Go.Proofs.YtfkpncopkgidfaaGreat
