import Derived.Test.YtlipielghpoaoaaGreatProg
import Derived.Test.YtlipielghpoaoaaGreatT06
import Derived.Test.YtlipielghpoaoaaGreatT24
import Derived.Ground.GgzProg
import Derived.Ground.SlgmProg
import Derived.Shelf.SlIterI.Nil
import Derived.Shelf.SortM.Plain
import Derived.Shelf.SortM.SortNone
namespace Go.Proofs.YtlipielghpoaoaaGreat
open Go.RowKit
set_option linter.unusedVariables false
set_option linter.unusedSimpArgs false
def zSw : Array Value := #[.int .i64 0, .int .i64 0, .int .i64 0, .int .i64 0, .int .i64 0, .int .i64 0, .int .i64 0, .int .i64 0, .int .i64 0, .slice none 0 0, .slice none 0 0, .int .i64 0, .slice none 0 0, .slice none 0 0, .slice none 0 0, .int .i64 0, .int .i64 0]
theorem infoEnZ : (Tryz.prog.info? 56).map (fun i => (i.zero, i.size, i.bytes)) = some (some (.agg #[.int .i64 0, .int .i64 0, .int .i64 0]), 3, 24) := by kernel_rfl
theorem copyOfE_any (a : Option Addr) (n cap : Nat) (f : Nat → Ent) (w : World) (hn : n ≤ 1048576) (h : RdEnt w a n f) :
  Calls Tryz.prog 84 #[.slice a n cap] w fun e w' => ∃ a' c', e = .returned (.slice a' n c') ∧ OG 56 3 w' w.heap.size a' n c' (flatE (entsL n f)) ∧ Below w.heap.size w w' := by
 obtain ⟨a', c', W', hr, hv, hb⟩ := appendRowNil (c := cap) 36 56 _ 3 24 infoEnZ Tryz.underlying36 rfl (by decide) (by decide) hn (by rw [flatE_len, entsL_len]) h.cs (flatE_one _)
 have HV : Hid (OG 56 3 W' w.heap.size a' n c' (flatE (entsL n f)) ∧ Below w.heap.size w W') := ⟨hv, hb⟩
 clear hv hb h
 go_enter Tryz.func84, Tryz.ntmps84
 go_wp2_with (at_builtin; refine Lib.wpList_append_run _ rfl _ _ _ _ rfl _ _ rfl rfl _ _ hr ?_)
 go_ret
 exact ⟨_, _, rfl, HV.out.1, HV.out.2⟩
theorem copyOfK_any (a : Option Addr) (n cap : Nat) (K : Nat → Pkt) (w : World) (hn : n ≤ 1048576) (h : RdPk w a n K) :
  Calls Tryz.prog 86 #[.slice a n cap] w fun e w' => ∃ a' c', e = .returned (.slice a' n c') ∧ OG 60 8 w' w.heap.size a' n c' (pksV n K) ∧ Below w.heap.size w w' := by
 obtain ⟨a', c', W', hr, hv, hb⟩ := appendRowNil (c := cap) 38 60 _ 8 72 infoPkZ Tryz.underlying38 rfl (by decide) (by decide) hn (pksV_len _ _) h.cs (pksV_one _ _)
 have HV : Hid (OG 60 8 W' w.heap.size a' n c' (pksV n K) ∧ Below w.heap.size w W') := ⟨hv, hb⟩
 clear hv hb h
 go_enter Tryz.func86, Tryz.ntmps86
 go_wp2_with (at_builtin; refine Lib.wpList_append_run _ rfl _ _ _ _ rfl _ _ rfl rfl _ _ hr ?_)
 go_ret
 exact ⟨_, _, rfl, HV.out.1, HV.out.2⟩
theorem lay_self {cur cs : Array Value} {o : Nat} (hf : o + cs.size ≤ cur.size) (h : ∀ j, j < cs.size → cur[o + j]? = cs[j]?) : lay cur o cs = cur := by
 refine Array.ext_getElem? fun i => ?_
 by_cases h1 : i < o
 ·
  exact lay_lo hf i h1
 by_cases h2 : i < o + cs.size
 ·
  have := lay_at hf (i - o) (by omega)
  rw [show o + (i - o) = i by omega] at this
  rw [this, ← h (i - o) (by omega), show o + (i - o) = i by omega]
 ·
  unfold lay
  simp only [List.getElem?_toArray]
  rw [List.getElem?_append_right (by simp; omega), List.getElem?_drop, Array.getElem?_toList]
  congr 1
  simp
  omega
theorem Put.same {w W : World} {g : Nat} {cs : Array Value} {t : TypeId} (h : Put w W g cs t) (hg : w.heap[g]? = some (.cells cs t (0, 0))) : Below w.heap.size w W :=
 ⟨h.to.os, h.to.tape, h.to.output, h.to.size, fun k hk => by
  by_cases e : k = g
  ·
   subst e; exact h.blk.trans hg.symm
  ·
   exact h.to.block k hk (by simpa using e)⟩
structure CpS (w : World) (S P : Swg) (W : World) : Prop where
 x : Boxes w S.cells zSw P.cells 41 41 W
 e : OG 56 3 W w.heap.size P.aE P.nE P.cE (flatE (entsL P.nE P.e))
 n : OwnCn W w.heap.size P.N
 k : OG 60 8 W w.heap.size P.aK P.nK P.cK (pksV P.nK P.K)
theorem CpS.up {w : World} {S P : Swg} {W W' : World} (h : CpS w S P W) (hb : Below W.heap.size W W') : CpS w S P W' := ⟨h.x.up hb, h.e.up hb, h.n.up hb, h.k.up hb⟩
theorem OwnCn.off2 {w w' : World} {base g : Nat} {N : Cnt} {cs : Array Value} {t : TypeId} (h : OwnCn w base N) (hg : w.heap[g]? = some (.cells cs t (0, 0))) (h2 : 2 ≠ t) (h4 : 4 ≠ t) (ht : Touch [g] w w') : OwnCn w' base N :=
 ⟨h.u.touchS ht (fun x hx hy => by rw [List.mem_singleton.1 hy] at hx; exact h.u.boxOut h2 hg hx), h.p.touchS ht (fun x hx hy => by rw [List.mem_singleton.1 hy] at hx; exact h.p.boxOut h4 hg hx)⟩
structure CpA (S P : Swg) : Prop where
 c : P.C = S.C
 now : P.now = S.now
 nx : P.nx = S.nx
 nE : P.nE = S.nE
 e : P.e = S.e
 n : AlikeC S.N P.N
 nK : P.nK = S.nK
 k : P.K = S.K
 dr : P.dr = S.dr
 lst : P.lst = S.lst
structure CpSL (w : World) (S P : Swg) (k : Nat) (W : World) : Prop where
 s : CpS w S P W
 a : CpA S P
 l : OwnLs W w.heap.size P.aL P.nL P.cL P.L
 un : ∀ x ∈ blkV P.N.aU P.N.nU, x ∉ (List.range P.nL).flatMap fun i => (P.L i).blkz
 nL : P.nL = k
 al : ∀ i, i < k → AlikeL (S.L i) (P.L i)
theorem CpSL.up {w : World} {S P : Swg} {k : Nat} {W W' : World} (h : CpSL w S P k W) (hb : Below W.heap.size W W') : CpSL w S P k W' := ⟨h.s.up hb, h.a, h.l.up hb, h.un, h.nL, h.al⟩
def Swg.more (P : Swg) (k : Nat) (aL : Option Addr) (cL : Nat) (l : Lng) : Swg := { P with aL := aL, nL := k + 1, cL := cL, L := fun i => if i = k then l else P.L i }
theorem CpSL.more {w : World} {S P : Swg} {k g c2 : Nat} {l2 : Lng} {V V1 W W2 : World} (h : CpSL w S P k V) (hb : Below V.heap.size V V1) (ho : OwnLz V1 V.heap.size l2) (ha : AlikeL (S.L k) l2)
  (hu : OG 67 8 W w.heap.size (some ⟨g, 0, none⟩) (k + 1) c2 (lnsV k P.L ++ l2.cells.toList)) (ht : Touch (blkO P.aL) V1 W) (hP : Put W W2 (w.heap.size + 1 + 1) (lay P.cells 14 #[.slice (some ⟨g, 0, none⟩) (k + 1) c2]) 41) : CpSL w S (P.more k (some ⟨g, 0, none⟩) c2 l2) (k + 1) W2 := by
 have hk := h.nL
 have h1 := h.up hb
 have hl : OwnLs V w.heap.size P.aL k P.cL P.L := hk ▸ h.l
 have hl1 := hl.up hb
 have hL := hl.more hb h.s.x.bel.size ho hu ht
 have xa := (ht.block _ (blk_lt h1.s.x.a) (hl1.l.notT (by decide) h1.s.x.a)).trans h1.s.x.a
 have xb := (ht.block _ (blk_lt h1.s.x.b) (hl1.l.notT (by decide) h1.s.x.b)).trans h1.s.x.b
 have xc := (ht.block _ (blk_lt h1.s.x.c) (hl1.l.notT (by decide) h1.s.x.c)).trans h1.s.x.c
 have xB : Boxes w S.cells zSw P.cells 41 41 W := ⟨xa, xb, xc, h1.s.x.bel.trans (ht.below h1.s.x.bel.size (fun x hx => (hl1.l.blk x hx).1)), Nat.le_trans h1.s.x.sz ht.size⟩
 have e1 := h1.s.e.touchS ht (h1.s.e.apart hl1.l (by decide))
 have k1 := h1.s.k.touchS ht (h1.s.k.apart hl1.l (by decide))
 have n1 : OwnCn W w.heap.size P.N := ⟨h1.s.n.u.touchS ht (fun x hx hy => by
   obtain ⟨cs, q⟩ := h1.s.n.u.type x hx
   exact hl1.l.notT (by decide) q hy), h1.s.n.p.touchS ht (fun x hx hy => by
   obtain ⟨cs, q⟩ := h1.s.n.p.type x hx
   exact hl1.l.notT (by decide) q hy)⟩
 refine ⟨⟨xB.put hP, e1.touchS hP.to (fun x hx hy => e1.notT (by decide) xc ((List.mem_singleton.1 hy) ▸ hx)), n1.off2 xc (by decide) (by decide) hP.to, k1.touchS hP.to (fun x hx hy => k1.notT (by decide) xc ((List.mem_singleton.1 hy) ▸ hx))⟩, ⟨h.a.c, h.a.now, h.a.nx, h.a.nE, h.a.e, h.a.n, h.a.nK, h.a.k, h.a.dr, h.a.lst⟩, hL.box xc (by decide) (by decide) (by decide) hP.to, fun x hx hy => ?_, rfl, fun i hi => ?_⟩
 ·
  have hx1 := (h.s.n.u.blk x hx).2
  simp only [List.mem_flatMap, List.mem_range] at hy
  obtain ⟨i, hi, hy⟩ := hy
  have hy' : x ∈ (if i = k then l2 else P.L i).blkz := hy
  by_cases e : i = k
  ·
   rw [if_pos e] at hy'
   have := (ho.blk x hy').1
   omega
  ·
   rw [if_neg e] at hy'
   have hi' : i < k + 1 := hi
   exact h.un x hx (by simp only [List.mem_flatMap, List.mem_range]; exact ⟨i, by omega, hy'⟩)
 ·
  show AlikeL (S.L i) (if i = k then l2 else P.L i)
  by_cases e : i = k
  ·
   rw [if_pos e, e]; exact ha
  ·
   rw [if_neg e]; exact h.al i (by omega)
theorem CpSL.alike {w : World} {S P : Swg} {k : Nat} {W : World} (h : CpSL w S P k W) (hk : S.nL = k) : AlikeG S P :=
 ⟨h.a.c, h.a.now, h.a.nx, h.a.nE, h.a.e, h.a.n, h.a.nK, h.a.k, by rw [h.nL, hk], fun i hi => h.al i (by omega), h.a.dr, h.a.lst⟩
theorem CpSL.own {w : World} {S P : Swg} {k : Nat} {W : World} (h : CpSL w S P k W) : OwnSz W w.heap.size P := ⟨h.s.e, h.s.n, h.s.k, h.l, h.un⟩
theorem OwnSz.off {w w' : World} {base g : Nat} {S : Swg} {cs : Array Value} (h : OwnSz w base S) (hg : w.heap[g]? = some (.cells cs 41 (0, 0))) (ht : Touch [g] w w') : OwnSz w' base S :=
 ⟨h.e.touchS ht (fun x hx hy => h.e.notT (by decide) hg ((List.mem_singleton.1 hy) ▸ hx)), h.n.off2 hg (by decide) (by decide) ht, h.k.touchS ht (fun x hx hy => h.k.notT (by decide) hg ((List.mem_singleton.1 hy) ▸ hx)), h.l.box hg (by decide) (by decide) (by decide) ht, h.un⟩
theorem OG.at0 {t : TypeId} {sz : Nat} {w : World} {base : Nat} {a : Option Addr} {n c : Nat} {xs : List Value} (h : OG t sz w base a n c xs) (h0 : 0 < n) : ∃ g cur, a = some ⟨g, 0, none⟩ ∧ w.heap[g]? = some (.cells cur t (0, 0)) ∧ n * sz ≤ cur.size ∧ ∀ j, j < n * sz → cur[j]? = xs[j]? := by
 rcases h.2 with ⟨e, h1⟩ | ⟨g, cap, cur, e, hg, hbk, hn, hm, hs, ht⟩
 ·
  omega
 ·
  cases e
  refine ⟨g, cur, rfl, hbk, ?_, fun j hj => ?_⟩
  ·
   rw [hs]
   exact Nat.mul_le_mul_right _ hn
  ·
   rw [← ht, List.getElem?_take_of_lt hj, Array.getElem?_toList]
theorem rdFr {w : World} {g : Nat} {x : Pkt} {t : TypeId} (h : w.heap[g]? = some (.cells x.cells t (0, 0))) : ∀ j, j < 5 → w.cell? ⟨g, 3 + j, none⟩ = (#[.int .i64 x.k, .int .i64 x.d, .int .i64 x.s, .int .i64 x.p, .string x.b] : Array Value)[j]? := by
 intro j hj
 rw [blk_cell h]
 match j, hj with
 | 0, _ => rfl
 | 1, _ => rfl
 | 2, _ => rfl
 | 3, _ => rfl
 | 4, _ => rfl
theorem frAt (x : Pkt) (j : Nat) (hj : j < 5) : x.cells[3 + j]? = (#[.int .i64 x.k, .int .i64 x.d, .int .i64 x.s, .int .i64 x.p, .string x.b] : Array Value)[j]? := by
 match j, hj with
 | 0, _ => rfl
 | 1, _ => rfl
 | 2, _ => rfl
 | 3, _ => rfl
 | 4, _ => rfl
set_option maxRecDepth 100000 in
set_option maxHeartbeats 3000000 in
theorem copySwitch_any (S : Swg) (w : World) (hs : S.Small) (hU : 0 < S.N.nU) (hPp : 0 < S.N.nP) (h : RdSg w S) :
  Calls Tryz.prog 43 #[.agg S.cells] w fun e w' => ∃ S2, e = .returned (.agg S2.cells) ∧ AlikeG S S2 ∧ OwnSz w' w.heap.size S2 ∧ Below w.heap.size w w' := by
 have HR : Hid (RdSg w S) := h
 have HS : Hid S.Small := hs
 have HU0 : Hid (0 < S.N.nU ∧ 0 < S.N.nP) := ⟨hU, hPp⟩
 clear h hs hU hPp
 obtain ⟨W0, eW⟩ : ∃ W, (((w.alloc (.cells S.cells 41)).alloc (.cells #[.int .i64 0, .int .i64 0, .int .i64 0, .int .i64 0, .int .i64 0, .int .i64 0, .int .i64 0, .int .i64 0, .int .i64 0, .slice none 0 0, .slice none 0 0, .int .i64 0, .slice none 0 0, .slice none 0 0, .slice none 0 0, .int .i64 0, .int .i64 0] 41)).alloc (.cells #[.int .i64 0, .int .i64 0, .int .i64 0, .int .i64 0, .int .i64 0, .int .i64 0, .int .i64 0, .int .i64 0, .int .i64 0, .slice none 0 0, .slice none 0 0, .int .i64 0, .slice none 0 0, .slice none 0 0, .slice none 0 0, .int .i64 0, .int .i64 0] 41)) = W := ⟨_, rfl⟩
 have HX : Hid (Boxes w S.cells #[.int .i64 0, .int .i64 0, .int .i64 0, .int .i64 0, .int .i64 0, .int .i64 0, .int .i64 0, .int .i64 0, .int .i64 0, .slice none 0 0, .slice none 0 0, .int .i64 0, .slice none 0 0, .slice none 0 0, .slice none 0 0, .int .i64 0, .int .i64 0] #[.int .i64 0, .int .i64 0, .int .i64 0, .int .i64 0, .int .i64 0, .int .i64 0, .int .i64 0, .int .i64 0, .int .i64 0, .slice none 0 0, .slice none 0 0, .int .i64 0, .slice none 0 0, .slice none 0 0, .slice none 0 0, .int .i64 0, .int .i64 0] 41 41 W0) := by rw [← eW]; exact Boxes.start _ _ _ _ _ _
 have HL0 : Hid (∀ j, j < 17 → ((w.alloc (.cells S.cells 41)).alloc (.cells #[.int .i64 0, .int .i64 0, .int .i64 0, .int .i64 0, .int .i64 0, .int .i64 0, .int .i64 0, .int .i64 0, .int .i64 0, .slice none 0 0, .slice none 0 0, .int .i64 0, .slice none 0 0, .slice none 0 0, .slice none 0 0, .int .i64 0, .int .i64 0] 41)).cell? ⟨w.heap.size, 0 + j, none⟩ = S.cells[j]?) := fun j _ => by rw [Nat.zero_add]; exact blk_cell (Two.start w S.cells #[.int .i64 0, .int .i64 0, .int .i64 0, .int .i64 0, .int .i64 0, .int .i64 0, .int .i64 0, .int .i64 0, .int .i64 0, .slice none 0 0, .slice none 0 0, .int .i64 0, .slice none 0 0, .slice none 0 0, .slice none 0 0, .int .i64 0, .int .i64 0] 41).a j
 have HC : Hid (W0.heap[w.heap.size + 1 + 1]? = some (.cells #[.int .i64 0, .int .i64 0, .int .i64 0, .int .i64 0, .int .i64 0, .int .i64 0, .int .i64 0, .int .i64 0, .int .i64 0, .slice none 0 0, .slice none 0 0, .int .i64 0, .slice none 0 0, .slice none 0 0, .slice none 0 0, .int .i64 0, .int .i64 0] 41 (0, 0))) := HX.out.c
 go_enter Tryz.func43, Tryz.ntmps43
 go_wp2_with (first | refine wpList_ldT rfl 41 17 _ Tryz.underlying41 rfl infoSgI (.tmp 1) rfl w.heap.size 0 rfl S.cells rfl HL0.out ?_ | refine wpList_stA rfl 41 (.tmp 3) (.tmp 8) rfl (w.heap.size + 1 + 1) 0 rfl (.agg S.cells) rfl 17 rfl 41 _ HC.out infoSgI (Nat.le_of_ble_eq_true rfl) (Swg.oneC _) ?_)
 clear HL0
 intro W1 hP
 clear eW
 replace hP := hP.cast (cs' := #[.int .i64 S.C.p, .int .i64 S.C.c, .int .i64 S.C.xo, .int .i64 S.C.xn, .int .i64 S.C.hd, .int .i64 S.C.lo, .int .i64 S.C.dl, .int .i64 S.now, .int .i64 S.nx, .slice S.aE S.nE S.cE, .slice S.N.aU S.N.nU S.N.cU, .int .i64 S.N.lo, .slice S.N.aP S.N.nP S.N.cP, .slice S.aK S.nK S.cK, .slice S.aL S.nL S.cL, .int .i64 S.dr, .int .i64 S.lst]) rfl
 replace HX : Hid (Boxes w S.cells #[.int .i64 0, .int .i64 0, .int .i64 0, .int .i64 0, .int .i64 0, .int .i64 0, .int .i64 0, .int .i64 0, .int .i64 0, .slice none 0 0, .slice none 0 0, .int .i64 0, .slice none 0 0, .slice none 0 0, .slice none 0 0, .int .i64 0, .int .i64 0] #[.int .i64 S.C.p, .int .i64 S.C.c, .int .i64 S.C.xo, .int .i64 S.C.xn, .int .i64 S.C.hd, .int .i64 S.C.lo, .int .i64 S.C.dl, .int .i64 S.now, .int .i64 S.nx, .slice S.aE S.nE S.cE, .slice S.N.aU S.N.nU S.N.cU, .int .i64 S.N.lo, .slice S.N.aP S.N.nP S.N.cP, .slice S.aK S.nK S.cK, .slice S.aL S.nL S.cL, .int .i64 S.dr, .int .i64 S.lst] 41 41 W1) := HX.out.put hP
 have T1 : Touch [w.heap.size + 1, w.heap.size + 1 + 1] W0 W1 := hP.to.mono (fun x hx => by simp at hx; simp [hx])
 clear hP HC 
 have c9 : W1.cell? ⟨w.heap.size, 9, none⟩ = some (.slice S.aE S.nE S.cE) := blk_cell HX.out.a 9
 go_wp2_with fail
 refine (copyOfE_any S.aE S.nE S.cE S.e _ HS.out.e (HR.out.e.up HX.out.bel)).mono ?_
 rintro e we ⟨aE, cE, rfl, rE, hb⟩
 clear c9
 have sE := HX.out.sz
 replace HX : Hid (Boxes w S.cells #[.int .i64 0, .int .i64 0, .int .i64 0, .int .i64 0, .int .i64 0, .int .i64 0, .int .i64 0, .int .i64 0, .int .i64 0, .slice none 0 0, .slice none 0 0, .int .i64 0, .slice none 0 0, .slice none 0 0, .slice none 0 0, .int .i64 0, .int .i64 0] #[.int .i64 S.C.p, .int .i64 S.C.c, .int .i64 S.C.xo, .int .i64 S.C.xn, .int .i64 S.C.hd, .int .i64 S.C.lo, .int .i64 S.C.dl, .int .i64 S.now, .int .i64 S.nx, .slice S.aE S.nE S.cE, .slice S.N.aU S.N.nU S.N.cU, .int .i64 S.N.lo, .slice S.N.aP S.N.nP S.N.cP, .slice S.aK S.nK S.cK, .slice S.aL S.nL S.cL, .int .i64 S.dr, .int .i64 S.lst] 41 41 we) := HX.out.up hb
 have T2 : Touch [w.heap.size + 1, w.heap.size + 1 + 1] W1 we := Touch.ofBelow hb
 clear hb
 have HC := HX.out.c
 replace HC : Hid (we.heap[w.heap.size + 1 + 1]? = some (.cells #[.int .i64 S.C.p, .int .i64 S.C.c, .int .i64 S.C.xo, .int .i64 S.C.xn, .int .i64 S.C.hd, .int .i64 S.C.lo, .int .i64 S.C.dl, .int .i64 S.now, .int .i64 S.nx, .slice S.aE S.nE S.cE, .slice S.N.aU S.N.nU S.N.cU, .int .i64 S.N.lo, .slice S.N.aP S.N.nP S.N.cP, .slice S.aK S.nK S.cK, .slice S.aL S.nL S.cL, .int .i64 S.dr, .int .i64 S.lst] 41 (0, 0))) := HC
 go_wp2_with (refine wpList_stA rfl 36 (.tmp 12) (.tmp 11) rfl (w.heap.size + 1 + 1) 9 rfl (.slice aE S.nE cE) rfl 1 rfl 41 _ HC.out infoEs (Nat.le_of_ble_eq_true rfl) (by simp [Value.cells, Value.oneCell', Rnd.cells, Cfg.cells, Cnt.cells]) ?_)
 intro W3 hP
 replace hP := hP.cast (cs' := #[.int .i64 S.C.p, .int .i64 S.C.c, .int .i64 S.C.xo, .int .i64 S.C.xn, .int .i64 S.C.hd, .int .i64 S.C.lo, .int .i64 S.C.dl, .int .i64 S.now, .int .i64 S.nx, .slice aE S.nE cE, .slice S.N.aU S.N.nU S.N.cU, .int .i64 S.N.lo, .slice S.N.aP S.N.nP S.N.cP, .slice S.aK S.nK S.cK, .slice S.aL S.nL S.cL, .int .i64 S.dr, .int .i64 S.lst]) rfl
 replace HX : Hid (Boxes w S.cells #[.int .i64 0, .int .i64 0, .int .i64 0, .int .i64 0, .int .i64 0, .int .i64 0, .int .i64 0, .int .i64 0, .int .i64 0, .slice none 0 0, .slice none 0 0, .int .i64 0, .slice none 0 0, .slice none 0 0, .slice none 0 0, .int .i64 0, .int .i64 0] #[.int .i64 S.C.p, .int .i64 S.C.c, .int .i64 S.C.xo, .int .i64 S.C.xn, .int .i64 S.C.hd, .int .i64 S.C.lo, .int .i64 S.C.dl, .int .i64 S.now, .int .i64 S.nx, .slice aE S.nE cE, .slice S.N.aU S.N.nU S.N.cU, .int .i64 S.N.lo, .slice S.N.aP S.N.nP S.N.cP, .slice S.aK S.nK S.cK, .slice S.aL S.nL S.cL, .int .i64 S.dr, .int .i64 S.lst] 41 41 W3) := HX.out.put hP
 have T3 : Touch [w.heap.size + 1, w.heap.size + 1 + 1] we W3 := hP.to.mono (fun x hx => by simp at hx; simp [hx])
 clear hP HC 
 have c10 : W3.cell? ⟨w.heap.size, 10, none⟩ = some (.slice S.N.aU S.N.nU S.N.cU) := blk_cell HX.out.a 10
 have c11 : W3.cell? ⟨w.heap.size, 11, none⟩ = some (.int .i64 S.N.lo) := blk_cell HX.out.a 11
 have c12 : W3.cell? ⟨w.heap.size, 12, none⟩ = some (.slice S.N.aP S.N.nP S.N.cP) := blk_cell HX.out.a 12
 go_wp2_with fail
 refine (copyCounts_any S.N _ HU0.out.1 HU0.out.2 HS.out.n (HR.out.n.up HX.out.bel)).mono ?_
 rintro e wn ⟨M, rfl, rN, hb, aN⟩
 clear c10 c11 c12
 have sN := HX.out.sz
 replace HX : Hid (Boxes w S.cells #[.int .i64 0, .int .i64 0, .int .i64 0, .int .i64 0, .int .i64 0, .int .i64 0, .int .i64 0, .int .i64 0, .int .i64 0, .slice none 0 0, .slice none 0 0, .int .i64 0, .slice none 0 0, .slice none 0 0, .slice none 0 0, .int .i64 0, .int .i64 0] #[.int .i64 S.C.p, .int .i64 S.C.c, .int .i64 S.C.xo, .int .i64 S.C.xn, .int .i64 S.C.hd, .int .i64 S.C.lo, .int .i64 S.C.dl, .int .i64 S.now, .int .i64 S.nx, .slice aE S.nE cE, .slice S.N.aU S.N.nU S.N.cU, .int .i64 S.N.lo, .slice S.N.aP S.N.nP S.N.cP, .slice S.aK S.nK S.cK, .slice S.aL S.nL S.cL, .int .i64 S.dr, .int .i64 S.lst] 41 41 wn) := HX.out.up hb
 have T4 : Touch [w.heap.size + 1, w.heap.size + 1 + 1] W3 wn := Touch.ofBelow hb
 clear hb
 have HC := HX.out.c
 replace HC : Hid (wn.heap[w.heap.size + 1 + 1]? = some (.cells #[.int .i64 S.C.p, .int .i64 S.C.c, .int .i64 S.C.xo, .int .i64 S.C.xn, .int .i64 S.C.hd, .int .i64 S.C.lo, .int .i64 S.C.dl, .int .i64 S.now, .int .i64 S.nx, .slice aE S.nE cE, .slice S.N.aU S.N.nU S.N.cU, .int .i64 S.N.lo, .slice S.N.aP S.N.nP S.N.cP, .slice S.aK S.nK S.cK, .slice S.aL S.nL S.cL, .int .i64 S.dr, .int .i64 S.lst] 41 (0, 0))) := HC
 go_wp2_with (refine wpList_stA rfl 37 (.tmp 16) (.tmp 15) rfl (w.heap.size + 1 + 1) 10 rfl (.agg M.cells) rfl 3 rfl 41 _ HC.out infoCn (Nat.le_of_ble_eq_true rfl) (by simp [Value.cells, Value.oneCell', Rnd.cells, Cfg.cells, Cnt.cells]) ?_)
 intro W5 hP
 replace hP := hP.cast (cs' := #[.int .i64 S.C.p, .int .i64 S.C.c, .int .i64 S.C.xo, .int .i64 S.C.xn, .int .i64 S.C.hd, .int .i64 S.C.lo, .int .i64 S.C.dl, .int .i64 S.now, .int .i64 S.nx, .slice aE S.nE cE, .slice M.aU M.nU M.cU, .int .i64 M.lo, .slice M.aP M.nP M.cP, .slice S.aK S.nK S.cK, .slice S.aL S.nL S.cL, .int .i64 S.dr, .int .i64 S.lst]) rfl
 replace HX : Hid (Boxes w S.cells #[.int .i64 0, .int .i64 0, .int .i64 0, .int .i64 0, .int .i64 0, .int .i64 0, .int .i64 0, .int .i64 0, .int .i64 0, .slice none 0 0, .slice none 0 0, .int .i64 0, .slice none 0 0, .slice none 0 0, .slice none 0 0, .int .i64 0, .int .i64 0] #[.int .i64 S.C.p, .int .i64 S.C.c, .int .i64 S.C.xo, .int .i64 S.C.xn, .int .i64 S.C.hd, .int .i64 S.C.lo, .int .i64 S.C.dl, .int .i64 S.now, .int .i64 S.nx, .slice aE S.nE cE, .slice M.aU M.nU M.cU, .int .i64 M.lo, .slice M.aP M.nP M.cP, .slice S.aK S.nK S.cK, .slice S.aL S.nL S.cL, .int .i64 S.dr, .int .i64 S.lst] 41 41 W5) := HX.out.put hP
 have T5 : Touch [w.heap.size + 1, w.heap.size + 1 + 1] wn W5 := hP.to.mono (fun x hx => by simp at hx; simp [hx])
 clear hP HC 
 have c13 : W5.cell? ⟨w.heap.size, 13, none⟩ = some (.slice S.aK S.nK S.cK) := blk_cell HX.out.a 13
 go_wp2_with fail
 refine (copyOfK_any S.aK S.nK S.cK S.K _ HS.out.k (HR.out.k.up HX.out.bel)).mono ?_
 rintro e wk ⟨aK, cK, rfl, rK, hb⟩
 clear c13
 have sK := HX.out.sz
 replace HX : Hid (Boxes w S.cells #[.int .i64 0, .int .i64 0, .int .i64 0, .int .i64 0, .int .i64 0, .int .i64 0, .int .i64 0, .int .i64 0, .int .i64 0, .slice none 0 0, .slice none 0 0, .int .i64 0, .slice none 0 0, .slice none 0 0, .slice none 0 0, .int .i64 0, .int .i64 0] #[.int .i64 S.C.p, .int .i64 S.C.c, .int .i64 S.C.xo, .int .i64 S.C.xn, .int .i64 S.C.hd, .int .i64 S.C.lo, .int .i64 S.C.dl, .int .i64 S.now, .int .i64 S.nx, .slice aE S.nE cE, .slice M.aU M.nU M.cU, .int .i64 M.lo, .slice M.aP M.nP M.cP, .slice S.aK S.nK S.cK, .slice S.aL S.nL S.cL, .int .i64 S.dr, .int .i64 S.lst] 41 41 wk) := HX.out.up hb
 have T6 : Touch [w.heap.size + 1, w.heap.size + 1 + 1] W5 wk := Touch.ofBelow hb
 clear hb
 have HC := HX.out.c
 replace HC : Hid (wk.heap[w.heap.size + 1 + 1]? = some (.cells #[.int .i64 S.C.p, .int .i64 S.C.c, .int .i64 S.C.xo, .int .i64 S.C.xn, .int .i64 S.C.hd, .int .i64 S.C.lo, .int .i64 S.C.dl, .int .i64 S.now, .int .i64 S.nx, .slice aE S.nE cE, .slice M.aU M.nU M.cU, .int .i64 M.lo, .slice M.aP M.nP M.cP, .slice S.aK S.nK S.cK, .slice S.aL S.nL S.cL, .int .i64 S.dr, .int .i64 S.lst] 41 (0, 0))) := HC
 go_wp2_with (refine wpList_stA rfl 38 (.tmp 20) (.tmp 19) rfl (w.heap.size + 1 + 1) 13 rfl (.slice aK S.nK cK) rfl 1 rfl 41 _ HC.out infoKs (Nat.le_of_ble_eq_true rfl) (by simp [Value.cells, Value.oneCell', Rnd.cells, Cfg.cells, Cnt.cells]) ?_)
 intro W7 hP
 replace hP := hP.cast (cs' := #[.int .i64 S.C.p, .int .i64 S.C.c, .int .i64 S.C.xo, .int .i64 S.C.xn, .int .i64 S.C.hd, .int .i64 S.C.lo, .int .i64 S.C.dl, .int .i64 S.now, .int .i64 S.nx, .slice aE S.nE cE, .slice M.aU M.nU M.cU, .int .i64 M.lo, .slice M.aP M.nP M.cP, .slice aK S.nK cK, .slice S.aL S.nL S.cL, .int .i64 S.dr, .int .i64 S.lst]) rfl
 replace HX : Hid (Boxes w S.cells #[.int .i64 0, .int .i64 0, .int .i64 0, .int .i64 0, .int .i64 0, .int .i64 0, .int .i64 0, .int .i64 0, .int .i64 0, .slice none 0 0, .slice none 0 0, .int .i64 0, .slice none 0 0, .slice none 0 0, .slice none 0 0, .int .i64 0, .int .i64 0] #[.int .i64 S.C.p, .int .i64 S.C.c, .int .i64 S.C.xo, .int .i64 S.C.xn, .int .i64 S.C.hd, .int .i64 S.C.lo, .int .i64 S.C.dl, .int .i64 S.now, .int .i64 S.nx, .slice aE S.nE cE, .slice M.aU M.nU M.cU, .int .i64 M.lo, .slice M.aP M.nP M.cP, .slice aK S.nK cK, .slice S.aL S.nL S.cL, .int .i64 S.dr, .int .i64 S.lst] 41 41 W7) := HX.out.put hP
 have T7 : Touch [w.heap.size + 1, w.heap.size + 1 + 1] wk W7 := hP.to.mono (fun x hx => by simp at hx; simp [hx])
 clear hP HC 
 obtain ⟨P, eP⟩ : ∃ P, (⟨S.C, S.now, S.nx, aE, S.nE, cE, S.e, M, aK, S.nK, cK, S.K, S.aL, S.nL, S.cL, S.L, S.dr, S.lst⟩ : Swg) = P := ⟨_, rfl⟩
 have e3 : #[.int .i64 S.C.p, .int .i64 S.C.c, .int .i64 S.C.xo, .int .i64 S.C.xn, .int .i64 S.C.hd, .int .i64 S.C.lo, .int .i64 S.C.dl, .int .i64 S.now, .int .i64 S.nx, .slice aE S.nE cE, .slice M.aU M.nU M.cU, .int .i64 M.lo, .slice M.aP M.nP M.cP, .slice aK S.nK cK, .slice S.aL S.nL S.cL, .int .i64 S.dr, .int .i64 S.lst] = P.cells := by rw [← eP]; rfl
 rw [e3] at HX
 clear e3
 have hlow : ∀ x ∈ [w.heap.size + 1, w.heap.size + 1 + 1], x < w.heap.size + 1 + 1 + 1 := by intro x hx; simp at hx; omega
 have HA : Hid (CpA S P) := by rw [← eP]; exact ⟨rfl, rfl, rfl, rfl, rfl, aN, rfl, rfl, rfl, rfl⟩
 have HP : Hid (CpS w S P W7 ∧ P.nK = S.nK ∧ P.K = S.K) := by
  rw [← eP] at HX ⊢
  exact ⟨⟨HX.out, OG.mono (rE.low ((((T3.trans T4).trans T5).trans T6).trans T7) (fun x hx => by have := hlow x hx; omega)) (by omega), OwnCn.mono (rN.touch ((T5.trans T6).trans T7) (fun x hx => by have := hlow x hx; omega)) (by omega), OG.mono (rK.low T7 (fun x hx => by have := hlow x hx; omega)) (by omega)⟩, rfl, rfl⟩
 clear HX eP rE rN rK aN sE sN sK hlow T1 T2 T3 T4 T5 T6 T7
 have HU : Hid (RdPk w S.aK S.nK S.K) := HR.out.k
 obtain ⟨aK0, eU⟩ : ∃ a, S.aK = a := ⟨_, rfl⟩
 have c13 : W7.cell? ⟨w.heap.size, 13, none⟩ = some (.slice aK0 S.nK S.cK) := by rw [← eU]; exact blk_cell HP.out.1.x.a 13
 rw [eU] at HU
 clear eU
 have hnk := HS.out.k
 go_wp2_with fail
 clear c13
 go_loopw [24] (fun i wr => ∃ k : Nat, k ≤ S.nK ∧ i = .int .i64 k ∧ Hid (CpS w S P wr ∧ P.nK = S.nK ∧ P.K = S.K)) (fun i _ => S.nK - (intOf i).toNat)
 case atStart => exact ⟨0, Nat.zero_le _, rfl, HP⟩
 case round =>
  clear HP
  obtain ⟨k, hk, rfl, HP⟩ := hrel
  by_cases hlt : k < S.nK
  ·
   have hlt' : (k : Int) < S.nK := by omega
   obtain ⟨g0, o0, ea, hc⟩ := (HU.out.up HP.out.1.x.bel) k hlt
   subst ea
   have HCk : Hid (∀ j, j < 8 → wr.cell? ⟨g0, o0 + k * 8 + j, none⟩ = (S.K k).cells[j]?) := hc
   clear hc
   have HG : Hid ((wr.alloc (.cells #[.int .i64 0, .int .i64 0, .int .i64 0, .int .i64 0, .int .i64 0, .int .i64 0, .int .i64 0, .string ⟨#[]⟩] 60)).heap[wr.heap.size]? = some (.cells #[.int .i64 0, .int .i64 0, .int .i64 0, .int .i64 0, .int .i64 0, .int .i64 0, .int .i64 0, .string ⟨#[]⟩] 60 (0, 0))) := blk_new _ _
   go_wp2_with (first | refine wpList_ldT rfl 60 8 _ Tryz.underlying60 rfl infoPkI (.tmp 27) rfl g0 (o0 + k * 8) rfl (S.K k).cells rfl HCk.out ?_ | refine wpList_stA rfl 60 (.tmp 5) (.tmp 28) rfl wr.heap.size 0 rfl (.agg (S.K k).cells) rfl 8 rfl 60 _ HG.out infoPkI (Nat.le_of_ble_eq_true rfl) (Pkt.oneC _) ?_)
   intro X0 hP
   replace hP : Put _ X0 wr.heap.size (S.K k).cells 60 := hP.cast rfl
   have hb : Below wr.heap.size wr X0 := ((Below.refl _ _).alloc (Nat.le_refl _) _).trans (hP.to.below (by simp) (fun x hx => by simp at hx; omega))
   have kP := hP.blk
   replace HP : Hid (CpS w S P X0 ∧ P.nK = S.nK ∧ P.K = S.K) := ⟨HP.out.1.up hb, HP.out.2⟩
   clear hP hb HG HCk
   obtain ⟨gP, egP⟩ : ∃ g, wr.heap.size = g := ⟨_, rfl⟩
   rw [egP] at kP ⊢
   clear egP
   go_wp2_with fail
   refine wp_region_E (fun w' => w'.heap[w.heap.size + 1 + 1]? = some (.cells P.cells 41 (0, 0)) ∧ w'.heap[gP]? = some (.cells (S.K k).cells 60 (0, 0))) 8 (by kernel_rfl) ?_
   have hd : Below X0.heap.size X0 X0.drew := (Below.refl _ _).drew
   replace HP : Hid (CpS w S P X0.drew ∧ P.nK = S.nK ∧ P.K = S.K) := ⟨HP.out.1.up hd, HP.out.2⟩
   replace kP := (hd.block _ (blk_lt kP)).trans kP
   clear hd
   generalize X0.drew = V at *
   obtain ⟨gK, cur, eaK, hkK, hsK, hcK⟩ := HP.out.1.k.at0 (by rw [HP.out.2.1]; omega)
   rw [HP.out.2.1, HP.out.2.2] at hcK
   rw [HP.out.2.1] at hsK
   have HaK : Hid (P.aK = some ⟨gK, 0, none⟩) := eaK
   have HcK : Hid (∀ j, j < S.nK * 8 → cur[j]? = (pksV S.nK S.K)[j]?) := hcK
   clear eaK hcK
   have hT0 : V.heap[w.heap.size + 1 + 1]? = some (.cells P.cells 41 (0, 0)) ∧ V.heap[gP]? = some (.cells (S.K k).cells 60 (0, 0)) := ⟨HP.out.1.x.c, kP⟩
   refine takeE (i := 0) (some 29) (v := ?_) ?_ hT0 ?_
   rotate_left
   ·
    intro wx hSw
    go_simp
    try (with_reducible rfl)
   try simp only [Act.put, PZ]
   refine takeE (i := 1) (some 30) (v := ?_) ?_ hT0 ?_
   rotate_left
   ·
    intro wx hSw
    have c13 : wx.cell? ⟨w.heap.size + 1 + 1, 13, none⟩ = some (.slice (some ⟨gK, 0, none⟩) S.nK P.cK) := by rw [blk_cell hSw.1 13, ← HaK.out, ← HP.out.2.1]; rfl
    go_simp
    try (with_reducible rfl)
   try simp only [Act.put, PZ]
   refine takeE (i := 2) (some 31) (v := ?_) ?_ hT0 ?_
   rotate_left
   ·
    intro wx hSw
    go_simp
    try (with_reducible rfl)
   try simp only [Act.put, PZ]
   refine takeE (i := 3) (some 32) (v := ?_) ?_ hT0 ?_
   rotate_left
   ·
    intro wx hSw
    go_simp
    try (with_reducible rfl)
   try simp only [Act.put, PZ]
   refine takeE (i := 4) (some 33) (v := .agg #[.int .i64 (S.K k).k, .int .i64 (S.K k).d, .int .i64 (S.K k).s, .int .i64 (S.K k).p, .string (S.K k).b]) ?_ hT0 ?_
   ·
    intro wx hSw
    exact run_ldT 58 5 _ Tryz.underlying58 rfl infoFrI (.tmp 32) rfl gP 3 rfl _ rfl (fun j hj => rdFr hSw.2 j hj)
   try simp only [Act.put, PZ]
   refine wpAnyE_ready (rs := [5]) (by kernel_rfl) (by simp) ?_
   refine AllReadyE.cons rfl (fun K hK => ?_) AllReadyE.nil
   go_simp
   refine (copyFrame_any _ _ _ _ _ _ (HS.out.b k hlt)).mono ?_
   rintro e X1 ⟨rfl, hb⟩
   replace HP : Hid (CpS w S P X1 ∧ P.nK = S.nK ∧ P.K = S.K) := ⟨HP.out.1.up hb, HP.out.2⟩
   replace kP := (hb.block _ (blk_lt kP)).trans kP
   replace hkK := (hb.block _ (blk_lt hkK)).trans hkK
   clear hb hT0
   go_wp2_with fail
   refine hK.out _ _ ⟨HP.out.1.x.c, kP⟩ ?_
   clear hK K
   try simp only [Act.put, PZ]
   have hT0 : X1.heap[w.heap.size + 1 + 1]? = some (.cells P.cells 41 (0, 0)) ∧ X1.heap[gP]? = some (.cells (S.K k).cells 60 (0, 0)) := ⟨HP.out.1.x.c, kP⟩
   refine wpAnyE_ready (rs := [6]) (by kernel_rfl) (by simp) ?_
   refine AllReadyE.cons rfl (fun K hK => ?_) AllReadyE.nil
   go_simp
   refine hK.out _ _ hT0 ?_
   clear hK K
   try simp only [Act.put, PZ]
   refine wpAnyE_ready (rs := [7]) (by kernel_rfl) (by simp) ?_
   refine AllReadyE.cons rfl (fun K hK => ?_) AllReadyE.nil
   go_simp
   refine hK.out _ _ hT0 ?_
   clear hK K
   try simp only [Act.put, PZ]
   refine wpAnyE_ready (rs := [8]) (by kernel_rfl) (by simp) ?_
   refine AllReadyE.last rfl (fun K hK => ?_)
   refine wp_stE (by kernel_rfl) none rfl 58 (.tmp 36) (.tmp 34) rfl gK (k * 8 + 3) (by simp [Act.eval]) (.agg #[.int .i64 (S.K k).k, .int .i64 (S.K k).d, .int .i64 (S.K k).s, .int .i64 (S.K k).p, .string (S.K k).b]) rfl 5 rfl 60 _ hkK infoFrI (by omega) (by simp [Value.cells, Value.oneCell']) ?_
   intro X2 hP
   refine hK.out _ _ ?_
   clear hK K
   try simp only [Act.put, PZ]
   refine wpAnyE_done (by kernel_rfl) ?_ _
   replace hP : Put X1 X2 gK cur 60 := hP.cast (lay_self (by show k * 8 + 3 + 5 ≤ _; omega) (fun j hj => by
    have hj5 : j < 5 := hj
    have h8 := HcK.out (k * 8 + (3 + j)) (by omega)
    rw [pksV_get _ _ _ _ hlt (by omega)] at h8
    rw [Nat.add_assoc, h8]
    exact frAt (S.K k) j hj5))
   have HN : Hid (CpS w S P X2 ∧ P.nK = S.nK ∧ P.K = S.K) := ⟨HP.out.1.up (hP.same hkK), HP.out.2⟩
   clear hP kP hkK HP HaK HcK hsK hT0
   go_wp2_with fail
   go_roundw
   case rel => exact ⟨k + 1, by omega, by go_num, HN⟩
   case measure => simp [intOf]; omega
  ·
   obtain rfl : k = S.nK := by omega
   have HC : Hid (wr.heap[w.heap.size + 1 + 1]? = some (.cells P.cells 41 (0, 0))) := HP.out.1.x.c
   go_wp2_with (refine wpList_stA rfl 39 (.tmp 38) (.const (.slice none 0 0)) rfl (w.heap.size + 1 + 1) 14 rfl (.slice none 0 0) rfl 1 rfl 41 _ HC.out infoLs (Nat.le_of_ble_eq_true rfl) (by simp [Value.cells, Value.oneCell']) ?_)
   intro X0 hP
   obtain ⟨P1, eP1⟩ : ∃ P1, ({ P with aL := none, nL := 0, cL := 0 } : Swg) = P1 := ⟨_, rfl⟩
   replace hP : Put wr X0 (w.heap.size + 1 + 1) P1.cells 41 := hP.cast (by rw [← eP1]; rfl)
   have HP1 : Hid (CpSL w S P1 0 X0) := by
    have q := HP.out.1
    rw [← eP1] at hP ⊢
    exact ⟨⟨q.x.put hP, q.e.touchS hP.to (fun x hx hy => q.e.notT (by decide) q.x.c ((List.mem_singleton.1 hy) ▸ hx)), q.n.off2 q.x.c (by decide) (by decide) hP.to, q.k.touchS hP.to (fun x hx hy => q.k.notT (by decide) q.x.c ((List.mem_singleton.1 hy) ▸ hx))⟩, ⟨HA.out.c, HA.out.now, HA.out.nx, HA.out.nE, HA.out.e, HA.out.n, HA.out.nK, HA.out.k, HA.out.dr, HA.out.lst⟩, OwnLs.nil _ _ _, fun x hx hy => by simp at hy, rfl, fun i hi => absurd hi (Nat.not_lt_zero _)⟩
   clear hP HC HP eP1 HA HU
   have HU : Hid (RdLs w S.aL S.nL S.L) := HR.out.l
   obtain ⟨aL0, eU⟩ : ∃ a, S.aL = a := ⟨_, rfl⟩
   have c14 : X0.cell? ⟨w.heap.size, 14, none⟩ = some (.slice aL0 S.nL S.cL) := by rw [← eU]; exact blk_cell HP1.out.s.x.a 14
   rw [eU] at HU
   clear eU
   have hnl := HS.out.l
   go_wp2_with fail
   clear c14
   go_loopw [42] (fun i wr => ∃ (k : Nat) (P : Swg), k ≤ S.nL ∧ i = .int .i64 k ∧ Hid (CpSL w S P k wr)) (fun i _ => S.nL - (intOf i).toNat)
   case atStart => exact ⟨0, P1, Nat.zero_le _, rfl, HP1⟩
   case round =>
    clear HP1
    obtain ⟨k, P, hk, rfl, HP⟩ := hrel
    by_cases hlt : k < S.nL
    ·
     have hlt' : (k : Int) < S.nL := by omega
     obtain ⟨g0, o0, ea, hc⟩ := (HU.out.up HP.out.s.x.bel) k hlt
     have HP0 : Hid (∀ x ∈ blkO P.aL, x < wr.heap.size) := fun x hx => (HP.out.l.l.blk x hx).2
     subst ea
     have HCk : Hid (∀ j, j < 8 → wr.cell? ⟨g0, o0 + k * 8 + j, none⟩ = (S.L k).cells[j]?) := hc
     clear hc
     have HG : Hid ((wr.alloc (.cells #[.bool false, .slice none 0 0, .slice none 0 0, .slice none 0 0, .slice none 0 0, .int .i64 0, .bool false, .slice none 0 0] 67)).heap[wr.heap.size]? = some (.cells #[.bool false, .slice none 0 0, .slice none 0 0, .slice none 0 0, .slice none 0 0, .int .i64 0, .bool false, .slice none 0 0] 67 (0, 0))) := blk_new _ _
     go_wp2_with (first | refine wpList_ldT rfl 67 8 _ Tryz.underlying67 rfl infoLgI (.tmp 44) rfl g0 (o0 + k * 8) rfl (S.L k).cells rfl HCk.out ?_ | refine wpList_stA rfl 67 (.tmp 7) (.tmp 45) rfl wr.heap.size 0 rfl (.agg (S.L k).cells) rfl 8 rfl 67 _ HG.out infoLgI (Nat.le_of_ble_eq_true rfl) (Lng.oneC _) ?_)
     intro X0 hP
     replace hP : Put _ X0 wr.heap.size (S.L k).cells 67 := hP.cast rfl
     have hb : Below wr.heap.size wr X0 := ((Below.refl _ _).alloc (Nat.le_refl _) _).trans (hP.to.below (by simp) (fun x hx => by simp at hx; omega))
     have kL := hP.blk
     replace HP : Hid (CpSL w S P k X0) := HP.out.up hb
     have HPl : Hid (∀ x ∈ blkO P.aL, x < wr.heap.size) := fun x hx => (HP0.out x hx)
     clear hP hb HG HCk HP0
     obtain ⟨gL, egL⟩ : ∃ g, wr.heap.size = g := ⟨_, rfl⟩
     rw [egL] at kL HPl ⊢
     clear egL
     go_wp2_with fail
     refine wp_region_E (fun w' => w'.heap[w.heap.size + 1 + 1]? = some (.cells P.cells 41 (0, 0)) ∧ w'.heap[gL]? = some (.cells (S.L k).cells 67 (0, 0))) 7 (by kernel_rfl) ?_
     have hd : Below X0.heap.size X0 X0.drew := (Below.refl _ _).drew
     replace HP : Hid (CpSL w S P k X0.drew) := HP.out.up hd
     replace kL := (hd.block _ (blk_lt kL)).trans kL
     clear hd
     generalize X0.drew = V at *
     have hT0 : V.heap[w.heap.size + 1 + 1]? = some (.cells P.cells 41 (0, 0)) ∧ V.heap[gL]? = some (.cells (S.L k).cells 67 (0, 0)) := ⟨HP.out.s.x.c, kL⟩
     refine takeE (i := 0) (some 46) (v := ?_) ?_ hT0 ?_
     rotate_left
     ·
      intro wx hSw
      go_simp
      try (with_reducible rfl)
     try simp only [Act.put, PZ]
     refine takeE (i := 1) (some 47) (v := ?_) ?_ hT0 ?_
     rotate_left
     ·
      intro wx hSw
      have c14 : wx.cell? ⟨w.heap.size + 1 + 1, 14, none⟩ = some (.slice P.aL k P.cL) := by rw [blk_cell hSw.1 14, ← HP.out.nL]; rfl
      go_simp
      try (with_reducible rfl)
     try simp only [Act.put, PZ]
     refine takeE (i := 2) (some 48) (v := .agg (S.L k).cells) ?_ hT0 ?_
     ·
      intro wx hSw
      exact run_ldT 67 8 _ Tryz.underlying67 rfl infoLgI (.tmp 7) rfl gL 0 rfl _ rfl (fun j _ => by rw [Nat.zero_add]; exact blk_cell hSw.2 j)
     try simp only [Act.put, PZ]
     refine wpAnyE_ready (rs := [3]) (by kernel_rfl) (by simp) ?_
     refine AllReadyE.cons rfl (fun K hK => ?_) AllReadyE.nil
     go_simp
     refine (copyLane_any (S.L k) _ (HS.out.ls k hlt) ((HR.out.ls k hlt).up HP.out.s.x.bel)).mono ?_
     rintro e X1 ⟨l2, rfl, al2, ol2, hb⟩
     have HA1 : Hid (AlikeL (S.L k) l2 ∧ OwnLz X1 V.heap.size l2 ∧ Below V.heap.size V X1) := ⟨al2, ol2, hb⟩
     have Q1 := HP.out.up hb
     have hu0 : OG 67 8 X1 w.heap.size P.aL k P.cL (lnsV k P.L) := by have := Q1.l.l; rw [HP.out.nL] at this; exact this
     obtain ⟨g1, c3, X3, hr, hu, ht, hg⟩ := appendOG 39 67 _ 8 144 infoLgZ Tryz.underlying39 rfl (by decide) (by decide) hu0 (by omega) (Nat.le_trans HP.out.s.x.bel.size hb.size) l2.cells rfl (Lng.oneC _)
     have LN : l2.cells = #[.bool l2.st, .slice l2.aT l2.nT l2.cT, .slice l2.aU l2.nU l2.cU, .slice l2.R.aQ l2.R.nQ l2.R.cQ, .slice l2.R.aD l2.R.nD l2.R.cD, .int .i64 l2.R.turn, .bool l2.R.fresh, .slice l2.R.aS l2.R.nS l2.R.cS] := rfl
     rw [LN] at hr ⊢
     have kL1 := (hb.block _ (blk_lt kL)).trans kL
     have hT1 : X1.heap[w.heap.size + 1 + 1]? = some (.cells P.cells 41 (0, 0)) ∧ X1.heap[gL]? = some (.cells (S.L k).cells 67 (0, 0)) := ⟨Q1.s.x.c, kL1⟩
     have hT2 : (X1.alloc (.cells #[.bool l2.st, .slice l2.aT l2.nT l2.cT, .slice l2.aU l2.nU l2.cU, .slice l2.R.aQ l2.R.nQ l2.R.cQ, .slice l2.R.aD l2.R.nD l2.R.cD, .int .i64 l2.R.turn, .bool l2.R.fresh, .slice l2.R.aS l2.R.nS l2.R.cS] 67)).heap[w.heap.size + 1 + 1]? = some (.cells P.cells 41 (0, 0)) ∧ (X1.alloc (.cells #[.bool l2.st, .slice l2.aT l2.nT l2.cT, .slice l2.aU l2.nU l2.cU, .slice l2.R.aQ l2.R.nQ l2.R.cQ, .slice l2.R.aD l2.R.nD l2.R.cD, .int .i64 l2.R.turn, .bool l2.R.fresh, .slice l2.R.aS l2.R.nS l2.R.cS] 67)).heap[gL]? = some (.cells (S.L k).cells 67 (0, 0)) := ⟨(blk_old _ (blk_lt hT1.1)).trans hT1.1, (blk_old _ (blk_lt hT1.2)).trans hT1.2⟩
     have hnL : gL ∉ blkO P.aL := fun hx => by have := (HPl.out gL hx); omega
     have hT3 : X3.heap[w.heap.size + 1 + 1]? = some (.cells P.cells 41 (0, 0)) ∧ X3.heap[gL]? = some (.cells (S.L k).cells 67 (0, 0)) := ⟨(ht.block _ (blk_lt hT1.1) (hu0.notT (by decide) hT1.1)).trans hT1.1, (ht.block _ (blk_lt hT1.2) hnL).trans hT1.2⟩
     have HN3 : Hid (OG 67 8 X3 w.heap.size (some ⟨g1, 0, none⟩) (k + 1) c3 (lnsV k P.L ++ l2.cells.toList) ∧ Touch (blkO P.aL) X1 X3) := ⟨hu, ht⟩
     have HR3 : Hid ((Builtin.append_ #[39, 39] 39 #[.slice P.aL k P.cL, .slice (some ⟨X1.heap.size, 0, none⟩) 1 1]).run Tryz.prog (X1.alloc (.cells #[.bool l2.st, .slice l2.aT l2.nT l2.cT, .slice l2.aU l2.nU l2.cU, .slice l2.R.aQ l2.R.nQ l2.R.cQ, .slice l2.R.aD l2.R.nD l2.R.cD, .int .i64 l2.R.turn, .bool l2.R.fresh, .slice l2.R.aS l2.R.nS l2.R.cS] 67)) = .ok (.slice (some ⟨g1, 0, none⟩) (k + 1) c3) X3) := hr
     clear al2 ol2 hb Q1 hu0 hr hu ht hg hT0 kL1 hnL kL LN
     go_wp2_with fail
     refine hK.out _ _ hT1 ?_
     clear hK K
     try simp only [Act.put, PZ]
     refine wpAnyE_ready (rs := [4]) (by kernel_rfl) (by simp) ?_
     refine AllReadyE.cons rfl (fun K hK => ?_) AllReadyE.nil
     go_simp
     refine hK.out _ _ hT2 ?_
     clear hK K
     try simp only [Act.put, PZ]
     refine wpAnyE_ready (rs := [5]) (by kernel_rfl) (by simp) ?_
     refine AllReadyE.cons rfl (fun K hK => ?_) AllReadyE.nil
     refine wp_appE (by kernel_rfl) (some 51) rfl (.tmp 47) (.tmp 50) 39 _ _ _ rfl rfl rfl rfl HR3.out ?_
     refine hK.out _ _ hT3 ?_
     clear hK K hT2 HR3 hT1
     try simp only [Act.put, PZ]
     have hT0 := hT3
     refine takeE (i := 6) (some 52) (v := ?_) ?_ hT0 ?_
     rotate_left
     ·
      intro wx hSw
      go_simp
      try (with_reducible rfl)
     try simp only [Act.put, PZ]
     refine wpAnyE_ready (rs := [7]) (by kernel_rfl) (by simp) ?_
     refine AllReadyE.last rfl (fun K hK => ?_)
     refine wp_stE (by kernel_rfl) none rfl 39 (.tmp 52) (.tmp 51) rfl (w.heap.size + 1 + 1) 14 rfl (.slice (some ⟨g1, 0, none⟩) (k + 1) c3) rfl 1 rfl 41 _ hT3.1 infoLs (Nat.le_of_ble_eq_true rfl) (by simp [Value.cells, Value.oneCell']) ?_
     intro X4 hP
     refine hK.out _ _ ?_
     clear hK K
     try simp only [Act.put, PZ]
     refine wpAnyE_done (by kernel_rfl) ?_ _
     have HN : Hid (CpSL w S (P.more k (some ⟨g1, 0, none⟩) c3 l2) (k + 1) X4) := HP.out.more HA1.out.2.2 HA1.out.2.1 HA1.out.1 HN3.out.1 HN3.out.2 hP
     clear hP hT0 hT3 HN3 HA1 HP HPl
     go_wp2_with fail
     go_roundw
     case rel => exact ⟨k + 1, _, by omega, by go_num, HN⟩
     case measure => simp [intOf]; omega
    ·
     obtain rfl : k = S.nL := by omega
     have HL : Hid (∀ j, j < 17 → wr.cell? ⟨w.heap.size + 1 + 1, 0 + j, none⟩ = P.cells[j]?) := fun j _ => by rw [Nat.zero_add]; exact blk_cell HP.out.s.x.c j
     have HD : Hid (wr.heap[w.heap.size + 1]? = some (.cells zSw 41 (0, 0))) := HP.out.s.x.b
     go_wp2_with (first | refine wpList_ldT rfl 41 17 _ Tryz.underlying41 rfl infoSgI (.tmp 3) rfl (w.heap.size + 1 + 1) 0 rfl P.cells rfl HL.out ?_ | refine wpList_stA rfl 41 (.tmp 2) (.tmp 54) rfl (w.heap.size + 1) 0 rfl (.agg P.cells) rfl 17 rfl 41 _ HD.out infoSgI (Nat.le_of_ble_eq_true rfl) (Swg.oneC _) ?_)
     intro X hP
     replace hP : Put wr X (w.heap.size + 1) P.cells 41 := hP.cast rfl
     have HK : Hid (X.heap[w.heap.size + 1]? = some (.cells P.cells 41 (0, 0))) := hP.blk
     have HF : Hid (AlikeG S P ∧ OwnSz X w.heap.size P ∧ Below w.heap.size w X) := ⟨HP.out.alike rfl, HP.out.own.off HD.out hP.to, (HP.out.s.x.out hP).bel⟩
     clear hP HL HD HP
     go_wp2_with fail
     exact bodyPost_ret (res_cellT Tryz.results43 17 _ Tryz.underlying41 rfl infoSgI _ _ (w.heap.size + 1) P.cells rfl 41 HK.out rfl) rfl ⟨P, rfl, HF.out.1, HF.out.2.1, HF.out.2.2⟩
set_option maxRecDepth 100000 in
set_option maxHeartbeats 4000000 in
theorem l6Copy_any (S : Swg) (w : World) (hs : S.Small) (hU : 0 < S.N.nU) (hPp : 0 < S.N.nP) (h : RdSg w S) :
  Calls Tryz.prog 82 #[.agg S.cells] w fun e w' => ∃ S2, e = .returned (.agg S2.cells) ∧ AlikeG S S2 ∧ OwnSz w' w.heap.size S2 ∧ Below w.heap.size w w' := by
 have HR : Hid (RdSg w S) := h
 have HS : Hid S.Small := hs
 have HU0 : Hid (0 < S.N.nU ∧ 0 < S.N.nP) := ⟨hU, hPp⟩
 clear h hs hU hPp
 obtain ⟨W0, eW⟩ : ∃ W, (((w.alloc (.cells S.cells 41)).alloc (.cells #[.int .i64 0, .int .i64 0, .int .i64 0, .int .i64 0, .int .i64 0, .int .i64 0, .int .i64 0, .int .i64 0, .int .i64 0, .slice none 0 0, .slice none 0 0, .int .i64 0, .slice none 0 0, .slice none 0 0, .slice none 0 0, .int .i64 0, .int .i64 0] 41)).alloc (.cells #[.int .i64 0, .int .i64 0, .int .i64 0, .int .i64 0, .int .i64 0, .int .i64 0, .int .i64 0, .int .i64 0, .int .i64 0, .slice none 0 0, .slice none 0 0, .int .i64 0, .slice none 0 0, .slice none 0 0, .slice none 0 0, .int .i64 0, .int .i64 0] 41)) = W := ⟨_, rfl⟩
 have HX : Hid (Boxes w S.cells #[.int .i64 0, .int .i64 0, .int .i64 0, .int .i64 0, .int .i64 0, .int .i64 0, .int .i64 0, .int .i64 0, .int .i64 0, .slice none 0 0, .slice none 0 0, .int .i64 0, .slice none 0 0, .slice none 0 0, .slice none 0 0, .int .i64 0, .int .i64 0] #[.int .i64 0, .int .i64 0, .int .i64 0, .int .i64 0, .int .i64 0, .int .i64 0, .int .i64 0, .int .i64 0, .int .i64 0, .slice none 0 0, .slice none 0 0, .int .i64 0, .slice none 0 0, .slice none 0 0, .slice none 0 0, .int .i64 0, .int .i64 0] 41 41 W0) := by rw [← eW]; exact Boxes.start _ _ _ _ _ _
 have HL0 : Hid (∀ j, j < 17 → ((w.alloc (.cells S.cells 41)).alloc (.cells #[.int .i64 0, .int .i64 0, .int .i64 0, .int .i64 0, .int .i64 0, .int .i64 0, .int .i64 0, .int .i64 0, .int .i64 0, .slice none 0 0, .slice none 0 0, .int .i64 0, .slice none 0 0, .slice none 0 0, .slice none 0 0, .int .i64 0, .int .i64 0] 41)).cell? ⟨w.heap.size, 0 + j, none⟩ = S.cells[j]?) := fun j _ => by rw [Nat.zero_add]; exact blk_cell (Two.start w S.cells #[.int .i64 0, .int .i64 0, .int .i64 0, .int .i64 0, .int .i64 0, .int .i64 0, .int .i64 0, .int .i64 0, .int .i64 0, .slice none 0 0, .slice none 0 0, .int .i64 0, .slice none 0 0, .slice none 0 0, .slice none 0 0, .int .i64 0, .int .i64 0] 41).a j
 have HC : Hid (W0.heap[w.heap.size + 1 + 1]? = some (.cells #[.int .i64 0, .int .i64 0, .int .i64 0, .int .i64 0, .int .i64 0, .int .i64 0, .int .i64 0, .int .i64 0, .int .i64 0, .slice none 0 0, .slice none 0 0, .int .i64 0, .slice none 0 0, .slice none 0 0, .slice none 0 0, .int .i64 0, .int .i64 0] 41 (0, 0))) := HX.out.c
 go_enter Tryz.func82, Tryz.ntmps82
 go_wp2_with (first | refine wpList_ldT rfl 41 17 _ Tryz.underlying41 rfl infoSgI (.tmp 1) rfl w.heap.size 0 rfl S.cells rfl HL0.out ?_ | refine wpList_stA rfl 41 (.tmp 3) (.tmp 5) rfl (w.heap.size + 1 + 1) 0 rfl (.agg S.cells) rfl 17 rfl 41 _ HC.out infoSgI (Nat.le_of_ble_eq_true rfl) (Swg.oneC _) ?_)
 clear HL0
 intro W1 hP
 clear eW
 replace hP := hP.cast (cs' := #[.int .i64 S.C.p, .int .i64 S.C.c, .int .i64 S.C.xo, .int .i64 S.C.xn, .int .i64 S.C.hd, .int .i64 S.C.lo, .int .i64 S.C.dl, .int .i64 S.now, .int .i64 S.nx, .slice S.aE S.nE S.cE, .slice S.N.aU S.N.nU S.N.cU, .int .i64 S.N.lo, .slice S.N.aP S.N.nP S.N.cP, .slice S.aK S.nK S.cK, .slice S.aL S.nL S.cL, .int .i64 S.dr, .int .i64 S.lst]) rfl
 replace HX : Hid (Boxes w S.cells #[.int .i64 0, .int .i64 0, .int .i64 0, .int .i64 0, .int .i64 0, .int .i64 0, .int .i64 0, .int .i64 0, .int .i64 0, .slice none 0 0, .slice none 0 0, .int .i64 0, .slice none 0 0, .slice none 0 0, .slice none 0 0, .int .i64 0, .int .i64 0] #[.int .i64 S.C.p, .int .i64 S.C.c, .int .i64 S.C.xo, .int .i64 S.C.xn, .int .i64 S.C.hd, .int .i64 S.C.lo, .int .i64 S.C.dl, .int .i64 S.now, .int .i64 S.nx, .slice S.aE S.nE S.cE, .slice S.N.aU S.N.nU S.N.cU, .int .i64 S.N.lo, .slice S.N.aP S.N.nP S.N.cP, .slice S.aK S.nK S.cK, .slice S.aL S.nL S.cL, .int .i64 S.dr, .int .i64 S.lst] 41 41 W1) := HX.out.put hP
 have T1 : Touch [w.heap.size + 1, w.heap.size + 1 + 1] W0 W1 := hP.to.mono (fun x hx => by simp at hx; simp [hx])
 clear hP HC 
 obtain ⟨aE, cE, we, hr, rE, hb⟩ := appendRowNew (V := W1) (c := S.cE) 36 56 _ 3 24 infoEnZ Tryz.underlying36 rfl (by decide) (by decide) HS.out.e (by rw [flatE_len, entsL_len]) ((HR.out.e.up HX.out.bel).cs) (flatE_one _)
 have srE := HX.out.sz
 have c9 : (W1.alloc (.cells #[] 56)).cell? ⟨w.heap.size, 9, none⟩ = some (.slice S.aE S.nE S.cE) := (blk_cell ((blk_old _ (blk_lt HX.out.a)).trans HX.out.a) 9)
 replace HX : Hid (Boxes w S.cells #[.int .i64 0, .int .i64 0, .int .i64 0, .int .i64 0, .int .i64 0, .int .i64 0, .int .i64 0, .int .i64 0, .int .i64 0, .slice none 0 0, .slice none 0 0, .int .i64 0, .slice none 0 0, .slice none 0 0, .slice none 0 0, .int .i64 0, .int .i64 0] #[.int .i64 S.C.p, .int .i64 S.C.c, .int .i64 S.C.xo, .int .i64 S.C.xn, .int .i64 S.C.hd, .int .i64 S.C.lo, .int .i64 S.C.dl, .int .i64 S.now, .int .i64 S.nx, .slice S.aE S.nE S.cE, .slice S.N.aU S.N.nU S.N.cU, .int .i64 S.N.lo, .slice S.N.aP S.N.nP S.N.cP, .slice S.aK S.nK S.cK, .slice S.aL S.nL S.cL, .int .i64 S.dr, .int .i64 S.lst] 41 41 we) := HX.out.up hb
 have T2 : Touch [w.heap.size + 1, w.heap.size + 1 + 1] W1 we := Touch.ofBelow hb
 clear hb
 have HC := HX.out.c
 replace HC : Hid (we.heap[w.heap.size + 1 + 1]? = some (.cells #[.int .i64 S.C.p, .int .i64 S.C.c, .int .i64 S.C.xo, .int .i64 S.C.xn, .int .i64 S.C.hd, .int .i64 S.C.lo, .int .i64 S.C.dl, .int .i64 S.now, .int .i64 S.nx, .slice S.aE S.nE S.cE, .slice S.N.aU S.N.nU S.N.cU, .int .i64 S.N.lo, .slice S.N.aP S.N.nP S.N.cP, .slice S.aK S.nK S.cK, .slice S.aL S.nL S.cL, .int .i64 S.dr, .int .i64 S.lst] 41 (0, 0))) := HC
 have HRn : Hid ((Builtin.append_ #[36, 36] 36 #[.slice (some ⟨W1.heap.size, 0, none⟩) 0 0, .slice S.aE S.nE S.cE]).run Tryz.prog (W1.alloc (.cells #[] 56)) = .ok (.slice aE S.nE cE) we) := hr
 clear hr
 go_wp2_with (first | (at_builtin; refine Lib.wpList_append_run _ rfl _ _ _ _ rfl _ _ rfl rfl _ _ HRn.out ?_) | refine wpList_stA rfl 36 (.tmp 10) (.tmp 9) rfl (w.heap.size + 1 + 1) 9 rfl (.slice aE S.nE cE) rfl 1 rfl 41 _ HC.out infoEs (Nat.le_of_ble_eq_true rfl) (by simp [Value.cells, Value.oneCell', Rnd.cells, Cfg.cells, Cnt.cells]) ?_)
 clear HRn c9
 intro W3 hP
 replace hP := hP.cast (cs' := #[.int .i64 S.C.p, .int .i64 S.C.c, .int .i64 S.C.xo, .int .i64 S.C.xn, .int .i64 S.C.hd, .int .i64 S.C.lo, .int .i64 S.C.dl, .int .i64 S.now, .int .i64 S.nx, .slice aE S.nE cE, .slice S.N.aU S.N.nU S.N.cU, .int .i64 S.N.lo, .slice S.N.aP S.N.nP S.N.cP, .slice S.aK S.nK S.cK, .slice S.aL S.nL S.cL, .int .i64 S.dr, .int .i64 S.lst]) rfl
 replace HX : Hid (Boxes w S.cells #[.int .i64 0, .int .i64 0, .int .i64 0, .int .i64 0, .int .i64 0, .int .i64 0, .int .i64 0, .int .i64 0, .int .i64 0, .slice none 0 0, .slice none 0 0, .int .i64 0, .slice none 0 0, .slice none 0 0, .slice none 0 0, .int .i64 0, .int .i64 0] #[.int .i64 S.C.p, .int .i64 S.C.c, .int .i64 S.C.xo, .int .i64 S.C.xn, .int .i64 S.C.hd, .int .i64 S.C.lo, .int .i64 S.C.dl, .int .i64 S.now, .int .i64 S.nx, .slice aE S.nE cE, .slice S.N.aU S.N.nU S.N.cU, .int .i64 S.N.lo, .slice S.N.aP S.N.nP S.N.cP, .slice S.aK S.nK S.cK, .slice S.aL S.nL S.cL, .int .i64 S.dr, .int .i64 S.lst] 41 41 W3) := HX.out.put hP
 have T3 : Touch [w.heap.size + 1, w.heap.size + 1 + 1] we W3 := hP.to.mono (fun x hx => by simp at hx; simp [hx])
 clear hP HC 
 have c10 : W3.cell? ⟨w.heap.size, 10, none⟩ = some (.slice S.N.aU S.N.nU S.N.cU) := blk_cell HX.out.a 10
 have c11 : W3.cell? ⟨w.heap.size, 11, none⟩ = some (.int .i64 S.N.lo) := blk_cell HX.out.a 11
 have c12 : W3.cell? ⟨w.heap.size, 12, none⟩ = some (.slice S.N.aP S.N.nP S.N.cP) := blk_cell HX.out.a 12
 go_wp2_with fail
 refine (l5Copy_any S.N _ HU0.out.1 HU0.out.2 HS.out.n (HR.out.n.up HX.out.bel)).mono ?_
 rintro e wn ⟨M, rfl, rN, hb, aN⟩
 clear c10 c11 c12
 have sN := HX.out.sz
 replace HX : Hid (Boxes w S.cells #[.int .i64 0, .int .i64 0, .int .i64 0, .int .i64 0, .int .i64 0, .int .i64 0, .int .i64 0, .int .i64 0, .int .i64 0, .slice none 0 0, .slice none 0 0, .int .i64 0, .slice none 0 0, .slice none 0 0, .slice none 0 0, .int .i64 0, .int .i64 0] #[.int .i64 S.C.p, .int .i64 S.C.c, .int .i64 S.C.xo, .int .i64 S.C.xn, .int .i64 S.C.hd, .int .i64 S.C.lo, .int .i64 S.C.dl, .int .i64 S.now, .int .i64 S.nx, .slice aE S.nE cE, .slice S.N.aU S.N.nU S.N.cU, .int .i64 S.N.lo, .slice S.N.aP S.N.nP S.N.cP, .slice S.aK S.nK S.cK, .slice S.aL S.nL S.cL, .int .i64 S.dr, .int .i64 S.lst] 41 41 wn) := HX.out.up hb
 have T4 : Touch [w.heap.size + 1, w.heap.size + 1 + 1] W3 wn := Touch.ofBelow hb
 clear hb
 have HC := HX.out.c
 replace HC : Hid (wn.heap[w.heap.size + 1 + 1]? = some (.cells #[.int .i64 S.C.p, .int .i64 S.C.c, .int .i64 S.C.xo, .int .i64 S.C.xn, .int .i64 S.C.hd, .int .i64 S.C.lo, .int .i64 S.C.dl, .int .i64 S.now, .int .i64 S.nx, .slice aE S.nE cE, .slice S.N.aU S.N.nU S.N.cU, .int .i64 S.N.lo, .slice S.N.aP S.N.nP S.N.cP, .slice S.aK S.nK S.cK, .slice S.aL S.nL S.cL, .int .i64 S.dr, .int .i64 S.lst] 41 (0, 0))) := HC
 go_wp2_with (refine wpList_stA rfl 37 (.tmp 14) (.tmp 13) rfl (w.heap.size + 1 + 1) 10 rfl (.agg M.cells) rfl 3 rfl 41 _ HC.out infoCn (Nat.le_of_ble_eq_true rfl) (by simp [Value.cells, Value.oneCell', Rnd.cells, Cfg.cells, Cnt.cells]) ?_)
 intro W5 hP
 replace hP := hP.cast (cs' := #[.int .i64 S.C.p, .int .i64 S.C.c, .int .i64 S.C.xo, .int .i64 S.C.xn, .int .i64 S.C.hd, .int .i64 S.C.lo, .int .i64 S.C.dl, .int .i64 S.now, .int .i64 S.nx, .slice aE S.nE cE, .slice M.aU M.nU M.cU, .int .i64 M.lo, .slice M.aP M.nP M.cP, .slice S.aK S.nK S.cK, .slice S.aL S.nL S.cL, .int .i64 S.dr, .int .i64 S.lst]) rfl
 replace HX : Hid (Boxes w S.cells #[.int .i64 0, .int .i64 0, .int .i64 0, .int .i64 0, .int .i64 0, .int .i64 0, .int .i64 0, .int .i64 0, .int .i64 0, .slice none 0 0, .slice none 0 0, .int .i64 0, .slice none 0 0, .slice none 0 0, .slice none 0 0, .int .i64 0, .int .i64 0] #[.int .i64 S.C.p, .int .i64 S.C.c, .int .i64 S.C.xo, .int .i64 S.C.xn, .int .i64 S.C.hd, .int .i64 S.C.lo, .int .i64 S.C.dl, .int .i64 S.now, .int .i64 S.nx, .slice aE S.nE cE, .slice M.aU M.nU M.cU, .int .i64 M.lo, .slice M.aP M.nP M.cP, .slice S.aK S.nK S.cK, .slice S.aL S.nL S.cL, .int .i64 S.dr, .int .i64 S.lst] 41 41 W5) := HX.out.put hP
 have T5 : Touch [w.heap.size + 1, w.heap.size + 1 + 1] wn W5 := hP.to.mono (fun x hx => by simp at hx; simp [hx])
 clear hP HC 
 obtain ⟨aK, cK, wk, hr, rK, hb⟩ := appendRowNew (V := W5) (c := S.cK) 38 60 _ 8 72 infoPkZ Tryz.underlying38 rfl (by decide) (by decide) HS.out.k (pksV_len _ _) ((HR.out.k.up HX.out.bel).cs) (pksV_one _ _)
 have srK := HX.out.sz
 have c13 : (W5.alloc (.cells #[] 60)).cell? ⟨w.heap.size, 13, none⟩ = some (.slice S.aK S.nK S.cK) := (blk_cell ((blk_old _ (blk_lt HX.out.a)).trans HX.out.a) 13)
 replace HX : Hid (Boxes w S.cells #[.int .i64 0, .int .i64 0, .int .i64 0, .int .i64 0, .int .i64 0, .int .i64 0, .int .i64 0, .int .i64 0, .int .i64 0, .slice none 0 0, .slice none 0 0, .int .i64 0, .slice none 0 0, .slice none 0 0, .slice none 0 0, .int .i64 0, .int .i64 0] #[.int .i64 S.C.p, .int .i64 S.C.c, .int .i64 S.C.xo, .int .i64 S.C.xn, .int .i64 S.C.hd, .int .i64 S.C.lo, .int .i64 S.C.dl, .int .i64 S.now, .int .i64 S.nx, .slice aE S.nE cE, .slice M.aU M.nU M.cU, .int .i64 M.lo, .slice M.aP M.nP M.cP, .slice S.aK S.nK S.cK, .slice S.aL S.nL S.cL, .int .i64 S.dr, .int .i64 S.lst] 41 41 wk) := HX.out.up hb
 have T6 : Touch [w.heap.size + 1, w.heap.size + 1 + 1] W5 wk := Touch.ofBelow hb
 clear hb
 have HC := HX.out.c
 replace HC : Hid (wk.heap[w.heap.size + 1 + 1]? = some (.cells #[.int .i64 S.C.p, .int .i64 S.C.c, .int .i64 S.C.xo, .int .i64 S.C.xn, .int .i64 S.C.hd, .int .i64 S.C.lo, .int .i64 S.C.dl, .int .i64 S.now, .int .i64 S.nx, .slice aE S.nE cE, .slice M.aU M.nU M.cU, .int .i64 M.lo, .slice M.aP M.nP M.cP, .slice S.aK S.nK S.cK, .slice S.aL S.nL S.cL, .int .i64 S.dr, .int .i64 S.lst] 41 (0, 0))) := HC
 have HRn : Hid ((Builtin.append_ #[38, 38] 38 #[.slice (some ⟨W5.heap.size, 0, none⟩) 0 0, .slice S.aK S.nK S.cK]).run Tryz.prog (W5.alloc (.cells #[] 60)) = .ok (.slice aK S.nK cK) wk) := hr
 clear hr
 go_wp2_with (first | (at_builtin; refine Lib.wpList_append_run _ rfl _ _ _ _ rfl _ _ rfl rfl _ _ HRn.out ?_) | refine wpList_stA rfl 38 (.tmp 19) (.tmp 18) rfl (w.heap.size + 1 + 1) 13 rfl (.slice aK S.nK cK) rfl 1 rfl 41 _ HC.out infoKs (Nat.le_of_ble_eq_true rfl) (by simp [Value.cells, Value.oneCell', Rnd.cells, Cfg.cells, Cnt.cells]) ?_)
 clear HRn c13
 intro W7 hP
 replace hP := hP.cast (cs' := #[.int .i64 S.C.p, .int .i64 S.C.c, .int .i64 S.C.xo, .int .i64 S.C.xn, .int .i64 S.C.hd, .int .i64 S.C.lo, .int .i64 S.C.dl, .int .i64 S.now, .int .i64 S.nx, .slice aE S.nE cE, .slice M.aU M.nU M.cU, .int .i64 M.lo, .slice M.aP M.nP M.cP, .slice aK S.nK cK, .slice S.aL S.nL S.cL, .int .i64 S.dr, .int .i64 S.lst]) rfl
 replace HX : Hid (Boxes w S.cells #[.int .i64 0, .int .i64 0, .int .i64 0, .int .i64 0, .int .i64 0, .int .i64 0, .int .i64 0, .int .i64 0, .int .i64 0, .slice none 0 0, .slice none 0 0, .int .i64 0, .slice none 0 0, .slice none 0 0, .slice none 0 0, .int .i64 0, .int .i64 0] #[.int .i64 S.C.p, .int .i64 S.C.c, .int .i64 S.C.xo, .int .i64 S.C.xn, .int .i64 S.C.hd, .int .i64 S.C.lo, .int .i64 S.C.dl, .int .i64 S.now, .int .i64 S.nx, .slice aE S.nE cE, .slice M.aU M.nU M.cU, .int .i64 M.lo, .slice M.aP M.nP M.cP, .slice aK S.nK cK, .slice S.aL S.nL S.cL, .int .i64 S.dr, .int .i64 S.lst] 41 41 W7) := HX.out.put hP
 have T7 : Touch [w.heap.size + 1, w.heap.size + 1 + 1] wk W7 := hP.to.mono (fun x hx => by simp at hx; simp [hx])
 clear hP HC 
 obtain ⟨P, eP⟩ : ∃ P, (⟨S.C, S.now, S.nx, aE, S.nE, cE, S.e, M, aK, S.nK, cK, S.K, S.aL, S.nL, S.cL, S.L, S.dr, S.lst⟩ : Swg) = P := ⟨_, rfl⟩
 have e3 : #[.int .i64 S.C.p, .int .i64 S.C.c, .int .i64 S.C.xo, .int .i64 S.C.xn, .int .i64 S.C.hd, .int .i64 S.C.lo, .int .i64 S.C.dl, .int .i64 S.now, .int .i64 S.nx, .slice aE S.nE cE, .slice M.aU M.nU M.cU, .int .i64 M.lo, .slice M.aP M.nP M.cP, .slice aK S.nK cK, .slice S.aL S.nL S.cL, .int .i64 S.dr, .int .i64 S.lst] = P.cells := by rw [← eP]; rfl
 rw [e3] at HX
 clear e3
 have hlow : ∀ x ∈ [w.heap.size + 1, w.heap.size + 1 + 1], x < w.heap.size + 1 + 1 + 1 := by intro x hx; simp at hx; omega
 have HA : Hid (CpA S P) := by rw [← eP]; exact ⟨rfl, rfl, rfl, rfl, rfl, aN, rfl, rfl, rfl, rfl⟩
 have HP : Hid (CpS w S P W7) := by
  rw [← eP] at HX ⊢
  exact ⟨HX.out, OG.mono (rE.low ((((T3.trans T4).trans T5).trans T6).trans T7) (fun x hx => by have := hlow x hx; omega)) (by omega), OwnCn.mono (rN.touch ((T5.trans T6).trans T7) (fun x hx => by have := hlow x hx; omega)) (by omega), OG.mono (rK.low T7 (fun x hx => by have := hlow x hx; omega)) (by omega)⟩
 clear HX eP rE rN rK aN srE sN srK hlow T1 T2 T3 T4 T5 T6 T7
 have HC : Hid (W7.heap[w.heap.size + 1 + 1]? = some (.cells P.cells 41 (0, 0))) := HP.out.x.c
 go_wp2_with (refine wpList_stA rfl 39 (.tmp 20) (.const (.slice none 0 0)) rfl (w.heap.size + 1 + 1) 14 rfl (.slice none 0 0) rfl 1 rfl 41 _ HC.out infoLs (Nat.le_of_ble_eq_true rfl) (by simp [Value.cells, Value.oneCell']) ?_)
 intro Y0 hP
 obtain ⟨P1, eP1⟩ : ∃ P1, ({ P with aL := none, nL := 0, cL := 0 } : Swg) = P1 := ⟨_, rfl⟩
 replace hP : Put W7 Y0 (w.heap.size + 1 + 1) P1.cells 41 := hP.cast (by rw [← eP1]; rfl)
 have HP1 : Hid (CpSL w S P1 0 Y0) := by
  have q := HP.out
  rw [← eP1] at hP ⊢
  exact ⟨⟨q.x.put hP, q.e.touchS hP.to (fun x hx hy => q.e.notT (by decide) q.x.c ((List.mem_singleton.1 hy) ▸ hx)), q.n.off2 q.x.c (by decide) (by decide) hP.to, q.k.touchS hP.to (fun x hx hy => q.k.notT (by decide) q.x.c ((List.mem_singleton.1 hy) ▸ hx))⟩, ⟨HA.out.c, HA.out.now, HA.out.nx, HA.out.nE, HA.out.e, HA.out.n, HA.out.nK, HA.out.k, HA.out.dr, HA.out.lst⟩, OwnLs.nil _ _ _, fun x hx hy => by simp at hy, rfl, fun i hi => absurd hi (Nat.not_lt_zero _)⟩
 clear hP HC HP eP1 HA
 have HU : Hid (RdLs w S.aL S.nL S.L) := HR.out.l
 obtain ⟨aL0, eU⟩ : ∃ a, S.aL = a := ⟨_, rfl⟩
 have HAL : Hid (S.aL = aL0) := eU
 rw [eU] at HU
 clear eU
 have hnl := HS.out.l
 go_wp2_with fail
 go_loopw [4] (fun i wr => ∃ (k : Nat) (P : Swg), k ≤ S.nL ∧ i = .int .i64 k ∧ Hid (CpSL w S P k wr)) (fun i _ => S.nL - (intOf i).toNat)
 case atStart => exact ⟨0, P1, Nat.zero_le _, rfl, HP1⟩
 case round =>
  clear HP1
  obtain ⟨k, P, hk, rfl, HP⟩ := hrel
  have c14 : wr.cell? ⟨w.heap.size, 14, none⟩ = some (.slice aL0 S.nL S.cL) := by rw [← HAL.out]; exact blk_cell HP.out.s.x.a 14
  by_cases hlt : k < S.nL
  ·
   have hlt' : (k : Int) < S.nL := by omega
   obtain ⟨g0, o0, ea, hc⟩ := (HU.out.up HP.out.s.x.bel) k hlt
   subst ea
   go_wp2_with fail
   refine wp_region_E (fun w' => w'.heap[w.heap.size + 1 + 1]? = some (.cells P.cells 41 (0, 0)) ∧ w'.cell? ⟨w.heap.size, 14, none⟩ = some (.slice (some ⟨g0, o0, none⟩) S.nL S.cL) ∧ ∀ j, j < 8 → w'.cell? ⟨g0, o0 + k * 8 + j, none⟩ = (S.L k).cells[j]?) 11 (by kernel_rfl) ?_
   have hd : Below wr.heap.size wr wr.drew := (Below.refl _ _).drew
   replace HP : Hid (CpSL w S P k wr.drew) := HP.out.up hd
   replace c14 : wr.drew.cell? ⟨w.heap.size, 14, none⟩ = some (.slice (some ⟨g0, o0, none⟩) S.nL S.cL) := c14
   clear hd hc
   generalize wr.drew = V at *
   have HTT : Hid (∀ X : World, X.heap[w.heap.size + 1 + 1]? = some (.cells P.cells 41 (0, 0)) → Below w.heap.size w X → X.heap[w.heap.size]? = some (.cells S.cells 41 (0, 0)) → (fun w' => w'.heap[w.heap.size + 1 + 1]? = some (.cells P.cells 41 (0, 0)) ∧ w'.cell? ⟨w.heap.size, 14, none⟩ = some (.slice (some ⟨g0, o0, none⟩) S.nL S.cL) ∧ ∀ j, j < 8 → w'.cell? ⟨g0, o0 + k * 8 + j, none⟩ = (S.L k).cells[j]?) X) := fun X e1 e2 e3 => ⟨e1, (blk_cell e3 14).trans ((blk_cell HP.out.s.x.a 14).symm.trans c14), by
    obtain ⟨g9, o9, e9, h9⟩ := (HU.out.up e2) k hlt
    cases e9
    exact h9⟩
   have hT0 := HTT.out V HP.out.s.x.c HP.out.s.x.bel HP.out.s.x.a
   clear c14
   refine takeE (i := 0) (some 28) (v := ?_) ?_ hT0 ?_
   rotate_left
   ·
    intro wx hSw
    go_simp
    try (with_reducible rfl)
   try simp only [Act.put, PZ]
   refine takeE (i := 1) (some 29) (v := ?_) ?_ hT0 ?_
   rotate_left
   ·
    intro wx hSw
    obtain ⟨hS1, hS2, hS3⟩ := hSw
    have c14 : wx.cell? ⟨w.heap.size + 1 + 1, 14, none⟩ = some (.slice P.aL k P.cL) := by rw [blk_cell hS1 14, ← HP.out.nL]; rfl
    go_simp
    try (with_reducible rfl)
   try simp only [Act.put, PZ]
   refine takeE (i := 2) (some 30) (v := ?_) ?_ hT0 ?_
   rotate_left
   ·
    intro wx hSw
    go_simp
    try (with_reducible rfl)
   try simp only [Act.put, PZ]
   refine takeE (i := 3) (some 31) (v := ?_) ?_ hT0 ?_
   rotate_left
   ·
    intro wx hSw
    obtain ⟨hS1, hS2, hS3⟩ := hSw
    clear hS3
    go_simp
    try (with_reducible rfl)
   try simp only [Act.put, PZ]
   refine takeE (i := 4) (some 32) (v := ?_) ?_ hT0 ?_
   rotate_left
   ·
    intro wx hSw
    go_simp
    try (with_reducible rfl)
   try simp only [Act.put, PZ]
   refine takeE (i := 5) (some 33) (v := ?_) ?_ hT0 ?_
   rotate_left
   ·
    intro wx hSw
    go_simp
    try (with_reducible rfl)
   try simp only [Act.put, PZ]
   refine takeE (i := 6) (some 34) (v := .agg (S.L k).cells) ?_ hT0 ?_
   ·
    intro wx hSw
    exact run_ldT 67 8 _ Tryz.underlying67 rfl infoLgI (.tmp 33) rfl g0 (o0 + k * 8) rfl _ rfl hSw.2.2
   try simp only [Act.put, PZ]
   refine wpAnyE_ready (rs := [7]) (by kernel_rfl) (by simp) ?_
   refine AllReadyE.cons rfl (fun K hK => ?_) AllReadyE.nil
   go_simp
   refine (l6CopyLane_any (S.L k) _ (HS.out.ls k hlt) ((HR.out.ls k hlt).up HP.out.s.x.bel)).mono ?_
   rintro e X1 ⟨l2, rfl, al2, ol2, hb⟩
   have HA1 : Hid (AlikeL (S.L k) l2 ∧ OwnLz X1 V.heap.size l2 ∧ Below V.heap.size V X1) := ⟨al2, ol2, hb⟩
   have Q1 := HP.out.up hb
   have hu0 : OG 67 8 X1 w.heap.size P.aL k P.cL (lnsV k P.L) := by have := Q1.l.l; rw [HP.out.nL] at this; exact this
   obtain ⟨g1, c3, X3, hr, hu, ht, hg⟩ := appendOG 39 67 _ 8 144 infoLgZ Tryz.underlying39 rfl (by decide) (by decide) hu0 (by omega) (Nat.le_trans HP.out.s.x.bel.size hb.size) l2.cells rfl (Lng.oneC _)
   have LN : l2.cells = #[.bool l2.st, .slice l2.aT l2.nT l2.cT, .slice l2.aU l2.nU l2.cU, .slice l2.R.aQ l2.R.nQ l2.R.cQ, .slice l2.R.aD l2.R.nD l2.R.cD, .int .i64 l2.R.turn, .bool l2.R.fresh, .slice l2.R.aS l2.R.nS l2.R.cS] := rfl
   rw [LN] at hr ⊢
   have hT1 := HTT.out X1 Q1.s.x.c Q1.s.x.bel Q1.s.x.a
   have hB2 : Below X1.heap.size X1 (X1.alloc (.cells #[.bool l2.st, .slice l2.aT l2.nT l2.cT, .slice l2.aU l2.nU l2.cU, .slice l2.R.aQ l2.R.nQ l2.R.cQ, .slice l2.R.aD l2.R.nD l2.R.cD, .int .i64 l2.R.turn, .bool l2.R.fresh, .slice l2.R.aS l2.R.nS l2.R.cS] 67)) := (Below.refl _ _).alloc (Nat.le_refl _) _
   have hT2 := HTT.out _ (Q1.up hB2).s.x.c (Q1.up hB2).s.x.bel (Q1.up hB2).s.x.a
   have hc3 : X3.heap[w.heap.size + 1 + 1]? = some (.cells P.cells 41 (0, 0)) := (ht.block _ (blk_lt Q1.s.x.c) (hu0.notT (by decide) Q1.s.x.c)).trans Q1.s.x.c
   have hT3 := HTT.out X3 hc3 (Q1.s.x.bel.trans (ht.below Q1.s.x.bel.size (fun x hx => (hu0.blk x hx).1))) ((ht.block _ (blk_lt Q1.s.x.a) (hu0.notT (by decide) Q1.s.x.a)).trans Q1.s.x.a)
   have HN3 : Hid (OG 67 8 X3 w.heap.size (some ⟨g1, 0, none⟩) (k + 1) c3 (lnsV k P.L ++ l2.cells.toList) ∧ Touch (blkO P.aL) X1 X3) := ⟨hu, ht⟩
   have HR3 : Hid ((Builtin.append_ #[39, 39] 39 #[.slice P.aL k P.cL, .slice (some ⟨X1.heap.size, 0, none⟩) 1 1]).run Tryz.prog (X1.alloc (.cells #[.bool l2.st, .slice l2.aT l2.nT l2.cT, .slice l2.aU l2.nU l2.cU, .slice l2.R.aQ l2.R.nQ l2.R.cQ, .slice l2.R.aD l2.R.nD l2.R.cD, .int .i64 l2.R.turn, .bool l2.R.fresh, .slice l2.R.aS l2.R.nS l2.R.cS] 67)) = .ok (.slice (some ⟨g1, 0, none⟩) (k + 1) c3) X3) := hr
   clear al2 ol2 hb Q1 hu0 hr hu ht hg hT0 LN hB2
   go_wp2_with fail
   refine hK.out _ _ hT1 ?_
   clear hK K
   try simp only [Act.put, PZ]
   refine wpAnyE_ready (rs := [8]) (by kernel_rfl) (by simp) ?_
   refine AllReadyE.cons rfl (fun K hK => ?_) AllReadyE.nil
   go_simp
   refine hK.out _ _ hT2 ?_
   clear hK K
   try simp only [Act.put, PZ]
   refine wpAnyE_ready (rs := [9]) (by kernel_rfl) (by simp) ?_
   refine AllReadyE.cons rfl (fun K hK => ?_) AllReadyE.nil
   refine wp_appE (by kernel_rfl) (some 37) rfl (.tmp 29) (.tmp 36) 39 _ _ _ rfl rfl rfl rfl HR3.out ?_
   refine hK.out _ _ hT3 ?_
   clear hK K hT2 HR3 hT1
   try simp only [Act.put, PZ]
   have hT0 := hT3
   refine takeE (i := 10) (some 38) (v := ?_) ?_ hT0 ?_
   rotate_left
   ·
    intro wx hSw
    go_simp
    try (with_reducible rfl)
   try simp only [Act.put, PZ]
   refine wpAnyE_ready (rs := [11]) (by kernel_rfl) (by simp) ?_
   refine AllReadyE.last rfl (fun K hK => ?_)
   refine wp_stE (by kernel_rfl) none rfl 39 (.tmp 38) (.tmp 37) rfl (w.heap.size + 1 + 1) 14 rfl (.slice (some ⟨g1, 0, none⟩) (k + 1) c3) rfl 1 rfl 41 _ hc3 infoLs (Nat.le_of_ble_eq_true rfl) (by simp [Value.cells, Value.oneCell']) ?_
   intro X4 hP
   refine hK.out _ _ ?_
   clear hK K
   try simp only [Act.put, PZ]
   refine wpAnyE_done (by kernel_rfl) ?_ _
   have HN : Hid (CpSL w S (P.more k (some ⟨g1, 0, none⟩) c3 l2) (k + 1) X4) := HP.out.more HA1.out.2.2 HA1.out.2.1 HA1.out.1 HN3.out.1 HN3.out.2 hP
   clear hP hT0 hT3 hc3 HN3 HA1 HP HTT
   go_wp2_with fail
   go_roundw
   case rel => exact ⟨k + 1, _, by omega, by go_num, HN⟩
   case measure => simp [intOf]; omega
  ·
   obtain rfl : k = S.nL := by omega
   have HL : Hid (∀ j, j < 17 → wr.cell? ⟨w.heap.size + 1 + 1, 0 + j, none⟩ = P.cells[j]?) := fun j _ => by rw [Nat.zero_add]; exact blk_cell HP.out.s.x.c j
   have HD : Hid (wr.heap[w.heap.size + 1]? = some (.cells zSw 41 (0, 0))) := HP.out.s.x.b
   go_wp2_with (first | refine wpList_ldT rfl 41 17 _ Tryz.underlying41 rfl infoSgI (.tmp 3) rfl (w.heap.size + 1 + 1) 0 rfl P.cells rfl HL.out ?_ | refine wpList_stA rfl 41 (.tmp 2) (.tmp 39) rfl (w.heap.size + 1) 0 rfl (.agg P.cells) rfl 17 rfl 41 _ HD.out infoSgI (Nat.le_of_ble_eq_true rfl) (Swg.oneC _) ?_)
   intro X hP
   replace hP : Put wr X (w.heap.size + 1) P.cells 41 := hP.cast rfl
   have HK : Hid (X.heap[w.heap.size + 1]? = some (.cells P.cells 41 (0, 0))) := hP.blk
   have HF : Hid (AlikeG S P ∧ OwnSz X w.heap.size P ∧ Below w.heap.size w X) := ⟨HP.out.alike rfl, HP.out.own.off HD.out hP.to, (HP.out.s.x.out hP).bel⟩
   clear hP HL HD HP
   go_wp2_with fail
   exact bodyPost_ret (res_cellT Tryz.results82 17 _ Tryz.underlying41 rfl infoSgI _ _ (w.heap.size + 1) P.cells rfl 41 HK.out rfl) rfl ⟨P, rfl, HF.out.1, HF.out.2.1, HF.out.2.2⟩
open Go.Shelf
def keysA_ren : Go.Shelf.Ren := ⟨fun | 7 => 137 | 10 => 146 | n => n, fun | 23 => 154 | 26 => 2 | 3 => 56 | 28 => 170 | 0 => 0 | 27 => 169 | 33 => 98 | 4 => 4 | n => n, fun | n => n⟩
theorem keysA : Go.Proofs.SlLaysZI.n7 Tryz.prog keysA_ren := {
 mixed := by kernel_rfl
 f7 := ⟨Tryz.f137.name, by decide, Tryz.func137.trans (congrArg some (by kernel_rfl))⟩
 f10 := ⟨Tryz.f146.name, by decide, Tryz.func146.trans (congrArg some (by kernel_rfl))⟩
 t0 := Tryz.underlying0
 a0 := Tryz.isAgg0
 z0 := Tryz.sizeOf0
 v0 := Tryz.zeroValue0
 t4 := Tryz.underlying4
 a4 := Tryz.isAgg4
 z4 := Tryz.sizeOf4
 v4 := Tryz.zeroValue4
 t23 := Tryz.underlying154
 a23 := Tryz.isAgg154
 z23 := Tryz.sizeOf154
 v23 := Tryz.zeroValue154
 t26 := Tryz.underlying2
 a26 := Tryz.isAgg2
 z26 := Tryz.sizeOf2
 v26 := Tryz.zeroValue2
 t27 := Tryz.underlying169
 a27 := Tryz.isAgg169
 z27 := Tryz.sizeOf169
 v27 := Tryz.zeroValue169
 t28 := Tryz.underlying170
 a28 := Tryz.isAgg170
 z28 := Tryz.sizeOf170
 v28 := Tryz.zeroValue170
 t33 := Tryz.underlying98
 a33 := Tryz.isAgg98
 z33 := Tryz.sizeOf98
 v33 := Tryz.zeroValue98 }
def sortedA_ren : Go.Shelf.Ren := ⟨fun | 6 => 136 | 8 => 144 | 9 => 145 | 11 => 149 | 13 => 151 | 12 => 150 | 23 => 161 | 24 => 162 | 14 => 152 | 15 => 153 | 16 => 154 | 17 => 155 | 18 => 156 | 19 => 157 | 20 => 158 | 21 => 159 | 22 => 160 | 25 => 163 | 26 => 164 | 27 => 165 | 28 => 166 | 29 => 167 | 30 => 148 | 31 => 168 | n => n, fun | 26 => 2 | 28 => 170 | 24 => 25 | 0 => 0 | 3 => 3 | 37 => 179 | 48 => 192 | 50 => 194 | 4 => 4 | 40 => 185 | 39 => 184 | 45 => 173 | 5 => 5 | 9 => 9 | 51 => 195 | 55 => 199 | 57 => 201 | 58 => 202 | 33 => 98 | n => n, fun | n => n⟩
theorem sortedA : Go.Proofs.SlLaysZI.n6 Tryz.prog sortedA_ren := {
 mixed := by kernel_rfl
 f6 := ⟨Tryz.f136.name, by decide, Tryz.func136.trans (congrArg some (by kernel_rfl))⟩
 f8 := ⟨Tryz.f144.name, by decide, Tryz.func144.trans (congrArg some (by kernel_rfl))⟩
 f11 := ⟨Tryz.f149.name, by decide, Tryz.func149.trans (congrArg some (by kernel_rfl))⟩
 t0 := Tryz.underlying0
 a0 := Tryz.isAgg0
 z0 := Tryz.sizeOf0
 v0 := Tryz.zeroValue0
 t24 := Tryz.underlying25
 a24 := Tryz.isAgg25
 z24 := Tryz.sizeOf25
 v24 := Tryz.zeroValue25
 t26 := Tryz.underlying2
 a26 := Tryz.isAgg2
 z26 := Tryz.sizeOf2
 v26 := Tryz.zeroValue2
 t28 := Tryz.underlying170
 a28 := Tryz.isAgg170
 z28 := Tryz.sizeOf170
 v28 := Tryz.zeroValue170
 i26 := by kernel_rfl }
def sortA_ren : Go.Shelf.Ren := ⟨fun | 5 => 145 | 8 => 151 | 7 => 150 | 19 => 161 | 20 => 162 | 10 => 152 | 11 => 153 | 12 => 154 | 13 => 155 | 14 => 156 | 15 => 157 | 16 => 158 | 17 => 159 | 18 => 160 | 30 => 163 | 31 => 164 | 32 => 165 | 33 => 166 | 34 => 167 | 35 => 148 | 40 => 168 | n => n, fun | 23 => 25 | 25 => 2 | 3 => 3 | 32 => 179 | 22 => 25 | 0 => 0 | 44 => 192 | 46 => 194 | 4 => 4 | 36 => 185 | 35 => 184 | 41 => 173 | 5 => 5 | 9 => 9 | 53 => 195 | 57 => 199 | 63 => 201 | 64 => 202 | n => n, fun | n => n⟩
theorem sortA : Go.Proofs.SlLaysM.n5 Tryz.prog sortA_ren := {
 mixed := by kernel_rfl
 f5 := ⟨Tryz.f145.name, by decide, Tryz.func145.trans (congrArg some (by kernel_rfl))⟩
 f7 := ⟨Tryz.f150.name, by decide, Tryz.func150.trans (congrArg some (by kernel_rfl))⟩
 f8 := Tryz.func151.trans (congrArg some (by kernel_rfl))
 f10 := ⟨Tryz.f152.name, by decide, Tryz.func152.trans (congrArg some (by kernel_rfl))⟩
 f11 := ⟨Tryz.f153.name, by decide, Tryz.func153.trans (congrArg some (by kernel_rfl))⟩
 f12 := ⟨Tryz.f154.name, by decide, Tryz.func154.trans (congrArg some (by kernel_rfl))⟩
 f13 := ⟨Tryz.f155.name, by decide, Tryz.func155.trans (congrArg some (by kernel_rfl))⟩
 f14 := ⟨Tryz.f156.name, by decide, Tryz.func156.trans (congrArg some (by kernel_rfl))⟩
 f15 := ⟨Tryz.f157.name, by decide, Tryz.func157.trans (congrArg some (by kernel_rfl))⟩
 f16 := ⟨Tryz.f158.name, by decide, Tryz.func158.trans (congrArg some (by kernel_rfl))⟩
 f17 := ⟨Tryz.f159.name, by decide, Tryz.func159.trans (congrArg some (by kernel_rfl))⟩
 f18 := ⟨Tryz.f160.name, by decide, Tryz.func160.trans (congrArg some (by kernel_rfl))⟩
 f19 := Tryz.func161.trans (congrArg some (by kernel_rfl))
 f20 := Tryz.func162.trans (congrArg some (by kernel_rfl))
 f30 := ⟨Tryz.f163.name, by decide, Tryz.func163.trans (congrArg some (by kernel_rfl))⟩
 f31 := Tryz.func164.trans (congrArg some (by kernel_rfl))
 f32 := Tryz.func165.trans (congrArg some (by kernel_rfl))
 f33 := ⟨Tryz.f166.name, by decide, Tryz.func166.trans (congrArg some (by kernel_rfl))⟩
 f34 := ⟨Tryz.f167.name, by decide, Tryz.func167.trans (congrArg some (by kernel_rfl))⟩
 f35 := ⟨Tryz.f148.name, by decide, Tryz.func148.trans (congrArg some (by kernel_rfl))⟩
 f40 := ⟨Tryz.f168.name, by decide, Tryz.func168.trans (congrArg some (by kernel_rfl))⟩
 t0 := Tryz.underlying0
 a0 := Tryz.isAgg0
 z0 := Tryz.sizeOf0
 v0 := Tryz.zeroValue0
 t3 := Tryz.underlying3
 a3 := Tryz.isAgg3
 z3 := Tryz.sizeOf3
 v3 := Tryz.zeroValue3
 t4 := Tryz.underlying4
 a4 := Tryz.isAgg4
 z4 := Tryz.sizeOf4
 v4 := Tryz.zeroValue4
 t5 := Tryz.underlying5
 a5 := Tryz.isAgg5
 z5 := Tryz.sizeOf5
 v5 := Tryz.zeroValue5
 t9 := Tryz.underlying9
 a9 := Tryz.isAgg9
 z9 := Tryz.sizeOf9
 v9 := Tryz.zeroValue9
 t22 := Tryz.underlying25
 a22 := Tryz.isAgg25
 z22 := Tryz.sizeOf25
 v22 := Tryz.zeroValue25
 t23 := Tryz.underlying25
 a23 := Tryz.isAgg25
 z23 := Tryz.sizeOf25
 v23 := Tryz.zeroValue25
 t25 := Tryz.underlying2
 a25 := Tryz.isAgg2
 z25 := Tryz.sizeOf2
 v25 := Tryz.zeroValue2
 t32 := Tryz.underlying179
 a32 := Tryz.isAgg179
 z32 := Tryz.sizeOf179
 v32 := Tryz.zeroValue179
 t35 := Tryz.underlying184
 a35 := Tryz.isAgg184
 z35 := Tryz.sizeOf184
 v35 := Tryz.zeroValue184
 t36 := Tryz.underlying185
 a36 := Tryz.isAgg185
 z36 := Tryz.sizeOf185
 v36 := Tryz.zeroValue185
 t41 := Tryz.underlying173
 a41 := Tryz.isAgg173
 z41 := Tryz.sizeOf173
 v41 := Tryz.zeroValue173
 t44 := Tryz.underlying192
 a44 := Tryz.isAgg192
 z44 := Tryz.sizeOf192
 v44 := Tryz.zeroValue192
 t46 := Tryz.underlying194
 a46 := Tryz.isAgg194
 z46 := Tryz.sizeOf194
 v46 := Tryz.zeroValue194
 t53 := Tryz.underlying195
 a53 := Tryz.isAgg195
 z53 := Tryz.sizeOf195
 v53 := Tryz.zeroValue195
 t57 := Tryz.underlying199
 a57 := Tryz.isAgg199
 z57 := Tryz.sizeOf199
 v57 := Tryz.zeroValue199
 t63 := Tryz.underlying201
 a63 := Tryz.isAgg201
 z63 := Tryz.sizeOf201
 v63 := Tryz.zeroValue201
 t64 := Tryz.underlying202
 a64 := Tryz.isAgg202
 z64 := Tryz.sizeOf202
 v64 := Tryz.zeroValue202 }
theorem make_mapE (n : Int) (w : World) : (Instr.makeMap 154 (some (.int .i64 n))).run Tryz.prog w = .ok (.map (some w.heap.size)) (w.alloc (.map #[] 0)) := by
 simp [Instr.makeMap, run_underlying Tryz.underlying154, go_sem, Result.andThen]
theorem keyedI : Maps.Keyed Tryz.prog 2 := Maps.int_keyed Tryz.underlying2
theorem storeE {w : World} {b n : Nat} {L : List Ent} {m p t : Int} (h : OwnsE w b n L) (hn : n < maxLen) (h0 : -9223372036854775808 ≤ m) (h1 : m ≤ 9223372036854775807) :
  ∃ w', (Instr.mapUpdate 154 (.map (some b)) (.int .i64 m) (.agg #[.int .i64 m, .int .i64 p, .int .i64 t])).run Tryz.prog w = .ok () w' ∧ OwnsE w' b (n + 1) (insE ⟨m, p, t⟩ (notM m L)) ∧ w.mapTurned w' b := by
 obtain ⟨w', h1, h2, h3⟩ := h.store keyedI Tryz.underlying154 hn (keyI h0 h1) (entElem_mk ⟨m, p, t⟩)
 refine ⟨w', h1, ?_, h3⟩
 have e := mD_put ⟨m, p, t⟩ L
 dsimp only at e
 show w'.ownsMap Tryz.prog 2 entElem b (n + 1) (mD (insE ⟨m, p, t⟩ (notM m L)))
 rw [← e]
 exact h2
theorem turn_below {B b : Nat} {a w w' : World} (h : Below B a w) (ht : w.mapTurned w' b) (hB : B ≤ w.heap.size) (hb : B ≤ b) : Below B a w' :=
 h.grown ht.grown hB (fun k e => by cases e; exact hb)
theorem byMac_any (a : Option Addr) (n cap : Nat) (f : Nat → Ent) (w : World) (hok : tabOk n f) (h : RdEnt w a n f) :
  Calls Tryz.prog 125 #[.slice a n cap] w fun e w' => e = .returned (.map (some w.heap.size)) ∧ OwnsE w' w.heap.size n (entsL n f) ∧ Below w.heap.size w w' := by
 have HR : Hid (RdEnt w a n f) := h
 have HO : Hid (entsOk n f) := hok.2
 have h8 : n ≤ 8 := hok.1
 have mk := make_mapE n w
 clear h hok
 go_enter Tryz.func125, Tryz.ntmps125
 go_wp2_with fail
 clear mk
 go_loopw [11] (fun i wr => ∃ k : Nat, k ≤ n ∧ i = .int .i64 k ∧ OwnsE wr w.heap.size k (entsL k f) ∧ Below w.heap.size w wr) (fun i _ => n - (intOf i).toNat)
 case atStart => exact ⟨0, Nat.zero_le _, rfl, World.ownsMap_made w _ _ _, (Below.refl _ _).alloc (Nat.le_refl _) _⟩
 case round =>
  obtain ⟨k, hk, rfl, hown, hB⟩ := hrel
  by_cases hlt : k < n
  ·
   have hlt' : (k : Int) < n := by omega
   obtain ⟨g, o, rfl, c1, c2, c3⟩ := (HR.out.up hB) k hlt
   have HL : Hid (insE (f k) (notM (f k).m (entsL k f)) = entsL (k + 1) f) := by
    have hb := HO.out.below hlt
    rw [Hid, notM_all (fun y hy => by have := hb y hy; omega), insE_last hb, entsL_succ]
   have hm := (HO.out k hlt).1.1
   generalize hx : f k = x at *
   obtain ⟨m, p, t⟩ := x
   dsimp only at c1 c2 c3 hm HL
   obtain ⟨w2, hrun, hown2, hturn⟩ := storeE (p := p) (t := t) (hown.alloc (.cells #[.int .i64 m, .int .i64 p, .int .i64 t] 56)) (show k < maxLen by unfold maxLen; omega) (show -9223372036854775808 ≤ m by omega) (show m ≤ 9223372036854775807 by omega)
   have HB2 : Hid (Below w.heap.size w w2) := turn_below (hB.alloc hB.size _) hturn (by have := hB.size; simp; omega) (Nat.le_refl _)
   have HO2 : Hid (OwnsE w2 w.heap.size (k + 1) (entsL (k + 1) f)) := by rw [Hid, ← HL.out]; exact hown2
   clear hown hown2 hturn hB
   go_wp2_with fail
   go_roundw
   case rel => exact ⟨k + 1, by omega, by go_num, HO2.out, HB2.out⟩
   case measure => simp [intOf]; omega
  ·
   obtain rfl : k = n := by omega
   go_wp2_with fail
   go_ret
   exact ⟨rfl, hown, hB⟩
open Go.RowKit Go.Maps Go.Sort Go.Shelf
theorem sortsA (m : Nat) : AnyZI.SortsIn Tryz.prog sortedA_ren Fence.wide m :=
 ⟨fun blk off cap ss W hH hblk hsz => callsIn_wide.2 (AnyM.slices_Sort_int sortA blk off cap ss W hH hblk hsz),
  fun p cap W => callsIn_wide.2 (AnyM.slices_Sort_int_none sortA p cap W)⟩
theorem keys_any (mb : Option Nat) (w : World) : Calls Tryz.prog 137 #[.map mb] w fun e w' => e = .returned (.func (.func 146) #[] #[.pointer (some ⟨w.heap.size, 0, none⟩)]) ∧ w' = w.alloc (.cells #[.map mb] 154) :=
 (callsIn_wide (n := 5)).1 (AnyZI.keys_in keysA Fence.wide 5 trivial rfl mb w)
theorem sorted_any {b nn : Nat} {L : List Ent} (w : World) (hown : OwnsE w b nn L) (hl : L.length ≤ 1048576) :
  Calls Tryz.prog 136 #[.func (.func 146) #[] #[.pointer (some ⟨w.heap.size, 0, none⟩)]] (w.alloc (.cells #[.map (some b)] 154)) fun e w' => ∃ (v : Value) (ss : List Int), e = .returned v ∧ ss.Perm (intKeys (mD L)) ∧
   w'.ownsRow (w.heap.size + 1) 2 1 v ss.length ((ss.mergeSort (fun x y => decide (x ≤ y))).map encZ) ∧ Below (w.heap.size + 1) (w.alloc (.cells #[.map (some b)] 154)) w' := by
 refine (callsIn_wide (n := 6)).1 ?_
 have hbl := hown.lt
 have hseq : SeqGives Fence.wide 3 Tryz.prog 146 #[.pointer (some ⟨w.heap.size, 0, none⟩)] encZ (fun ss => ss.Perm (intKeys (mD L))) (Maps.size (mD L)) (w.alloc (.cells #[.map (some b)] 154)) :=
  AnyZI.keys_gives (ρ := keysA_ren) { keysA with } Fence.wide _ trivial rfl (by omega) w.heap.size b nn (mD L) _ (by simp) (by simp) (by
   obtain ⟨es, clock, hb, Ft, hs, hD⟩ := hown
   exact ⟨es, clock, (Below.heap_alloc _ _ b hbl).trans hb, Ft, hs, hD⟩)
 have cS := AnyZI.sorted_in sortedA Fence.wide 6 trivial trivial trivial trivial rfl (by omega) (sortsA _) (enters_of Tryz.func145 (by kernel_rfl) rfl) 146 #[.pointer (some ⟨w.heap.size, 0, none⟩)] trivial (enters_of Tryz.func146 (by kernel_rfl) rfl) _ _ (by rw [mD_size]; unfold maxLen; omega) (by rw [mD_size]; omega) _ hseq
 change CallsIn _ _ Tryz.prog 136 _ _ _ at cS
 refine cS.mono ?_
 rintro e w' ⟨v, ss, rfl, hS, hrow, hnil, hb⟩
 have e1 : (w.alloc (.cells #[.map (some b)] 154)).heap.size = w.heap.size + 1 := by simp
 rw [e1] at hrow hb
 exact ⟨v, ss, rfl, hS, hrow, hb⟩
def sortedL (L : List Ent) : Prop := L.Pairwise fun x y => x.m < y.m
theorem keys_sorted {L : List Ent} (h : sortedL L) {ss : List Int} (hp : ss.Perm (intKeys (mD L))) : ss.mergeSort (fun x y => decide (x ≤ y)) = L.map (·.m) := by
 have e : intKeys (mD L) = L.map (·.m) := by simp [intKeys, mD, kv, Go.intOf]
 rw [e] at hp
 refine List.Perm.eq_of_pairwise (le := fun x y => (decide (x ≤ y)) = true) (fun a b _ _ h1 h2 => by simp at h1 h2; omega) ?_ ?_ ((List.mergeSort_perm _ _).trans hp)
 ·
  exact List.pairwise_mergeSort (fun a b c h1 h2 => by simp at h1 h2 ⊢; omega) (fun a b => by simp; omega) ss
 ·
  rw [List.pairwise_map]
  exact h.imp (fun h1 => by simp; omega)
theorem sortedL.at {L : List Ent} (h : sortedL L) : ∀ j, j < L.length → atM (L.getD j default).m L = L.getD j default := by
 induction L with
 | nil => intro j hj; simp at hj
 | cons y r ih =>
  have hy := List.pairwise_cons.1 h
  intro j hj
  cases j with
  | zero => simp [atM, List.find?_cons]
  | succ i =>
   have hi : i < r.length := by simpa using hj
   have hm : r.getD i default ∈ r := by
    rw [List.getD_eq_getElem?_getD, List.getElem?_eq_getElem hi]
    exact List.getElem_mem _
   have hlt := hy.1 _ hm
   have := ih hy.2 i hi
   unfold atM at this ⊢
   simp only [List.getD_cons_succ]
   rw [List.find?_cons]
   have hne : ¬ y.m = (r.getD i default).m := by omega
   simp only [hne, decide_false]
   exact this
theorem lookE1 {w : World} {b n : Nat} {L : List Ent} {k : Int} (h : OwnsE w b n L) (h0 : -9223372036854775808 ≤ k) (h1 : k ≤ 9223372036854775807) :
  (Instr.lookup 154 (.map (some b)) (.int .i64 k) false).run Tryz.prog w = .ok (.agg #[.int .i64 (atM k L).m, .int .i64 (atM k L).p, .int .i64 (atM k L).t]) w := by
 obtain ⟨v, ps, hrun, hv⟩ := h.lookup keyedI Tryz.underlying154 (Tryz.zeroValue56 w) (entElem_mk ⟨0, 0, 0⟩) (keyI h0 h1)
 rw [mD_at] at hv
 rw [hrun, entElem_inv hv]; rfl
theorem own_blk_ne {w : World} {base n j : Nat} {e t : TypeId} {sz : Nat} {v : Value} {xs : List Value} {cs : Array Value} {fr : Nat × Nat} (h : w.ownsRow base e sz v n xs) (hj : w.heap[j]? = some (.cells cs t fr)) (ht : e ≠ t) : v.ownBlock ≠ some j := by
 intro hv
 rcases h.2 with ⟨rfl, _⟩ | ⟨g, cap, cur, rfl, _, hb, _⟩
 ·
  cases hv
 ·
  simp only [Value.ownBlock, Option.some.injEq] at hv
  subst hv
  rw [hb] at hj
  cases hj
  exact ht rfl
theorem own_map_ne {w : World} {base n b nn sz : Nat} {e : TypeId} {v : Value} {xs : List Value} {L : List Ent} (h : w.ownsRow base e sz v n xs) (hm : OwnsE w b nn L) : some b ≠ v.ownBlock := by
 intro hv
 obtain ⟨es, clock, hb, _⟩ := hm
 rcases h.2 with ⟨rfl, _⟩ | ⟨g, cap, cur, rfl, _, hb', _⟩
 ·
  cases hv
 ·
  simp only [Value.ownBlock, Option.some.injEq] at hv
  subst hv
  rw [hb'] at hb
  cases hb
theorem OwnsE.kept {w w' : World} {b n : Nat} {L : List Ent} (h : OwnsE w b n L) (hb : w'.heap[b]? = w.heap[b]?) : OwnsE w' b n L := by
 obtain ⟨es, clock, h1, Ft, hs', hD⟩ := h
 exact ⟨es, clock, hb.trans h1, Ft, hs', hD⟩
theorem append_next {w wr w' : World} {o : Obj} {v : Value} {base n k b nn sz : Nat} {e : TypeId} {xs ys : List Value} {vK : Value} {L : List Ent} (he : e ≠ 2) (hrow : wr.ownsRow base e sz v k xs) (hK : wr.ownsRow (base + 1) 2 1 vK n ys) (hO : OwnsE wr b nn L) (hB : Below base w wr) (hz : base ≤ wr.heap.size)
  (hg : (wr.alloc o).grownBy w' v.ownBlock) : w'.ownsRow (base + 1) 2 1 vK n ys ∧ OwnsE w' b nn L ∧ Below base w w' := by
 have hg' : wr.grownBy w' v.ownBlock := (World.grownBy_alloc wr o _).trans hg
 refine ⟨?_, hO.kept (hg'.block b hO.lt (own_map_ne hrow hO)), hB.grown hg' hz (fun j hj => (hrow.lt j hj).1)⟩
 refine hK.kept hg' ?_
 rcases hK.2 with ⟨rfl, _⟩ | ⟨g, cap, cur, rfl, _, hb, _⟩
 ·
  exact .inl rfl
 ·
  exact .inr (fun e1 => own_blk_ne hrow hb he e1.symm)
set_option maxHeartbeats 1000000 in
theorem inOrder_any {b nn : Nat} {L : List Ent} (w : World) (hown : OwnsE w b nn L) (hs : sortedL L) (hl : L.length ≤ 8) (hr : ∀ y ∈ L, 1 ≤ y.m ∧ y.m ≤ 20) :
  Calls Tryz.prog 127 #[.map (some b)] w fun e w' => ∃ v, e = .returned v ∧ OwnL w' w.heap.size v L ∧ Below w.heap.size w w' := by
 have HO : Hid (OwnsE w b nn L) := hown
 have HS : Hid (sortedL L) := hs
 have HR : Hid (∀ y ∈ L, 1 ≤ y.m ∧ y.m ≤ 20) := hr
 clear hown hs hr
 go_enter Tryz.func127, Tryz.ntmps127
 go_wp2_with fail
 refine (keys_any _ _).mono ?_
 rintro e w1 ⟨rfl, rfl⟩
 go_wp2_with fail
 refine (sorted_any w HO.out (by omega)).mono ?_
 rintro e w2 ⟨vK, ss, rfl, hp, hK, hb2⟩
 rw [keys_sorted HS.out hp] at hK
 have hlen : ss.length = L.length := by
  have := hK.1
  simp at this
  omega
 rw [hlen] at hK
 have B2 : Below w.heap.size w w2 := under hb2
 have hO2 : OwnsE w2 b nn L := by
  obtain ⟨es, clock, hb, Ft, hs', hD⟩ := HO.out
  exact ⟨es, clock, (B2.block b HO.out.lt).trans hb, Ft, hs', hD⟩
 clear hp hb2 hlen
 obtain ⟨i0, hi, hz0, hz1, hz2⟩ := info_parts infoE
 obtain ⟨aK, capK, rfl, hcK⟩ : ∃ a cap, vK = .slice a L.length cap ∧ ∀ w' : World, w'.ownsRow (w.heap.size + 1) 2 1 (.slice a L.length cap) L.length ((L.map (·.m)).map encZ) → ∀ j, j < L.length → ∃ g, a = some ⟨g, 0, none⟩ ∧ w'.cell? ⟨g, j, none⟩ = some (.int .i64 (L.getD j default).m) := by
  rcases hK.2 with ⟨rfl, h0⟩ | ⟨g, cap, cur, rfl, _⟩
  ·
   exact ⟨none, 0, by rw [h0], fun _ _ j hj => by omega⟩
  ·
   refine ⟨_, _, rfl, fun w' h' j hj => ⟨g, rfl, ?_⟩⟩
   rw [own_cell h' j hj]
   rw [List.getElem?_map, List.getElem?_map, List.getElem?_eq_getElem hj, List.getD_eq_getElem?_getD, List.getElem?_eq_getElem hj]
   rfl
 have HC : Hid (∀ w' : World, w'.ownsRow (w.heap.size + 1) 2 1 (.slice aK L.length capK) L.length ((L.map (·.m)).map encZ) → ∀ j, j < L.length → ∃ g, aK = some ⟨g, 0, none⟩ ∧ w'.cell? ⟨g, j, none⟩ = some (.int .i64 (L.getD j default).m)) := hcK
 clear hcK
 go_wp2_with fail
 go_loopw [3, 10] (fun v i wr => ∃ k : Nat, k ≤ L.length ∧ i = .int .i64 k ∧ wr.ownsRow w.heap.size 56 3 v k (flatE (L.take k)) ∧ wr.ownsRow (w.heap.size + 1) 2 1 (.slice aK L.length capK) L.length ((L.map (·.m)).map encZ) ∧ OwnsE wr b nn L ∧ Below w.heap.size w wr) (fun _ i _ => L.length - (intOf i).toNat)
 case atStart => exact ⟨0, Nat.zero_le _, rfl, World.ownsRow_nil _ _ _ _, hK, hO2, B2⟩
 case round =>
  obtain ⟨k, hk, rfl, hrow, hKr, hOr, hB⟩ := hrel
  clear hK hO2 B2
  by_cases hlt : k < L.length
  ·
   have hlt' : (k : Int) < L.length := by omega
   obtain ⟨gK, rfl, hcell⟩ := HC.out wr hKr k hlt
   have hxm : L.getD k default ∈ L := by
    rw [List.getD_eq_getElem?_getD, List.getElem?_eq_getElem hlt]
    exact List.getElem_mem _
   have hxr := HR.out _ hxm
   have hlk := lookE1 (k := (L.getD k default).m) hOr (by omega) (by omega)
   rw [HS.out.at k hlt] at hlk
   have HT : Hid (flatE (L.take k) ++ cellsE (L.getD k default) = flatE (L.take (k + 1))) := by
    rw [Hid, List.take_add_one, flatE, flatE, List.flatMap_append, List.getD_eq_getElem?_getD, List.getElem?_eq_getElem hlt]
    simp
   generalize L.getD k default = x at *
   have hz := hB.size
   clear hxm hxr
   go_wp2_with (at_builtin; refine wpList_append_own _ rfl (.tmp 14) (.tmp 18) 36 rfl w.heap.size 56 i0 (.agg #[.int .i64 0, .int .i64 0, .int .i64 0]) 3 24 Tryz.underlying36 hi hz0 hz1 hz2 rfl (by decide) _ k _ rfl (hrow.alloc _) ⟨wr.heap.size, 0, none⟩ 1 1 (cellsE x) rfl rfl (cells_three_new _ _ _) (oneE _) (by unfold maxLen; omega) (by omega) (by simp; omega) ?_; intro v' w' hown' hgrow' hnil')
   obtain ⟨n1, n2, n3⟩ := append_next (by decide) hrow hKr hOr hB hz hgrow'
   rw [HT.out] at hown'
   clear hnil' hgrow' hrow hKr hOr hB hcell hlk
   go_roundw
   case rel => exact ⟨k + 1, by omega, by go_num, hown', n1, n2, n3⟩
   case measure => simp [intOf]; omega
  ·
   obtain rfl : k = L.length := by omega
   clear HC
   go_wp2_with fail
   go_ret
   exact ⟨_, rfl, by rw [List.take_length] at hrow; exact hrow, hB⟩
theorem isStale_any (m p t now : Int) (w : World) (h0 : 0 ≤ t) (h1 : t ≤ 1000000000) (h2 : 0 ≤ now) (h3 : now ≤ 1000000000) :
  Calls Tryz.prog 126 #[.agg #[.int .i64 m, .int .i64 p, .int .i64 t], .int .i64 now] w fun e w' => e = .returned (.bool (decide (20 < now - t))) ∧ Below w.heap.size w w' := by
 have hw : IntKind.i64.wrap (now - t) = now - t := wrapE _ (by omega) (by omega)
 go_enter Tryz.func126, Tryz.ntmps126
 go_wp2_with fail
 go_ret
 exact ⟨rfl, (Below.refl _ _).alloc (Nat.le_refl _) _⟩
theorem entsL_ok {n : Nat} {f : Nat → Ent} (h : entsOk n f) {y : Ent} (hy : y ∈ entsL n f) : entOk y := by
 obtain ⟨i, hi, rfl⟩ := List.mem_map.1 hy
 exact (h i (List.mem_range.1 hi)).1
def timeOk (now : Int) : Prop := 0 ≤ now ∧ now ≤ 1000000000
def agedL (L : List Ent) (now : Int) : List Ent := L.filter fun y => decide (now - y.t ≤ 20)
structure AgedR (n : Nat) (f : Nat → Ent) (now : Int) (A : List Ent) : Prop where
 good : tabOk n f → timeOk now → A = agedL (entsL n f) now
 bad : ¬ (tabOk n f ∧ timeOk now) → A = []
theorem entsL_drop {n k : Nat} {f : Nat → Ent} (hk : k < n) : (entsL n f).drop k = f k :: (entsL n f).drop (k + 1) := by
 have h : k < (entsL n f).length := by rw [entsL_len]; exact hk
 rw [List.drop_eq_getElem_cons h]
 simp [entsL]
theorem drop_above {n k : Nat} {f : Nat → Ent} (h : entsOk n f) (hk : k < n) : ∀ y ∈ (entsL n f).drop (k + 1), y.m ≠ (f k).m := by
 intro y hy
 obtain ⟨i, hi, e⟩ := List.mem_iff_getElem.1 hy
 rw [List.length_drop, entsL_len] at hi
 have e2 : y = f (k + 1 + i) := by
  rw [← e, List.getElem_drop]
  simp [entsL]
 have := h.lt (k + 1 + i) k (by omega) (by omega)
 rw [e2]; omega
theorem aged_keep {n k : Nat} {f : Nat → Ent} {now : Int} (hk : k < n) (hs : now - (f k).t ≤ 20) : agedL (entsL k f) now ++ (entsL n f).drop k = agedL (entsL (k + 1) f) now ++ (entsL n f).drop (k + 1) := by
 rw [entsL_drop hk, entsL_succ]
 simp [agedL, hs]
theorem aged_drop {n k : Nat} {f : Nat → Ent} {now : Int} (h : entsOk n f) (hk : k < n) (hs : ¬ now - (f k).t ≤ 20) : notM (f k).m (agedL (entsL k f) now ++ (entsL n f).drop k) = agedL (entsL (k + 1) f) now ++ (entsL n f).drop (k + 1) := by
 have h1 : notM (f k).m (agedL (entsL k f) now) = agedL (entsL k f) now := notM_all fun y hy => by
  have := h.below hk y (List.mem_filter.1 hy).1
  omega
 have h2 : notM (f k).m ((entsL n f).drop (k + 1)) = (entsL n f).drop (k + 1) := notM_all (drop_above h hk)
 rw [entsL_drop hk, entsL_succ]
 have e : ∀ a b : List Ent, notM (f k).m (a ++ f k :: b) = notM (f k).m a ++ notM (f k).m b := fun a b => by simp [notM]
 rw [e, h1, h2]
 simp [agedL, hs]
theorem entsL_sorted {n : Nat} {f : Nat → Ent} (h : entsOk n f) : sortedL (entsL n f) := by
 unfold sortedL
 rw [List.pairwise_iff_getElem]
 intro i j hi hj hij
 rw [entsL_len] at hj
 simp [entsL]
 exact h.lt j i hij hj
theorem sortedL.sub {L L' : List Ent} (h : sortedL L) (hs : L'.Sublist L) : sortedL L' := List.Pairwise.sublist hs h
set_option maxHeartbeats 1000000 in
theorem iAged_any (a : Option Addr) (n cap : Nat) (f : Nat → Ent) (now : Int) (A : List Ent) (w : World) (hn : n ≤ maxLen) (h : RdEnt w a n f) (hA : AgedR n f now A) :
  Calls Tryz.prog 89 #[.slice a n cap, .int .i64 now] w fun e w' => ∃ v, e = .returned v ∧ OwnL w' w.heap.size v A ∧ Below w.heap.size w w' := by
 have HR : Hid (RdEnt w a n f) := h
 have HP : Hid (AgedR n f now A) := hA
 obtain ⟨ok, hok⟩ := tab_dec n f
 have HO : Hid (ok = true ↔ tabOk n f) := hok
 clear h hA hok
 go_enter Tryz.func89, Tryz.ntmps89
 go_wp2_with fail
 refine (iTableOk_any a n cap f _ hn HR.out ok HO.out).mono ?_
 rintro e w1 ⟨rfl, B1⟩
 cases ok
 ·
  have HF : Hid (A = []) := HP.out.bad (fun hh => absurd (HO.out.2 hh.1) (by simp))
  go_wp2_with fail
  go_ret
  exact ⟨_, rfl, by rw [HF.out]; exact OwnL.nil _ _, B1⟩
 have HT : Hid (tabOk n f) := HO.out.1 rfl
 go_wp2_with fail
 refine (isTime_any _ _).mono ?_
 rintro e w' ⟨rfl, rfl⟩
 by_cases ht : 0 ≤ now ∧ now ≤ 1000000000
 rotate_left
 ·
  have HF : Hid (A = []) := HP.out.bad (fun hh => ht hh.2)
  rw [decide_eq_false ht]
  clear ht
  go_wp2_with fail
  go_ret
  exact ⟨_, rfl, by rw [HF.out]; exact OwnL.nil _ _, B1⟩
 have HTm : Hid (timeOk now) := ht
 rw [decide_eq_true ht]
 clear ht
 go_wp2_with fail
 refine (byMac_any a n cap f _ HT.out (HR.out.up B1)).mono ?_
 rintro e w2 ⟨rfl, hown, hb2⟩
 have B2 := B1.trans (hb2.mono B1.size)
 obtain ⟨bM, hbM⟩ : ∃ bM, bM = w'.heap.size := ⟨_, rfl⟩
 rw [← hbM] at hown ⊢
 have hM : w.heap.size ≤ bM := by rw [hbM]; exact B1.size
 have h8 := HT.out.1
 clear hb2 hbM
 go_wp2_with fail
 go_loopw [20] (fun i wr => ∃ k : Nat, k ≤ n ∧ i = .int .i64 k ∧ OwnsE wr bM n (agedL (entsL k f) now ++ (entsL n f).drop k) ∧ Below w.heap.size w wr) (fun i _ => n - (intOf i).toNat)
 case atStart => exact ⟨0, Nat.zero_le _, rfl, hown, B2⟩
 case round =>
  obtain ⟨k, hk, rfl, hO, hB⟩ := hrel
  clear hown B2 B1
  by_cases hlt : k < n
  ·
   have hlt' : (k : Int) < n := by omega
   obtain ⟨g, o, rfl, c1, c2, c3⟩ := (HR.out.up hB) k hlt
   have hxk := (HT.out.2 k hlt).1
   have HK : Hid (now - (f k).t ≤ 20 → agedL (entsL k f) now ++ (entsL n f).drop k = agedL (entsL (k + 1) f) now ++ (entsL n f).drop (k + 1)) := aged_keep hlt
   have HD : Hid (¬ now - (f k).t ≤ 20 → notM (f k).m (agedL (entsL k f) now ++ (entsL n f).drop k) = agedL (entsL (k + 1) f) now ++ (entsL n f).drop (k + 1)) := aged_drop HT.out.2 hlt
   generalize f k = x at *
   obtain ⟨m, p, t⟩ := x
   obtain ⟨x1, x2, x3⟩ := hxk
   dsimp only at c1 c2 c3 x1 x2 x3 HK HD
   have h20 := HTm.out
   have hz := hB.size
   have HB1 : Hid (∀ ob, Below w.heap.size w (wr.alloc ob)) := fun ob => hB.alloc hz _
   have cb := blk_cell (blk_new wr (.cells #[.int .i64 m, .int .i64 p, .int .i64 t] 56))
   go_wp2_with fail
   refine (isStale_any m p t now _ x3.1 x3.2 h20.1 h20.2).mono ?_
   rintro e w3 ⟨rfl, hb3⟩
   have B3 : Below w.heap.size w w3 := (HB1.out _).trans (hb3.mono (HB1.out _).size)
   have cb := fun i => (hb3.cell (p := ⟨wr.heap.size, i, none⟩) (by simp)).trans (cb i)
   have hO3 : OwnsE w3 bM n _ := hO.kept ((hb3.block bM (by have := hO.lt; simp; omega)).trans (blk_old _ hO.lt))
   clear hO c1 c2 c3 hb3 HB1 hB
   by_cases hs : 20 < now - t
   ·
    rw [decide_eq_true hs]
    have HE := HD.out (by omega)
    obtain ⟨k0, k1⟩ := x1
    have hkey : keyOf Tryz.prog 2 (.int .i64 m) = some (.int .i64 m) := keyI (by omega) (by omega)
    clear hs HK x2 x3 h20
    go_wp2_with (at_delete; refine wpList_delete_own _ rfl _ _ 154 2 rfl 56 keyedI Tryz.underlying154 _ bM n _ rfl hO3 _ _ rfl hkey ?_; intro w4 hown4 hturn4)
    have hown4 : OwnsE w4 bM n (agedL (entsL (k + 1) f) now ++ (entsL n f).drop (k + 1)) := by rw [mD_del, HE] at hown4; exact hown4
    have B4 := turn_below B3 hturn4 B3.size hM
    clear hturn4 hO3 cb
    go_roundw
    case rel => exact ⟨k + 1, by omega, by go_num, hown4, B4⟩
    case measure => simp [intOf]; omega
   ·
    rw [decide_eq_false hs]
    have HE := HK.out (by omega)
    have hO4 : OwnsE w3 bM n (agedL (entsL (k + 1) f) now ++ (entsL n f).drop (k + 1)) := by rw [HE] at hO3; exact hO3
    clear hs HD x1 x2 x3 h20 hO3 cb
    go_wp2_with fail
    go_roundw
    case rel => exact ⟨k + 1, by omega, by go_num, hO4, B3⟩
    case measure => simp [intOf]; omega
  ·
   obtain rfl : k = n := by omega
   have e0 : agedL (entsL k f) now ++ (entsL k f).drop k = A := by
    rw [HP.out.good HT.out HTm.out, List.drop_eq_nil_of_le (by rw [entsL_len]; exact Nat.le_refl _), List.append_nil]
   have HA : Hid (A = agedL (entsL k f) now) := HP.out.good HT.out HTm.out
   have hO2 : OwnsE wr bM k A := by rw [← e0]; exact hO
   have hsub : A.Sublist (entsL k f) := by rw [HA.out]; exact List.filter_sublist
   have hlen := hsub.length_le
   rw [entsL_len] at hlen
   have HSu : Hid (A.Sublist (entsL k f)) := hsub
   clear hO e0 hsub
   go_wp2_with fail
   refine (inOrder_any _ hO2 ((entsL_sorted HT.out.2).sub HSu.out) (by omega) (fun y hy => (entsL_ok HT.out.2 (HSu.out.subset hy)).1)).mono ?_
   rintro e w5 ⟨v, rfl, hv, hb5⟩
   have B5 := hB.trans (hb5.mono hB.size)
   have hv2 := hv.mono hB.size
   clear hv hb5 hB
   go_wp2_with fail
   go_ret
   exact ⟨_, rfl, hv2, B5⟩
end Go.Proofs.YtlipielghpoaoaaGreat
