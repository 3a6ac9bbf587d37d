import Derived.Test.YtfkpncopkgidfaaGreatN00
import Derived.Test.YtfkpncopkgidfaaGreatN02
import Derived.Test.YtfkpncopkgidfaaGreatN04
import Derived.Test.YtfkpncopkgidfaaGreatN23
import Derived.Test.YtfkpncopkgidfaaGreatN24
import Derived.Test.YtfkpncopkgidfaaGreatN26
import Derived.BigQuiet
import Derived.Deep.QuietTactic
import Derived.Deep.RegionHeld3
import Derived.Laws.BitsAllLaws
import Derived.Laws.BytesArg
import Derived.Laws.MakeOwn
namespace Go.Proofs.YtfkpncopkgidfaaGreat
open Go.RowKit
set_option linter.unusedVariables false
set_option linter.unusedSimpArgs false
def zSw : Array Value := #[.int .i64 0, .int .i64 0, .int .i64 0, .int .i64 0, .int .i64 0, .int .i64 0, .int .i64 0, .int .i64 0, .int .i64 0, .slice none 0 0, .slice none 0 0, .int .i64 0, .slice none 0 0, .slice none 0 0, .slice none 0 0, .int .i64 0, .int .i64 0]
theorem infoEnZ : (Tryz.prog.info? 109).map (fun i => (i.zero, i.size, i.bytes)) = some (some (.agg #[.int .i64 0, .int .i64 0, .int .i64 0]), 3, 24) := by kernel_rfl
theorem copyOfE_any (a : Option Addr) (n cap : Nat) (f : Nat → Ent) (w : World) (hn : n ≤ 1048576) (h : RdEnt w a n f) :
  Calls Tryz.prog 136 #[.slice a n cap] w fun e w' => ∃ a' c', e = .returned (.slice a' n c') ∧ OG 109 3 w' w.heap.size a' n c' (flatE (entsL n f)) ∧ Below w.heap.size w w' := by
 obtain ⟨a', c', W', hr, hv, hb⟩ := appendRowNil (c := cap) 40 109 _ 3 24 infoEnZ Tryz.underlying40 rfl (by decide) (by decide) hn (by rw [flatE_len, entsL_len]) h.cs (flatE_one _)
 have HV : Hid (OG 109 3 W' w.heap.size a' n c' (flatE (entsL n f)) ∧ Below w.heap.size w W') := ⟨hv, hb⟩
 clear hv hb h
 go_enter Tryz.func136, Tryz.ntmps136
 go_wp2_with (at_builtin; refine Lib.wpList_append_run _ rfl _ _ _ _ rfl _ _ rfl rfl _ _ hr ?_)
 go_ret
 exact ⟨_, _, rfl, HV.out.1, HV.out.2⟩
theorem copyOfK_any (a : Option Addr) (n cap : Nat) (K : Nat → Pkt) (w : World) (hn : n ≤ 1048576) (h : RdPk w a n K) :
  Calls Tryz.prog 138 #[.slice a n cap] w fun e w' => ∃ a' c', e = .returned (.slice a' n c') ∧ OG 112 8 w' w.heap.size a' n c' (pksV n K) ∧ Below w.heap.size w w' := by
 obtain ⟨a', c', W', hr, hv, hb⟩ := appendRowNil (c := cap) 42 112 _ 8 72 infoPkZ Tryz.underlying42 rfl (by decide) (by decide) hn (pksV_len _ _) h.cs (pksV_one _ _)
 have HV : Hid (OG 112 8 W' w.heap.size a' n c' (pksV n K) ∧ Below w.heap.size w W') := ⟨hv, hb⟩
 clear hv hb h
 go_enter Tryz.func138, Tryz.ntmps138
 go_wp2_with (at_builtin; refine Lib.wpList_append_run _ rfl _ _ _ _ rfl _ _ rfl rfl _ _ hr ?_)
 go_ret
 exact ⟨_, _, rfl, HV.out.1, HV.out.2⟩
theorem lay_self {cur cs : Array Value} {o : Nat} (hf : o + cs.size ≤ cur.size) (h : ∀ j, j < cs.size → cur[o + j]? = cs[j]?) : lay cur o cs = cur := by
 refine Array.ext_getElem? fun i => ?_
 by_cases h1 : i < o
 ·
  exact lay_lo hf i h1
 by_cases h2 : i < o + cs.size
 ·
  have := lay_at hf (i - o) (by omega)
  rw [show o + (i - o) = i by omega] at this
  rw [this, ← h (i - o) (by omega), show o + (i - o) = i by omega]
 ·
  unfold lay
  simp only [List.getElem?_toArray]
  rw [List.getElem?_append_right (by simp; omega), List.getElem?_drop, Array.getElem?_toList]
  congr 1
  simp
  omega
theorem Put.same {w W : World} {g : Nat} {cs : Array Value} {t : TypeId} (h : Put w W g cs t) (hg : w.heap[g]? = some (.cells cs t (0, 0))) : Below w.heap.size w W :=
 ⟨h.to.os, h.to.tape, h.to.output, h.to.size, fun k hk => by
  by_cases e : k = g
  ·
   subst e; exact h.blk.trans hg.symm
  ·
   exact h.to.block k hk (by simpa using e)⟩
structure CpS (w : World) (S P : Swg) (W : World) : Prop where
 x : Boxes w S.cells zSw P.cells 45 45 W
 e : OG 109 3 W w.heap.size P.aE P.nE P.cE (flatE (entsL P.nE P.e))
 n : OwnCn W w.heap.size P.N
 k : OG 112 8 W w.heap.size P.aK P.nK P.cK (pksV P.nK P.K)
theorem CpS.up {w : World} {S P : Swg} {W W' : World} (h : CpS w S P W) (hb : Below W.heap.size W W') : CpS w S P W' := ⟨h.x.up hb, h.e.up hb, h.n.up hb, h.k.up hb⟩
theorem OwnCn.off2 {w w' : World} {base g : Nat} {N : Cnt} {cs : Array Value} {t : TypeId} (h : OwnCn w base N) (hg : w.heap[g]? = some (.cells cs t (0, 0))) (h2 : 2 ≠ t) (h4 : 4 ≠ t) (ht : Touch [g] w w') : OwnCn w' base N :=
 ⟨h.u.touchS ht (fun x hx hy => by rw [List.mem_singleton.1 hy] at hx; exact h.u.boxOut h2 hg hx), h.p.touchS ht (fun x hx hy => by rw [List.mem_singleton.1 hy] at hx; exact h.p.boxOut h4 hg hx)⟩
structure CpA (S P : Swg) : Prop where
 c : P.C = S.C
 now : P.now = S.now
 nx : P.nx = S.nx
 nE : P.nE = S.nE
 e : P.e = S.e
 n : AlikeC S.N P.N
 nK : P.nK = S.nK
 k : P.K = S.K
 dr : P.dr = S.dr
 lst : P.lst = S.lst
structure CpSL (w : World) (S P : Swg) (k : Nat) (W : World) : Prop where
 s : CpS w S P W
 a : CpA S P
 l : OwnLs W w.heap.size P.aL P.nL P.cL P.L
 un : ∀ x ∈ blkV P.N.aU P.N.nU, x ∉ (List.range P.nL).flatMap fun i => (P.L i).blkz
 nL : P.nL = k
 al : ∀ i, i < k → AlikeL (S.L i) (P.L i)
theorem CpSL.up {w : World} {S P : Swg} {k : Nat} {W W' : World} (h : CpSL w S P k W) (hb : Below W.heap.size W W') : CpSL w S P k W' := ⟨h.s.up hb, h.a, h.l.up hb, h.un, h.nL, h.al⟩
def Swg.more (P : Swg) (k : Nat) (aL : Option Addr) (cL : Nat) (l : Lng) : Swg := { P with aL := aL, nL := k + 1, cL := cL, L := fun i => if i = k then l else P.L i }
theorem CpSL.more {w : World} {S P : Swg} {k g c2 : Nat} {l2 : Lng} {V V1 W W2 : World} (h : CpSL w S P k V) (hb : Below V.heap.size V V1) (ho : OwnLz V1 V.heap.size l2) (ha : AlikeL (S.L k) l2)
  (hu : OG 118 8 W w.heap.size (some ⟨g, 0, none⟩) (k + 1) c2 (lnsV k P.L ++ l2.cells.toList)) (ht : Touch (blkO P.aL) V1 W) (hP : Put W W2 (w.heap.size + 1 + 1) (lay P.cells 14 #[.slice (some ⟨g, 0, none⟩) (k + 1) c2]) 45) : CpSL w S (P.more k (some ⟨g, 0, none⟩) c2 l2) (k + 1) W2 := by
 have hk := h.nL
 have h1 := h.up hb
 have hl : OwnLs V w.heap.size P.aL k P.cL P.L := hk ▸ h.l
 have hl1 := hl.up hb
 have hL := hl.more hb h.s.x.bel.size ho hu ht
 have xa := (ht.block _ (blk_lt h1.s.x.a) (hl1.l.notT (by decide) h1.s.x.a)).trans h1.s.x.a
 have xb := (ht.block _ (blk_lt h1.s.x.b) (hl1.l.notT (by decide) h1.s.x.b)).trans h1.s.x.b
 have xc := (ht.block _ (blk_lt h1.s.x.c) (hl1.l.notT (by decide) h1.s.x.c)).trans h1.s.x.c
 have xB : Boxes w S.cells zSw P.cells 45 45 W := ⟨xa, xb, xc, h1.s.x.bel.trans (ht.below h1.s.x.bel.size (fun x hx => (hl1.l.blk x hx).1)), Nat.le_trans h1.s.x.sz ht.size⟩
 have e1 := h1.s.e.touchS ht (h1.s.e.apart hl1.l (by decide))
 have k1 := h1.s.k.touchS ht (h1.s.k.apart hl1.l (by decide))
 have n1 : OwnCn W w.heap.size P.N := ⟨h1.s.n.u.touchS ht (fun x hx hy => by
   obtain ⟨cs, q⟩ := h1.s.n.u.type x hx
   exact hl1.l.notT (by decide) q hy), h1.s.n.p.touchS ht (fun x hx hy => by
   obtain ⟨cs, q⟩ := h1.s.n.p.type x hx
   exact hl1.l.notT (by decide) q hy)⟩
 refine ⟨⟨xB.put hP, e1.touchS hP.to (fun x hx hy => e1.notT (by decide) xc ((List.mem_singleton.1 hy) ▸ hx)), n1.off2 xc (by decide) (by decide) hP.to, k1.touchS hP.to (fun x hx hy => k1.notT (by decide) xc ((List.mem_singleton.1 hy) ▸ hx))⟩, ⟨h.a.c, h.a.now, h.a.nx, h.a.nE, h.a.e, h.a.n, h.a.nK, h.a.k, h.a.dr, h.a.lst⟩, hL.box xc (by decide) (by decide) (by decide) hP.to, fun x hx hy => ?_, rfl, fun i hi => ?_⟩
 ·
  have hx1 := (h.s.n.u.blk x hx).2
  simp only [List.mem_flatMap, List.mem_range] at hy
  obtain ⟨i, hi, hy⟩ := hy
  have hy' : x ∈ (if i = k then l2 else P.L i).blkz := hy
  by_cases e : i = k
  ·
   rw [if_pos e] at hy'
   have := (ho.blk x hy').1
   omega
  ·
   rw [if_neg e] at hy'
   have hi' : i < k + 1 := hi
   exact h.un x hx (by simp only [List.mem_flatMap, List.mem_range]; exact ⟨i, by omega, hy'⟩)
 ·
  show AlikeL (S.L i) (if i = k then l2 else P.L i)
  by_cases e : i = k
  ·
   rw [if_pos e, e]; exact ha
  ·
   rw [if_neg e]; exact h.al i (by omega)
theorem CpSL.alike {w : World} {S P : Swg} {k : Nat} {W : World} (h : CpSL w S P k W) (hk : S.nL = k) : AlikeG S P :=
 ⟨h.a.c, h.a.now, h.a.nx, h.a.nE, h.a.e, h.a.n, h.a.nK, h.a.k, by rw [h.nL, hk], fun i hi => h.al i (by omega), h.a.dr, h.a.lst⟩
theorem CpSL.own {w : World} {S P : Swg} {k : Nat} {W : World} (h : CpSL w S P k W) : OwnSz W w.heap.size P := ⟨h.s.e, h.s.n, h.s.k, h.l, h.un⟩
theorem OwnSz.off {w w' : World} {base g : Nat} {S : Swg} {cs : Array Value} (h : OwnSz w base S) (hg : w.heap[g]? = some (.cells cs 45 (0, 0))) (ht : Touch [g] w w') : OwnSz w' base S :=
 ⟨h.e.touchS ht (fun x hx hy => h.e.notT (by decide) hg ((List.mem_singleton.1 hy) ▸ hx)), h.n.off2 hg (by decide) (by decide) ht, h.k.touchS ht (fun x hx hy => h.k.notT (by decide) hg ((List.mem_singleton.1 hy) ▸ hx)), h.l.box hg (by decide) (by decide) (by decide) ht, h.un⟩
theorem OG.at0 {t : TypeId} {sz : Nat} {w : World} {base : Nat} {a : Option Addr} {n c : Nat} {xs : List Value} (h : OG t sz w base a n c xs) (h0 : 0 < n) : ∃ g cur, a = some ⟨g, 0, none⟩ ∧ w.heap[g]? = some (.cells cur t (0, 0)) ∧ n * sz ≤ cur.size ∧ ∀ j, j < n * sz → cur[j]? = xs[j]? := by
 rcases h.2 with ⟨e, h1⟩ | ⟨g, cap, cur, e, hg, hbk, hn, hm, hs, ht⟩
 ·
  omega
 ·
  cases e
  refine ⟨g, cur, rfl, hbk, ?_, fun j hj => ?_⟩
  ·
   rw [hs]
   exact Nat.mul_le_mul_right _ hn
  ·
   rw [← ht, List.getElem?_take_of_lt hj, Array.getElem?_toList]
theorem rdFr {w : World} {g : Nat} {x : Pkt} {t : TypeId} (h : w.heap[g]? = some (.cells x.cells t (0, 0))) : ∀ j, j < 5 → w.cell? ⟨g, 3 + j, none⟩ = (#[.int .i64 x.k, .int .i64 x.d, .int .i64 x.s, .int .i64 x.p, .string x.b] : Array Value)[j]? := by
 intro j hj
 rw [blk_cell h]
 match j, hj with
 | 0, _ => rfl
 | 1, _ => rfl
 | 2, _ => rfl
 | 3, _ => rfl
 | 4, _ => rfl
theorem frAt (x : Pkt) (j : Nat) (hj : j < 5) : x.cells[3 + j]? = (#[.int .i64 x.k, .int .i64 x.d, .int .i64 x.s, .int .i64 x.p, .string x.b] : Array Value)[j]? := by
 match j, hj with
 | 0, _ => rfl
 | 1, _ => rfl
 | 2, _ => rfl
 | 3, _ => rfl
 | 4, _ => rfl
set_option maxRecDepth 100000 in
set_option maxHeartbeats 3000000 in
theorem copySwitch_any (S : Swg) (w : World) (hs : S.Small) (hU : 0 < S.N.nU) (hPp : 0 < S.N.nP) (h : RdSg w S) :
  Calls Tryz.prog 93 #[.agg S.cells] w fun e w' => ∃ S2, e = .returned (.agg S2.cells) ∧ AlikeG S S2 ∧ OwnSz w' w.heap.size S2 ∧ Below w.heap.size w w' := by
 have HR : Hid (RdSg w S) := h
 have HS : Hid S.Small := hs
 have HU0 : Hid (0 < S.N.nU ∧ 0 < S.N.nP) := ⟨hU, hPp⟩
 clear h hs hU hPp
 obtain ⟨W0, eW⟩ : ∃ W, (((w.alloc (.cells S.cells 45)).alloc (.cells #[.int .i64 0, .int .i64 0, .int .i64 0, .int .i64 0, .int .i64 0, .int .i64 0, .int .i64 0, .int .i64 0, .int .i64 0, .slice none 0 0, .slice none 0 0, .int .i64 0, .slice none 0 0, .slice none 0 0, .slice none 0 0, .int .i64 0, .int .i64 0] 45)).alloc (.cells #[.int .i64 0, .int .i64 0, .int .i64 0, .int .i64 0, .int .i64 0, .int .i64 0, .int .i64 0, .int .i64 0, .int .i64 0, .slice none 0 0, .slice none 0 0, .int .i64 0, .slice none 0 0, .slice none 0 0, .slice none 0 0, .int .i64 0, .int .i64 0] 45)) = W := ⟨_, rfl⟩
 have HX : Hid (Boxes w S.cells #[.int .i64 0, .int .i64 0, .int .i64 0, .int .i64 0, .int .i64 0, .int .i64 0, .int .i64 0, .int .i64 0, .int .i64 0, .slice none 0 0, .slice none 0 0, .int .i64 0, .slice none 0 0, .slice none 0 0, .slice none 0 0, .int .i64 0, .int .i64 0] #[.int .i64 0, .int .i64 0, .int .i64 0, .int .i64 0, .int .i64 0, .int .i64 0, .int .i64 0, .int .i64 0, .int .i64 0, .slice none 0 0, .slice none 0 0, .int .i64 0, .slice none 0 0, .slice none 0 0, .slice none 0 0, .int .i64 0, .int .i64 0] 45 45 W0) := by rw [← eW]; exact Boxes.start _ _ _ _ _ _
 have HL0 : Hid (∀ j, j < 17 → ((w.alloc (.cells S.cells 45)).alloc (.cells #[.int .i64 0, .int .i64 0, .int .i64 0, .int .i64 0, .int .i64 0, .int .i64 0, .int .i64 0, .int .i64 0, .int .i64 0, .slice none 0 0, .slice none 0 0, .int .i64 0, .slice none 0 0, .slice none 0 0, .slice none 0 0, .int .i64 0, .int .i64 0] 45)).cell? ⟨w.heap.size, 0 + j, none⟩ = S.cells[j]?) := fun j _ => by rw [Nat.zero_add]; exact blk_cell (Two.start w S.cells #[.int .i64 0, .int .i64 0, .int .i64 0, .int .i64 0, .int .i64 0, .int .i64 0, .int .i64 0, .int .i64 0, .int .i64 0, .slice none 0 0, .slice none 0 0, .int .i64 0, .slice none 0 0, .slice none 0 0, .slice none 0 0, .int .i64 0, .int .i64 0] 45).a j
 have HC : Hid (W0.heap[w.heap.size + 1 + 1]? = some (.cells #[.int .i64 0, .int .i64 0, .int .i64 0, .int .i64 0, .int .i64 0, .int .i64 0, .int .i64 0, .int .i64 0, .int .i64 0, .slice none 0 0, .slice none 0 0, .int .i64 0, .slice none 0 0, .slice none 0 0, .slice none 0 0, .int .i64 0, .int .i64 0] 45 (0, 0))) := HX.out.c
 go_enter Tryz.func93, Tryz.ntmps93
 go_wp2_with (first | refine wpList_ldT rfl 45 17 _ Tryz.underlying45 rfl infoSgI (.tmp 1) rfl w.heap.size 0 rfl S.cells rfl HL0.out ?_ | refine wpList_stA rfl 45 (.tmp 3) (.tmp 8) rfl (w.heap.size + 1 + 1) 0 rfl (.agg S.cells) rfl 17 rfl 45 _ HC.out infoSgI (Nat.le_of_ble_eq_true rfl) (Swg.oneC _) ?_)
 clear HL0
 intro W1 hP
 clear eW
 replace hP := hP.cast (cs' := #[.int .i64 S.C.p, .int .i64 S.C.c, .int .i64 S.C.xo, .int .i64 S.C.xn, .int .i64 S.C.hd, .int .i64 S.C.lo, .int .i64 S.C.dl, .int .i64 S.now, .int .i64 S.nx, .slice S.aE S.nE S.cE, .slice S.N.aU S.N.nU S.N.cU, .int .i64 S.N.lo, .slice S.N.aP S.N.nP S.N.cP, .slice S.aK S.nK S.cK, .slice S.aL S.nL S.cL, .int .i64 S.dr, .int .i64 S.lst]) rfl
 replace HX : Hid (Boxes w S.cells #[.int .i64 0, .int .i64 0, .int .i64 0, .int .i64 0, .int .i64 0, .int .i64 0, .int .i64 0, .int .i64 0, .int .i64 0, .slice none 0 0, .slice none 0 0, .int .i64 0, .slice none 0 0, .slice none 0 0, .slice none 0 0, .int .i64 0, .int .i64 0] #[.int .i64 S.C.p, .int .i64 S.C.c, .int .i64 S.C.xo, .int .i64 S.C.xn, .int .i64 S.C.hd, .int .i64 S.C.lo, .int .i64 S.C.dl, .int .i64 S.now, .int .i64 S.nx, .slice S.aE S.nE S.cE, .slice S.N.aU S.N.nU S.N.cU, .int .i64 S.N.lo, .slice S.N.aP S.N.nP S.N.cP, .slice S.aK S.nK S.cK, .slice S.aL S.nL S.cL, .int .i64 S.dr, .int .i64 S.lst] 45 45 W1) := HX.out.put hP
 have T1 : Touch [w.heap.size + 1, w.heap.size + 1 + 1] W0 W1 := hP.to.mono (fun x hx => by simp at hx; simp [hx])
 clear hP HC 
 have c9 : W1.cell? ⟨w.heap.size, 9, none⟩ = some (.slice S.aE S.nE S.cE) := blk_cell HX.out.a 9
 go_wp2_with fail
 refine (copyOfE_any S.aE S.nE S.cE S.e _ HS.out.e (HR.out.e.up HX.out.bel)).mono ?_
 rintro e we ⟨aE, cE, rfl, rE, hb⟩
 clear c9
 have sE := HX.out.sz
 replace HX : Hid (Boxes w S.cells #[.int .i64 0, .int .i64 0, .int .i64 0, .int .i64 0, .int .i64 0, .int .i64 0, .int .i64 0, .int .i64 0, .int .i64 0, .slice none 0 0, .slice none 0 0, .int .i64 0, .slice none 0 0, .slice none 0 0, .slice none 0 0, .int .i64 0, .int .i64 0] #[.int .i64 S.C.p, .int .i64 S.C.c, .int .i64 S.C.xo, .int .i64 S.C.xn, .int .i64 S.C.hd, .int .i64 S.C.lo, .int .i64 S.C.dl, .int .i64 S.now, .int .i64 S.nx, .slice S.aE S.nE S.cE, .slice S.N.aU S.N.nU S.N.cU, .int .i64 S.N.lo, .slice S.N.aP S.N.nP S.N.cP, .slice S.aK S.nK S.cK, .slice S.aL S.nL S.cL, .int .i64 S.dr, .int .i64 S.lst] 45 45 we) := HX.out.up hb
 have T2 : Touch [w.heap.size + 1, w.heap.size + 1 + 1] W1 we := Touch.ofBelow hb
 clear hb
 have HC := HX.out.c
 replace HC : Hid (we.heap[w.heap.size + 1 + 1]? = some (.cells #[.int .i64 S.C.p, .int .i64 S.C.c, .int .i64 S.C.xo, .int .i64 S.C.xn, .int .i64 S.C.hd, .int .i64 S.C.lo, .int .i64 S.C.dl, .int .i64 S.now, .int .i64 S.nx, .slice S.aE S.nE S.cE, .slice S.N.aU S.N.nU S.N.cU, .int .i64 S.N.lo, .slice S.N.aP S.N.nP S.N.cP, .slice S.aK S.nK S.cK, .slice S.aL S.nL S.cL, .int .i64 S.dr, .int .i64 S.lst] 45 (0, 0))) := HC
 go_wp2_with (refine wpList_stA rfl 40 (.tmp 12) (.tmp 11) rfl (w.heap.size + 1 + 1) 9 rfl (.slice aE S.nE cE) rfl 1 rfl 45 _ HC.out infoEs (Nat.le_of_ble_eq_true rfl) (by simp [Value.cells, Value.oneCell', Rnd.cells, Cfg.cells, Cnt.cells]) ?_)
 intro W3 hP
 replace hP := hP.cast (cs' := #[.int .i64 S.C.p, .int .i64 S.C.c, .int .i64 S.C.xo, .int .i64 S.C.xn, .int .i64 S.C.hd, .int .i64 S.C.lo, .int .i64 S.C.dl, .int .i64 S.now, .int .i64 S.nx, .slice aE S.nE cE, .slice S.N.aU S.N.nU S.N.cU, .int .i64 S.N.lo, .slice S.N.aP S.N.nP S.N.cP, .slice S.aK S.nK S.cK, .slice S.aL S.nL S.cL, .int .i64 S.dr, .int .i64 S.lst]) rfl
 replace HX : Hid (Boxes w S.cells #[.int .i64 0, .int .i64 0, .int .i64 0, .int .i64 0, .int .i64 0, .int .i64 0, .int .i64 0, .int .i64 0, .int .i64 0, .slice none 0 0, .slice none 0 0, .int .i64 0, .slice none 0 0, .slice none 0 0, .slice none 0 0, .int .i64 0, .int .i64 0] #[.int .i64 S.C.p, .int .i64 S.C.c, .int .i64 S.C.xo, .int .i64 S.C.xn, .int .i64 S.C.hd, .int .i64 S.C.lo, .int .i64 S.C.dl, .int .i64 S.now, .int .i64 S.nx, .slice aE S.nE cE, .slice S.N.aU S.N.nU S.N.cU, .int .i64 S.N.lo, .slice S.N.aP S.N.nP S.N.cP, .slice S.aK S.nK S.cK, .slice S.aL S.nL S.cL, .int .i64 S.dr, .int .i64 S.lst] 45 45 W3) := HX.out.put hP
 have T3 : Touch [w.heap.size + 1, w.heap.size + 1 + 1] we W3 := hP.to.mono (fun x hx => by simp at hx; simp [hx])
 clear hP HC 
 have c10 : W3.cell? ⟨w.heap.size, 10, none⟩ = some (.slice S.N.aU S.N.nU S.N.cU) := blk_cell HX.out.a 10
 have c11 : W3.cell? ⟨w.heap.size, 11, none⟩ = some (.int .i64 S.N.lo) := blk_cell HX.out.a 11
 have c12 : W3.cell? ⟨w.heap.size, 12, none⟩ = some (.slice S.N.aP S.N.nP S.N.cP) := blk_cell HX.out.a 12
 go_wp2_with fail
 refine (copyCounts_any S.N _ HU0.out.1 HU0.out.2 HS.out.n (HR.out.n.up HX.out.bel)).mono ?_
 rintro e wn ⟨M, rfl, rN, hb, aN⟩
 clear c10 c11 c12
 have sN := HX.out.sz
 replace HX : Hid (Boxes w S.cells #[.int .i64 0, .int .i64 0, .int .i64 0, .int .i64 0, .int .i64 0, .int .i64 0, .int .i64 0, .int .i64 0, .int .i64 0, .slice none 0 0, .slice none 0 0, .int .i64 0, .slice none 0 0, .slice none 0 0, .slice none 0 0, .int .i64 0, .int .i64 0] #[.int .i64 S.C.p, .int .i64 S.C.c, .int .i64 S.C.xo, .int .i64 S.C.xn, .int .i64 S.C.hd, .int .i64 S.C.lo, .int .i64 S.C.dl, .int .i64 S.now, .int .i64 S.nx, .slice aE S.nE cE, .slice S.N.aU S.N.nU S.N.cU, .int .i64 S.N.lo, .slice S.N.aP S.N.nP S.N.cP, .slice S.aK S.nK S.cK, .slice S.aL S.nL S.cL, .int .i64 S.dr, .int .i64 S.lst] 45 45 wn) := HX.out.up hb
 have T4 : Touch [w.heap.size + 1, w.heap.size + 1 + 1] W3 wn := Touch.ofBelow hb
 clear hb
 have HC := HX.out.c
 replace HC : Hid (wn.heap[w.heap.size + 1 + 1]? = some (.cells #[.int .i64 S.C.p, .int .i64 S.C.c, .int .i64 S.C.xo, .int .i64 S.C.xn, .int .i64 S.C.hd, .int .i64 S.C.lo, .int .i64 S.C.dl, .int .i64 S.now, .int .i64 S.nx, .slice aE S.nE cE, .slice S.N.aU S.N.nU S.N.cU, .int .i64 S.N.lo, .slice S.N.aP S.N.nP S.N.cP, .slice S.aK S.nK S.cK, .slice S.aL S.nL S.cL, .int .i64 S.dr, .int .i64 S.lst] 45 (0, 0))) := HC
 go_wp2_with (refine wpList_stA rfl 41 (.tmp 16) (.tmp 15) rfl (w.heap.size + 1 + 1) 10 rfl (.agg M.cells) rfl 3 rfl 45 _ HC.out infoCn (Nat.le_of_ble_eq_true rfl) (by simp [Value.cells, Value.oneCell', Rnd.cells, Cfg.cells, Cnt.cells]) ?_)
 intro W5 hP
 replace hP := hP.cast (cs' := #[.int .i64 S.C.p, .int .i64 S.C.c, .int .i64 S.C.xo, .int .i64 S.C.xn, .int .i64 S.C.hd, .int .i64 S.C.lo, .int .i64 S.C.dl, .int .i64 S.now, .int .i64 S.nx, .slice aE S.nE cE, .slice M.aU M.nU M.cU, .int .i64 M.lo, .slice M.aP M.nP M.cP, .slice S.aK S.nK S.cK, .slice S.aL S.nL S.cL, .int .i64 S.dr, .int .i64 S.lst]) rfl
 replace HX : Hid (Boxes w S.cells #[.int .i64 0, .int .i64 0, .int .i64 0, .int .i64 0, .int .i64 0, .int .i64 0, .int .i64 0, .int .i64 0, .int .i64 0, .slice none 0 0, .slice none 0 0, .int .i64 0, .slice none 0 0, .slice none 0 0, .slice none 0 0, .int .i64 0, .int .i64 0] #[.int .i64 S.C.p, .int .i64 S.C.c, .int .i64 S.C.xo, .int .i64 S.C.xn, .int .i64 S.C.hd, .int .i64 S.C.lo, .int .i64 S.C.dl, .int .i64 S.now, .int .i64 S.nx, .slice aE S.nE cE, .slice M.aU M.nU M.cU, .int .i64 M.lo, .slice M.aP M.nP M.cP, .slice S.aK S.nK S.cK, .slice S.aL S.nL S.cL, .int .i64 S.dr, .int .i64 S.lst] 45 45 W5) := HX.out.put hP
 have T5 : Touch [w.heap.size + 1, w.heap.size + 1 + 1] wn W5 := hP.to.mono (fun x hx => by simp at hx; simp [hx])
 clear hP HC 
 have c13 : W5.cell? ⟨w.heap.size, 13, none⟩ = some (.slice S.aK S.nK S.cK) := blk_cell HX.out.a 13
 go_wp2_with fail
 refine (copyOfK_any S.aK S.nK S.cK S.K _ HS.out.k (HR.out.k.up HX.out.bel)).mono ?_
 rintro e wk ⟨aK, cK, rfl, rK, hb⟩
 clear c13
 have sK := HX.out.sz
 replace HX : Hid (Boxes w S.cells #[.int .i64 0, .int .i64 0, .int .i64 0, .int .i64 0, .int .i64 0, .int .i64 0, .int .i64 0, .int .i64 0, .int .i64 0, .slice none 0 0, .slice none 0 0, .int .i64 0, .slice none 0 0, .slice none 0 0, .slice none 0 0, .int .i64 0, .int .i64 0] #[.int .i64 S.C.p, .int .i64 S.C.c, .int .i64 S.C.xo, .int .i64 S.C.xn, .int .i64 S.C.hd, .int .i64 S.C.lo, .int .i64 S.C.dl, .int .i64 S.now, .int .i64 S.nx, .slice aE S.nE cE, .slice M.aU M.nU M.cU, .int .i64 M.lo, .slice M.aP M.nP M.cP, .slice S.aK S.nK S.cK, .slice S.aL S.nL S.cL, .int .i64 S.dr, .int .i64 S.lst] 45 45 wk) := HX.out.up hb
 have T6 : Touch [w.heap.size + 1, w.heap.size + 1 + 1] W5 wk := Touch.ofBelow hb
 clear hb
 have HC := HX.out.c
 replace HC : Hid (wk.heap[w.heap.size + 1 + 1]? = some (.cells #[.int .i64 S.C.p, .int .i64 S.C.c, .int .i64 S.C.xo, .int .i64 S.C.xn, .int .i64 S.C.hd, .int .i64 S.C.lo, .int .i64 S.C.dl, .int .i64 S.now, .int .i64 S.nx, .slice aE S.nE cE, .slice M.aU M.nU M.cU, .int .i64 M.lo, .slice M.aP M.nP M.cP, .slice S.aK S.nK S.cK, .slice S.aL S.nL S.cL, .int .i64 S.dr, .int .i64 S.lst] 45 (0, 0))) := HC
 go_wp2_with (refine wpList_stA rfl 42 (.tmp 20) (.tmp 19) rfl (w.heap.size + 1 + 1) 13 rfl (.slice aK S.nK cK) rfl 1 rfl 45 _ HC.out infoKs (Nat.le_of_ble_eq_true rfl) (by simp [Value.cells, Value.oneCell', Rnd.cells, Cfg.cells, Cnt.cells]) ?_)
 intro W7 hP
 replace hP := hP.cast (cs' := #[.int .i64 S.C.p, .int .i64 S.C.c, .int .i64 S.C.xo, .int .i64 S.C.xn, .int .i64 S.C.hd, .int .i64 S.C.lo, .int .i64 S.C.dl, .int .i64 S.now, .int .i64 S.nx, .slice aE S.nE cE, .slice M.aU M.nU M.cU, .int .i64 M.lo, .slice M.aP M.nP M.cP, .slice aK S.nK cK, .slice S.aL S.nL S.cL, .int .i64 S.dr, .int .i64 S.lst]) rfl
 replace HX : Hid (Boxes w S.cells #[.int .i64 0, .int .i64 0, .int .i64 0, .int .i64 0, .int .i64 0, .int .i64 0, .int .i64 0, .int .i64 0, .int .i64 0, .slice none 0 0, .slice none 0 0, .int .i64 0, .slice none 0 0, .slice none 0 0, .slice none 0 0, .int .i64 0, .int .i64 0] #[.int .i64 S.C.p, .int .i64 S.C.c, .int .i64 S.C.xo, .int .i64 S.C.xn, .int .i64 S.C.hd, .int .i64 S.C.lo, .int .i64 S.C.dl, .int .i64 S.now, .int .i64 S.nx, .slice aE S.nE cE, .slice M.aU M.nU M.cU, .int .i64 M.lo, .slice M.aP M.nP M.cP, .slice aK S.nK cK, .slice S.aL S.nL S.cL, .int .i64 S.dr, .int .i64 S.lst] 45 45 W7) := HX.out.put hP
 have T7 : Touch [w.heap.size + 1, w.heap.size + 1 + 1] wk W7 := hP.to.mono (fun x hx => by simp at hx; simp [hx])
 clear hP HC 
 obtain ⟨P, eP⟩ : ∃ P, (⟨S.C, S.now, S.nx, aE, S.nE, cE, S.e, M, aK, S.nK, cK, S.K, S.aL, S.nL, S.cL, S.L, S.dr, S.lst⟩ : Swg) = P := ⟨_, rfl⟩
 have e3 : #[.int .i64 S.C.p, .int .i64 S.C.c, .int .i64 S.C.xo, .int .i64 S.C.xn, .int .i64 S.C.hd, .int .i64 S.C.lo, .int .i64 S.C.dl, .int .i64 S.now, .int .i64 S.nx, .slice aE S.nE cE, .slice M.aU M.nU M.cU, .int .i64 M.lo, .slice M.aP M.nP M.cP, .slice aK S.nK cK, .slice S.aL S.nL S.cL, .int .i64 S.dr, .int .i64 S.lst] = P.cells := by rw [← eP]; rfl
 rw [e3] at HX
 clear e3
 have hlow : ∀ x ∈ [w.heap.size + 1, w.heap.size + 1 + 1], x < w.heap.size + 1 + 1 + 1 := by intro x hx; simp at hx; omega
 have HA : Hid (CpA S P) := by rw [← eP]; exact ⟨rfl, rfl, rfl, rfl, rfl, aN, rfl, rfl, rfl, rfl⟩
 have HP : Hid (CpS w S P W7 ∧ P.nK = S.nK ∧ P.K = S.K) := by
  rw [← eP] at HX ⊢
  exact ⟨⟨HX.out, OG.mono (rE.low ((((T3.trans T4).trans T5).trans T6).trans T7) (fun x hx => by have := hlow x hx; omega)) (by omega), OwnCn.mono (rN.touch ((T5.trans T6).trans T7) (fun x hx => by have := hlow x hx; omega)) (by omega), OG.mono (rK.low T7 (fun x hx => by have := hlow x hx; omega)) (by omega)⟩, rfl, rfl⟩
 clear HX eP rE rN rK aN sE sN sK hlow T1 T2 T3 T4 T5 T6 T7
 have HU : Hid (RdPk w S.aK S.nK S.K) := HR.out.k
 obtain ⟨aK0, eU⟩ : ∃ a, S.aK = a := ⟨_, rfl⟩
 have c13 : W7.cell? ⟨w.heap.size, 13, none⟩ = some (.slice aK0 S.nK S.cK) := by rw [← eU]; exact blk_cell HP.out.1.x.a 13
 rw [eU] at HU
 clear eU
 have hnk := HS.out.k
 go_wp2_with fail
 clear c13
 go_loopw [24] (fun i wr => ∃ k : Nat, k ≤ S.nK ∧ i = .int .i64 k ∧ Hid (CpS w S P wr ∧ P.nK = S.nK ∧ P.K = S.K)) (fun i _ => S.nK - (intOf i).toNat)
 case atStart => exact ⟨0, Nat.zero_le _, rfl, HP⟩
 case round =>
  clear HP
  obtain ⟨k, hk, rfl, HP⟩ := hrel
  by_cases hlt : k < S.nK
  ·
   have hlt' : (k : Int) < S.nK := by omega
   obtain ⟨g0, o0, ea, hc⟩ := (HU.out.up HP.out.1.x.bel) k hlt
   subst ea
   have HCk : Hid (∀ j, j < 8 → wr.cell? ⟨g0, o0 + k * 8 + j, none⟩ = (S.K k).cells[j]?) := hc
   clear hc
   have HG : Hid ((wr.alloc (.cells #[.int .i64 0, .int .i64 0, .int .i64 0, .int .i64 0, .int .i64 0, .int .i64 0, .int .i64 0, .string ⟨#[]⟩] 112)).heap[wr.heap.size]? = some (.cells #[.int .i64 0, .int .i64 0, .int .i64 0, .int .i64 0, .int .i64 0, .int .i64 0, .int .i64 0, .string ⟨#[]⟩] 112 (0, 0))) := blk_new _ _
   go_wp2_with (first | refine wpList_ldT rfl 112 8 _ Tryz.underlying112 rfl infoPkI (.tmp 27) rfl g0 (o0 + k * 8) rfl (S.K k).cells rfl HCk.out ?_ | refine wpList_stA rfl 112 (.tmp 5) (.tmp 28) rfl wr.heap.size 0 rfl (.agg (S.K k).cells) rfl 8 rfl 112 _ HG.out infoPkI (Nat.le_of_ble_eq_true rfl) (Pkt.oneC _) ?_)
   intro X0 hP
   replace hP : Put _ X0 wr.heap.size (S.K k).cells 112 := hP.cast rfl
   have hb : Below wr.heap.size wr X0 := ((Below.refl _ _).alloc (Nat.le_refl _) _).trans (hP.to.below (by simp) (fun x hx => by simp at hx; omega))
   have kP := hP.blk
   replace HP : Hid (CpS w S P X0 ∧ P.nK = S.nK ∧ P.K = S.K) := ⟨HP.out.1.up hb, HP.out.2⟩
   clear hP hb HG HCk
   obtain ⟨gP, egP⟩ : ∃ g, wr.heap.size = g := ⟨_, rfl⟩
   rw [egP] at kP ⊢
   clear egP
   go_wp2_with fail
   refine wp_region_E (fun w' => w'.heap[w.heap.size + 1 + 1]? = some (.cells P.cells 45 (0, 0)) ∧ w'.heap[gP]? = some (.cells (S.K k).cells 112 (0, 0))) 8 (by kernel_rfl) ?_
   have hd : Below X0.heap.size X0 X0.drew := (Below.refl _ _).drew
   replace HP : Hid (CpS w S P X0.drew ∧ P.nK = S.nK ∧ P.K = S.K) := ⟨HP.out.1.up hd, HP.out.2⟩
   replace kP := (hd.block _ (blk_lt kP)).trans kP
   clear hd
   generalize X0.drew = V at *
   obtain ⟨gK, cur, eaK, hkK, hsK, hcK⟩ := HP.out.1.k.at0 (by rw [HP.out.2.1]; omega)
   rw [HP.out.2.1, HP.out.2.2] at hcK
   rw [HP.out.2.1] at hsK
   have HaK : Hid (P.aK = some ⟨gK, 0, none⟩) := eaK
   have HcK : Hid (∀ j, j < S.nK * 8 → cur[j]? = (pksV S.nK S.K)[j]?) := hcK
   clear eaK hcK
   have hT0 : V.heap[w.heap.size + 1 + 1]? = some (.cells P.cells 45 (0, 0)) ∧ V.heap[gP]? = some (.cells (S.K k).cells 112 (0, 0)) := ⟨HP.out.1.x.c, kP⟩
   refine takeE (i := 0) (some 29) (v := ?_) ?_ hT0 ?_
   rotate_left
   ·
    intro wx hSw
    go_simp
    try with_reducible rfl
   try simp only [Act.put, PZ]
   refine takeE (i := 1) (some 30) (v := ?_) ?_ hT0 ?_
   rotate_left
   ·
    intro wx hSw
    have c13 : wx.cell? ⟨w.heap.size + 1 + 1, 13, none⟩ = some (.slice (some ⟨gK, 0, none⟩) S.nK P.cK) := by rw [blk_cell hSw.1 13, ← HaK.out, ← HP.out.2.1]; rfl
    go_simp
    try with_reducible rfl
   try simp only [Act.put, PZ]
   refine takeE (i := 2) (some 31) (v := ?_) ?_ hT0 ?_
   rotate_left
   ·
    intro wx hSw
    go_simp
    try with_reducible rfl
   try simp only [Act.put, PZ]
   refine takeE (i := 3) (some 32) (v := ?_) ?_ hT0 ?_
   rotate_left
   ·
    intro wx hSw
    go_simp
    try with_reducible rfl
   try simp only [Act.put, PZ]
   refine takeE (i := 4) (some 33) (v := .agg #[.int .i64 (S.K k).k, .int .i64 (S.K k).d, .int .i64 (S.K k).s, .int .i64 (S.K k).p, .string (S.K k).b]) ?_ hT0 ?_
   ·
    intro wx hSw
    exact run_ldT 110 5 _ Tryz.underlying110 rfl infoFrI (.tmp 32) rfl gP 3 rfl _ rfl (fun j hj => rdFr hSw.2 j hj)
   try simp only [Act.put, PZ]
   refine wpAnyE_ready (rs := [5]) (by kernel_rfl) (by simp) ?_
   refine AllReadyE.cons rfl (fun K hK => ?_) AllReadyE.nil
   go_simp
   refine (copyFrame_any _ _ _ _ _ _ (HS.out.b k hlt)).mono ?_
   rintro e X1 ⟨rfl, hb⟩
   replace HP : Hid (CpS w S P X1 ∧ P.nK = S.nK ∧ P.K = S.K) := ⟨HP.out.1.up hb, HP.out.2⟩
   replace kP := (hb.block _ (blk_lt kP)).trans kP
   replace hkK := (hb.block _ (blk_lt hkK)).trans hkK
   clear hb hT0
   go_wp2_with fail
   refine hK.out _ _ ⟨HP.out.1.x.c, kP⟩ ?_
   clear hK K
   try simp only [Act.put, PZ]
   have hT0 : X1.heap[w.heap.size + 1 + 1]? = some (.cells P.cells 45 (0, 0)) ∧ X1.heap[gP]? = some (.cells (S.K k).cells 112 (0, 0)) := ⟨HP.out.1.x.c, kP⟩
   refine wpAnyE_ready (rs := [6]) (by kernel_rfl) (by simp) ?_
   refine AllReadyE.cons rfl (fun K hK => ?_) AllReadyE.nil
   go_simp
   refine hK.out _ _ hT0 ?_
   clear hK K
   try simp only [Act.put, PZ]
   refine wpAnyE_ready (rs := [7]) (by kernel_rfl) (by simp) ?_
   refine AllReadyE.cons rfl (fun K hK => ?_) AllReadyE.nil
   go_simp
   refine hK.out _ _ hT0 ?_
   clear hK K
   try simp only [Act.put, PZ]
   refine wpAnyE_ready (rs := [8]) (by kernel_rfl) (by simp) ?_
   refine AllReadyE.last rfl (fun K hK => ?_)
   refine wp_stE (by kernel_rfl) none rfl 110 (.tmp 36) (.tmp 34) rfl gK (k * 8 + 3) (by simp [Act.eval]) (.agg #[.int .i64 (S.K k).k, .int .i64 (S.K k).d, .int .i64 (S.K k).s, .int .i64 (S.K k).p, .string (S.K k).b]) rfl 5 rfl 112 _ hkK infoFrI (by omega) (by simp [Value.cells, Value.oneCell']) ?_
   intro X2 hP
   refine hK.out _ _ ?_
   clear hK K
   try simp only [Act.put, PZ]
   refine wpAnyE_done (by kernel_rfl) ?_ _
   replace hP : Put X1 X2 gK cur 112 := hP.cast (lay_self (by show k * 8 + 3 + 5 ≤ _; omega) (fun j hj => by
    have hj5 : j < 5 := hj
    have h8 := HcK.out (k * 8 + (3 + j)) (by omega)
    rw [pksV_get _ _ _ _ hlt (by omega)] at h8
    rw [Nat.add_assoc, h8]
    exact frAt (S.K k) j hj5))
   have HN : Hid (CpS w S P X2 ∧ P.nK = S.nK ∧ P.K = S.K) := ⟨HP.out.1.up (hP.same hkK), HP.out.2⟩
   clear hP kP hkK HP HaK HcK hsK hT0
   go_wp2_with fail
   go_roundw
   case rel => exact ⟨k + 1, by omega, by go_num, HN⟩
   case measure => simp [intOf]; omega
  ·
   obtain rfl : k = S.nK := by omega
   have HC : Hid (wr.heap[w.heap.size + 1 + 1]? = some (.cells P.cells 45 (0, 0))) := HP.out.1.x.c
   go_wp2_with (refine wpList_stA rfl 43 (.tmp 38) (.const (.slice none 0 0)) rfl (w.heap.size + 1 + 1) 14 rfl (.slice none 0 0) rfl 1 rfl 45 _ HC.out infoLs (Nat.le_of_ble_eq_true rfl) (by simp [Value.cells, Value.oneCell']) ?_)
   intro X0 hP
   obtain ⟨P1, eP1⟩ : ∃ P1, ({ P with aL := none, nL := 0, cL := 0 } : Swg) = P1 := ⟨_, rfl⟩
   replace hP : Put wr X0 (w.heap.size + 1 + 1) P1.cells 45 := hP.cast (by rw [← eP1]; rfl)
   have HP1 : Hid (CpSL w S P1 0 X0) := by
    have q := HP.out.1
    rw [← eP1] at hP ⊢
    exact ⟨⟨q.x.put hP, q.e.touchS hP.to (fun x hx hy => q.e.notT (by decide) q.x.c ((List.mem_singleton.1 hy) ▸ hx)), q.n.off2 q.x.c (by decide) (by decide) hP.to, q.k.touchS hP.to (fun x hx hy => q.k.notT (by decide) q.x.c ((List.mem_singleton.1 hy) ▸ hx))⟩, ⟨HA.out.c, HA.out.now, HA.out.nx, HA.out.nE, HA.out.e, HA.out.n, HA.out.nK, HA.out.k, HA.out.dr, HA.out.lst⟩, OwnLs.nil _ _ _, fun x hx hy => by simp at hy, rfl, fun i hi => absurd hi (Nat.not_lt_zero _)⟩
   clear hP HC HP eP1 HA HU
   have HU : Hid (RdLs w S.aL S.nL S.L) := HR.out.l
   obtain ⟨aL0, eU⟩ : ∃ a, S.aL = a := ⟨_, rfl⟩
   have c14 : X0.cell? ⟨w.heap.size, 14, none⟩ = some (.slice aL0 S.nL S.cL) := by rw [← eU]; exact blk_cell HP1.out.s.x.a 14
   rw [eU] at HU
   clear eU
   have hnl := HS.out.l
   go_wp2_with fail
   clear c14
   go_loopw [42] (fun i wr => ∃ (k : Nat) (P : Swg), k ≤ S.nL ∧ i = .int .i64 k ∧ Hid (CpSL w S P k wr)) (fun i _ => S.nL - (intOf i).toNat)
   case atStart => exact ⟨0, P1, Nat.zero_le _, rfl, HP1⟩
   case round =>
    clear HP1
    obtain ⟨k, P, hk, rfl, HP⟩ := hrel
    by_cases hlt : k < S.nL
    ·
     have hlt' : (k : Int) < S.nL := by omega
     obtain ⟨g0, o0, ea, hc⟩ := (HU.out.up HP.out.s.x.bel) k hlt
     have HP0 : Hid (∀ x ∈ blkO P.aL, x < wr.heap.size) := fun x hx => (HP.out.l.l.blk x hx).2
     subst ea
     have HCk : Hid (∀ j, j < 8 → wr.cell? ⟨g0, o0 + k * 8 + j, none⟩ = (S.L k).cells[j]?) := hc
     clear hc
     have HG : Hid ((wr.alloc (.cells #[.bool false, .slice none 0 0, .slice none 0 0, .slice none 0 0, .slice none 0 0, .int .i64 0, .bool false, .slice none 0 0] 118)).heap[wr.heap.size]? = some (.cells #[.bool false, .slice none 0 0, .slice none 0 0, .slice none 0 0, .slice none 0 0, .int .i64 0, .bool false, .slice none 0 0] 118 (0, 0))) := blk_new _ _
     go_wp2_with (first | refine wpList_ldT rfl 118 8 _ Tryz.underlying118 rfl infoLgI (.tmp 44) rfl g0 (o0 + k * 8) rfl (S.L k).cells rfl HCk.out ?_ | refine wpList_stA rfl 118 (.tmp 7) (.tmp 45) rfl wr.heap.size 0 rfl (.agg (S.L k).cells) rfl 8 rfl 118 _ HG.out infoLgI (Nat.le_of_ble_eq_true rfl) (Lng.oneC _) ?_)
     intro X0 hP
     replace hP : Put _ X0 wr.heap.size (S.L k).cells 118 := hP.cast rfl
     have hb : Below wr.heap.size wr X0 := ((Below.refl _ _).alloc (Nat.le_refl _) _).trans (hP.to.below (by simp) (fun x hx => by simp at hx; omega))
     have kL := hP.blk
     replace HP : Hid (CpSL w S P k X0) := HP.out.up hb
     have HPl : Hid (∀ x ∈ blkO P.aL, x < wr.heap.size) := fun x hx => (HP0.out x hx)
     clear hP hb HG HCk HP0
     obtain ⟨gL, egL⟩ : ∃ g, wr.heap.size = g := ⟨_, rfl⟩
     rw [egL] at kL HPl ⊢
     clear egL
     go_wp2_with fail
     refine wp_region_E (fun w' => w'.heap[w.heap.size + 1 + 1]? = some (.cells P.cells 45 (0, 0)) ∧ w'.heap[gL]? = some (.cells (S.L k).cells 118 (0, 0))) 7 (by kernel_rfl) ?_
     have hd : Below X0.heap.size X0 X0.drew := (Below.refl _ _).drew
     replace HP : Hid (CpSL w S P k X0.drew) := HP.out.up hd
     replace kL := (hd.block _ (blk_lt kL)).trans kL
     clear hd
     generalize X0.drew = V at *
     have hT0 : V.heap[w.heap.size + 1 + 1]? = some (.cells P.cells 45 (0, 0)) ∧ V.heap[gL]? = some (.cells (S.L k).cells 118 (0, 0)) := ⟨HP.out.s.x.c, kL⟩
     refine takeE (i := 0) (some 46) (v := ?_) ?_ hT0 ?_
     rotate_left
     ·
      intro wx hSw
      go_simp
      try with_reducible rfl
     try simp only [Act.put, PZ]
     refine takeE (i := 1) (some 47) (v := ?_) ?_ hT0 ?_
     rotate_left
     ·
      intro wx hSw
      have c14 : wx.cell? ⟨w.heap.size + 1 + 1, 14, none⟩ = some (.slice P.aL k P.cL) := by rw [blk_cell hSw.1 14, ← HP.out.nL]; rfl
      go_simp
      try with_reducible rfl
     try simp only [Act.put, PZ]
     refine takeE (i := 2) (some 48) (v := .agg (S.L k).cells) ?_ hT0 ?_
     ·
      intro wx hSw
      exact run_ldT 118 8 _ Tryz.underlying118 rfl infoLgI (.tmp 7) rfl gL 0 rfl _ rfl (fun j _ => by rw [Nat.zero_add]; exact blk_cell hSw.2 j)
     try simp only [Act.put, PZ]
     refine wpAnyE_ready (rs := [3]) (by kernel_rfl) (by simp) ?_
     refine AllReadyE.cons rfl (fun K hK => ?_) AllReadyE.nil
     go_simp
     refine (copyLane_any (S.L k) _ (HS.out.ls k hlt) ((HR.out.ls k hlt).up HP.out.s.x.bel)).mono ?_
     rintro e X1 ⟨l2, rfl, al2, ol2, hb⟩
     have HA1 : Hid (AlikeL (S.L k) l2 ∧ OwnLz X1 V.heap.size l2 ∧ Below V.heap.size V X1) := ⟨al2, ol2, hb⟩
     have Q1 := HP.out.up hb
     have hu0 : OG 118 8 X1 w.heap.size P.aL k P.cL (lnsV k P.L) := by have := Q1.l.l; rw [HP.out.nL] at this; exact this
     obtain ⟨g1, c3, X3, hr, hu, ht, hg⟩ := appendOG 43 118 _ 8 144 infoLgZ Tryz.underlying43 rfl (by decide) (by decide) hu0 (by omega) (Nat.le_trans HP.out.s.x.bel.size hb.size) l2.cells rfl (Lng.oneC _)
     have LN : l2.cells = #[.bool l2.st, .slice l2.aT l2.nT l2.cT, .slice l2.aU l2.nU l2.cU, .slice l2.R.aQ l2.R.nQ l2.R.cQ, .slice l2.R.aD l2.R.nD l2.R.cD, .int .i64 l2.R.turn, .bool l2.R.fresh, .slice l2.R.aS l2.R.nS l2.R.cS] := rfl
     rw [LN] at hr ⊢
     have kL1 := (hb.block _ (blk_lt kL)).trans kL
     have hT1 : X1.heap[w.heap.size + 1 + 1]? = some (.cells P.cells 45 (0, 0)) ∧ X1.heap[gL]? = some (.cells (S.L k).cells 118 (0, 0)) := ⟨Q1.s.x.c, kL1⟩
     have hT2 : (X1.alloc (.cells #[.bool l2.st, .slice l2.aT l2.nT l2.cT, .slice l2.aU l2.nU l2.cU, .slice l2.R.aQ l2.R.nQ l2.R.cQ, .slice l2.R.aD l2.R.nD l2.R.cD, .int .i64 l2.R.turn, .bool l2.R.fresh, .slice l2.R.aS l2.R.nS l2.R.cS] 118)).heap[w.heap.size + 1 + 1]? = some (.cells P.cells 45 (0, 0)) ∧ (X1.alloc (.cells #[.bool l2.st, .slice l2.aT l2.nT l2.cT, .slice l2.aU l2.nU l2.cU, .slice l2.R.aQ l2.R.nQ l2.R.cQ, .slice l2.R.aD l2.R.nD l2.R.cD, .int .i64 l2.R.turn, .bool l2.R.fresh, .slice l2.R.aS l2.R.nS l2.R.cS] 118)).heap[gL]? = some (.cells (S.L k).cells 118 (0, 0)) := ⟨(blk_old _ (blk_lt hT1.1)).trans hT1.1, (blk_old _ (blk_lt hT1.2)).trans hT1.2⟩
     have hnL : gL ∉ blkO P.aL := fun hx => by have := (HPl.out gL hx); omega
     have hT3 : X3.heap[w.heap.size + 1 + 1]? = some (.cells P.cells 45 (0, 0)) ∧ X3.heap[gL]? = some (.cells (S.L k).cells 118 (0, 0)) := ⟨(ht.block _ (blk_lt hT1.1) (hu0.notT (by decide) hT1.1)).trans hT1.1, (ht.block _ (blk_lt hT1.2) hnL).trans hT1.2⟩
     have HN3 : Hid (OG 118 8 X3 w.heap.size (some ⟨g1, 0, none⟩) (k + 1) c3 (lnsV k P.L ++ l2.cells.toList) ∧ Touch (blkO P.aL) X1 X3) := ⟨hu, ht⟩
     have HR3 : Hid ((Builtin.append_ #[43, 43] 43 #[.slice P.aL k P.cL, .slice (some ⟨X1.heap.size, 0, none⟩) 1 1]).run Tryz.prog (X1.alloc (.cells #[.bool l2.st, .slice l2.aT l2.nT l2.cT, .slice l2.aU l2.nU l2.cU, .slice l2.R.aQ l2.R.nQ l2.R.cQ, .slice l2.R.aD l2.R.nD l2.R.cD, .int .i64 l2.R.turn, .bool l2.R.fresh, .slice l2.R.aS l2.R.nS l2.R.cS] 118)) = .ok (.slice (some ⟨g1, 0, none⟩) (k + 1) c3) X3) := hr
     clear al2 ol2 hb Q1 hu0 hr hu ht hg hT0 kL1 hnL kL LN
     go_wp2_with fail
     refine hK.out _ _ hT1 ?_
     clear hK K
     try simp only [Act.put, PZ]
     refine wpAnyE_ready (rs := [4]) (by kernel_rfl) (by simp) ?_
     refine AllReadyE.cons rfl (fun K hK => ?_) AllReadyE.nil
     go_simp
     refine hK.out _ _ hT2 ?_
     clear hK K
     try simp only [Act.put, PZ]
     refine wpAnyE_ready (rs := [5]) (by kernel_rfl) (by simp) ?_
     refine AllReadyE.cons rfl (fun K hK => ?_) AllReadyE.nil
     refine wp_appE (by kernel_rfl) (some 51) rfl (.tmp 47) (.tmp 50) 43 _ _ _ rfl rfl rfl rfl HR3.out ?_
     refine hK.out _ _ hT3 ?_
     clear hK K hT2 HR3 hT1
     try simp only [Act.put, PZ]
     have hT0 := hT3
     refine takeE (i := 6) (some 52) (v := ?_) ?_ hT0 ?_
     rotate_left
     ·
      intro wx hSw
      go_simp
      try with_reducible rfl
     try simp only [Act.put, PZ]
     refine wpAnyE_ready (rs := [7]) (by kernel_rfl) (by simp) ?_
     refine AllReadyE.last rfl (fun K hK => ?_)
     refine wp_stE (by kernel_rfl) none rfl 43 (.tmp 52) (.tmp 51) rfl (w.heap.size + 1 + 1) 14 rfl (.slice (some ⟨g1, 0, none⟩) (k + 1) c3) rfl 1 rfl 45 _ hT3.1 infoLs (Nat.le_of_ble_eq_true rfl) (by simp [Value.cells, Value.oneCell']) ?_
     intro X4 hP
     refine hK.out _ _ ?_
     clear hK K
     try simp only [Act.put, PZ]
     refine wpAnyE_done (by kernel_rfl) ?_ _
     have HN : Hid (CpSL w S (P.more k (some ⟨g1, 0, none⟩) c3 l2) (k + 1) X4) := HP.out.more HA1.out.2.2 HA1.out.2.1 HA1.out.1 HN3.out.1 HN3.out.2 hP
     clear hP hT0 hT3 HN3 HA1 HP HPl
     go_wp2_with fail
     go_roundw
     case rel => exact ⟨k + 1, _, by omega, by go_num, HN⟩
     case measure => simp [intOf]; omega
    ·
     obtain rfl : k = S.nL := by omega
     have HL : Hid (∀ j, j < 17 → wr.cell? ⟨w.heap.size + 1 + 1, 0 + j, none⟩ = P.cells[j]?) := fun j _ => by rw [Nat.zero_add]; exact blk_cell HP.out.s.x.c j
     have HD : Hid (wr.heap[w.heap.size + 1]? = some (.cells zSw 45 (0, 0))) := HP.out.s.x.b
     go_wp2_with (first | refine wpList_ldT rfl 45 17 _ Tryz.underlying45 rfl infoSgI (.tmp 3) rfl (w.heap.size + 1 + 1) 0 rfl P.cells rfl HL.out ?_ | refine wpList_stA rfl 45 (.tmp 2) (.tmp 54) rfl (w.heap.size + 1) 0 rfl (.agg P.cells) rfl 17 rfl 45 _ HD.out infoSgI (Nat.le_of_ble_eq_true rfl) (Swg.oneC _) ?_)
     intro X hP
     replace hP : Put wr X (w.heap.size + 1) P.cells 45 := hP.cast rfl
     have HK : Hid (X.heap[w.heap.size + 1]? = some (.cells P.cells 45 (0, 0))) := hP.blk
     have HF : Hid (AlikeG S P ∧ OwnSz X w.heap.size P ∧ Below w.heap.size w X) := ⟨HP.out.alike rfl, HP.out.own.off HD.out hP.to, (HP.out.s.x.out hP).bel⟩
     clear hP HL HD HP
     go_wp2_with fail
     exact bodyPost_ret (res_cellT Tryz.results93 17 _ Tryz.underlying45 rfl infoSgI _ _ (w.heap.size + 1) P.cells rfl 45 HK.out rfl) rfl ⟨P, rfl, HF.out.1, HF.out.2.1, HF.out.2.2⟩
theorem OG.sameB {t : TypeId} {sz : Nat} {w W : World} {base g n c : Nat} {xs : List Value} (h : OG t sz w base (some ⟨g, 0, none⟩) n c xs) (e : W.heap[g]? = w.heap[g]?) : OG t sz W base (some ⟨g, 0, none⟩) n c xs := by
 refine ⟨h.1, ?_⟩
 rcases h.2 with ⟨hv, _⟩ | ⟨g1, cap, cur, hv, h1, h2, h3⟩
 ·
  cases hv
 ·
  right
  cases hv
  exact ⟨g, c, cur, rfl, h1, e.trans h2, h3⟩
theorem OG.open {t : TypeId} {sz : Nat} {w : World} {base n c k : Nat} {a : Option Addr} {cs : Nat → Array Value} (h : OG t sz w base a n c (tV n cs)) (hk : k < n) (hs : ∀ i, i < n → (cs i).size = sz) :
  ∃ g cur, a = some ⟨g, 0, none⟩ ∧ base ≤ g ∧ w.heap[g]? = some (.cells cur t (0, 0)) ∧ k * sz + sz ≤ cur.size ∧ ∀ j, j < sz → cur[k * sz + j]? = (cs k)[j]? := by
 rcases h.2 with ⟨_, hv⟩ | ⟨g1, cap, cur, hv, h1, h2, h3, h4, h5, h6⟩
 ·
  omega
 ·
  cases hv
  have hm : n * sz ≤ c * sz := Nat.mul_le_mul_right sz h3
  have hr := roomT (m := sz) (Nat.le_refl (n * sz)) hk
  refine ⟨g1, cur, rfl, h1, h2, by omega, fun j hj => ?_⟩
  have e := tV_get (m := sz) hs (k * sz + j) (by omega)
  rw [flatT_at hj (hs k hk)] at e
  rw [← e, ← h6, List.getElem?_take, if_pos (by omega), Array.getElem?_toList]
theorem tV_one {n : Nat} {c : Nat → Array Value} (h : ∀ i, i < n → (c i).all (·.oneCell') = true) : ∀ u ∈ tV n c, u.oneCell' = true := by
 intro u hu
 unfold tV at hu
 simp only [List.mem_flatMap, List.mem_range] at hu
 obtain ⟨i, hi, hu⟩ := hu
 exact (Array.all_eq_true_iff_forall_mem.1 (h i hi)) u (by simpa using hu)
theorem RdT.cs {m : Nat} {w : World} {a : Option Addr} {n : Nat} {c : Nat → Array Value} (hm : 0 < m) (h : RdT m w a n c) : RdCs w a (tV n c) := by
 intro j u hj
 have hs : ∀ i, i < n → (c i).size = m := fun i hi => (h i hi).1
 have hlt : j < n * m := by
  have := (List.getElem?_eq_some_iff.1 hj).1
  rw [tV_len hs] at this
  exact this
 rw [tV_get hs j hlt] at hj
 have hi : j / m < n := (Nat.div_lt_iff_lt_mul hm).2 hlt
 obtain ⟨h1, g, o, ha, hc⟩ := h (j / m) hi
 refine ⟨g, o, ha, ?_⟩
 have h2 := hc (j % m) (Nat.mod_lt _ hm)
 have e : o + j / m * m + j % m = o + j := by rw [Nat.add_assoc, Nat.div_add_mod']
 rw [e] at h2
 rw [h2, ← hj]
 unfold flatT
 rw [Array.getElem?_eq_getElem (by rw [h1]; exact Nat.mod_lt _ hm)]
 rfl
theorem copyOfF_any (a : Option Addr) (n cap : Nat) (K : Nat → Pkt) (w : World) (hn : n ≤ 1048576) (h : RdF w a n K) :
  Calls Tryz.prog 142 #[.slice a n cap] w fun e w' => ∃ a' c', e = .returned (.slice a' n c') ∧ OG 110 5 w' w.heap.size a' n c' (tV n fun i => (K i).frame) ∧ Below w.heap.size w w' := by
 obtain ⟨a', c', W', hr, hv, hb⟩ := appendRowNil (c := cap) 70 110 _ 5 48 infoFrZ Tryz.underlying70 rfl (by decide) (by decide) hn (tV_len (fun _ _ => rfl)) (RdT.cs (by decide) h) (tV_one (fun i _ => Pkt.oneF _))
 have HV : Hid (OG 110 5 W' w.heap.size a' n c' (tV n fun i => (K i).frame) ∧ Below w.heap.size w W') := ⟨hv, hb⟩
 clear hv hb h
 go_enter Tryz.func142, Tryz.ntmps142
 go_wp2_with (at_builtin; refine Lib.wpList_append_run _ rfl _ _ _ _ rfl _ _ rfl rfl _ _ hr ?_)
 go_ret
 exact ⟨_, _, rfl, HV.out.1, HV.out.2⟩
theorem copyOfV_any (a : Option Addr) (n cap : Nat) (K : Nat → Pkt) (w : World) (hn : n ≤ 1048576) (h : RdV w a n K) :
  Calls Tryz.prog 141 #[.slice a n cap] w fun e w' => ∃ a' c', e = .returned (.slice a' n c') ∧ OG 122 7 w' w.heap.size a' n c' (tV n fun i => (K i).flight) ∧ Below w.heap.size w w' := by
 obtain ⟨a', c', W', hr, hv, hb⟩ := appendRowNil (c := cap) 47 122 _ 7 64 infoFlZ Tryz.underlying47 rfl (by decide) (by decide) hn (tV_len (fun _ _ => rfl)) (RdT.cs (by decide) h) (tV_one (fun i _ => Pkt.oneV _))
 have HV : Hid (OG 122 7 W' w.heap.size a' n c' (tV n fun i => (K i).flight) ∧ Below w.heap.size w W') := ⟨hv, hb⟩
 clear hv hb h
 go_enter Tryz.func141, Tryz.ntmps141
 go_wp2_with (at_builtin; refine Lib.wpList_append_run _ rfl _ _ _ _ rfl _ _ rfl rfl _ _ hr ?_)
 go_ret
 exact ⟨_, _, rfl, HV.out.1, HV.out.2⟩
set_option maxRecDepth 10000 in
set_option maxHeartbeats 1000000 in
theorem copyFrames_any (a : Option Addr) (n cap : Nat) (K : Nat → Pkt) (w : World) (hn : n ≤ 1048576) (hb : ∀ i, i < n → (K i).b.size ≤ 1048576) (h : RdF w a n K) :
  Calls Tryz.prog 95 #[.slice a n cap] w fun e w' => ∃ a' c', e = .returned (.slice a' n c') ∧ OG 110 5 w' w.heap.size a' n c' (tV n fun i => (K i).frame) ∧ Below w.heap.size w w' := by
 have HR : Hid (RdF w a n K) := h
 have HZ : Hid (∀ i, i < n → (K i).b.size ≤ 1048576) := hb
 clear h hb
 go_enter Tryz.func95, Tryz.ntmps95
 go_wp2_with fail
 refine (copyOfF_any a n cap K _ hn HR.out).mono ?_
 rintro e w1 ⟨a', c', rfl, ho, hb⟩
 have HO1 : Hid (OG 110 5 w1 w.heap.size a' n c' (tV n fun i => (K i).frame)) := ho
 have HB1 : Hid (Below w.heap.size w w1) := hb
 clear ho hb
 go_wp2_with fail
 go_loopw [10] (fun i wr => ∃ k : Nat, k ≤ n ∧ i = .int .i64 k ∧ Hid (OG 110 5 wr w.heap.size a' n c' (tV n fun i => (K i).frame)) ∧ Hid (Below w.heap.size w wr)) (fun i _ => n - (intOf i).toNat)
 case atStart => exact ⟨0, Nat.zero_le _, rfl, HO1, HB1⟩
 case round =>
  clear HO1 HB1
  obtain ⟨k, hk, rfl, HT, HB⟩ := hrel
  by_cases hlt : k < n
  ·
   have hlt' : (k : Int) < n := by omega
   obtain ⟨g, o, ea, hc⟩ := (HR.out.up HB.out).at hlt
   obtain ⟨V, eV⟩ : ∃ V, wr.alloc (.cells (K k).frame 110) = V := ⟨_, rfl⟩
   have hbV : Below wr.heap.size wr V := by rw [← eV]; exact (Below.refl _ _).alloc (Nat.le_refl _) _
   have kV : V.heap[wr.heap.size]? = some (.cells (K k).frame 110 (0, 0)) := by rw [← eV]; exact blk_new _ _
   have HBV : Hid (Below w.heap.size w V) := HB.out.trans (hbV.mono HB.out.size)
   have HTV : Hid (OG 110 5 V w.heap.size a' n c' (tV n fun i => (K i).frame)) := HT.out.up hbV
   have HkV : Hid (∀ j, j < 5 → V.cell? ⟨wr.heap.size, 0 + j, none⟩ = (K k).frame[j]?) := blkT kV 5
   have HC : Hid (∀ j, j < 5 → wr.cell? ⟨g, o + k * 5 + j, none⟩ = (K k).frame[j]?) := hc
   rw [ea]
   clear ea kV hbV hc HT HB
   go_wp2_with (first | refine wpList_ldT rfl 110 5 _ Tryz.underlying110 rfl infoFr5 (.tmp 13) rfl g (o + k * 5) rfl (K k).frame rfl HC.out ?_ | refine wpList_stNew 110 5 infoFr5 rfl (.tmp 5) (.tmp 14) rfl (K k).frame _ rfl rfl rfl rfl rfl (Pkt.oneF _) (eV ▸ ?_) | refine wpList_ldT rfl 110 5 _ Tryz.underlying110 rfl infoFr5 (.tmp 5) rfl wr.heap.size 0 rfl (K k).frame rfl HkV.out ?_)
   clear HC HkV
   refine (copyFrame_any (K k).k (K k).d (K k).s (K k).p (K k).b _ (HZ.out k hlt)).mono ?_
   rintro e w2 ⟨rfl, hb⟩
   have HB2 : Hid (Below w.heap.size w w2) := HBV.out.trans (hb.mono HBV.out.size)
   have HT2 : Hid (OG 110 5 w2 w.heap.size a' n c' (tV n fun i => (K i).frame)) := HTV.out.up hb
   clear hb HBV HTV eV
   obtain ⟨g1, cur, ea, hg1, hcur, hroom, hsame⟩ := HT2.out.open hlt (fun _ _ => rfl)
   rw [ea]
   have HG : Hid (w2.heap[g1]? = some (.cells cur 110 (0, 0))) := hcur
   have HRm : Hid (k * 5 + 5 ≤ cur.size ∧ (∀ j, j < 5 → cur[k * 5 + j]? = (K k).frame[j]?) ∧ w.heap.size ≤ g1 ∧ a' = some ⟨g1, 0, none⟩) := ⟨hroom, hsame, hg1, ea⟩
   clear ea hcur hroom hsame hg1
   go_wp2_with (refine wpList_stA rfl 110 (.tmp 19) (.tmp 18) rfl g1 (k * 5) (by simp [Act.eval]) (.agg (K k).frame) rfl 5 rfl 110 cur HG.out infoFr5 (by have := HRm.out.1; omega) (Pkt.oneF _) ?_)
   intro W2 hP
   replace hP : Put w2 W2 g1 cur 110 := hP.cast (lay_self (by show k * 5 + 5 ≤ _; have := HRm.out.1; omega) (fun j hj => by
    have hj5 : j < 5 := hj
    exact HRm.out.2.1 j hj5))
   have HB3 : Hid (Below w.heap.size w W2) := HB2.out.trans (hP.to.below HB2.out.size (fun x hx => by simp at hx; have := HRm.out.2.2.1; omega))
   have HT3 : Hid (OG 110 5 W2 w.heap.size a' n c' (tV n fun i => (K i).frame)) := by
    have h9 := HT2.out
    rw [HRm.out.2.2.2] at h9 ⊢
    exact h9.sameB (hP.blk.trans HG.out.symm)
   clear hP HB2 HT2 HG
   have eA := HRm.out.2.2.2
   clear HRm
   rw [← eA]
   clear eA
   go_wp2_with fail
   go_roundw
   case rel => exact ⟨k + 1, by omega, by go_num, HT3, HB3⟩
   case measure => simp [intOf]; omega
  ·
   obtain rfl : k = n := by omega
   go_wp2_with fail
   go_ret
   exact ⟨_, _, rfl, HT.out, HB.out⟩
set_option maxRecDepth 10000 in
set_option maxHeartbeats 1000000 in
theorem copyFlights_any (a : Option Addr) (n cap : Nat) (K : Nat → Pkt) (w : World) (hn : n ≤ 1048576) (hb : ∀ i, i < n → (K i).b.size ≤ 1048576) (h : RdV w a n K) :
  Calls Tryz.prog 94 #[.slice a n cap] w fun e w' => ∃ a' c', e = .returned (.slice a' n c') ∧ OG 122 7 w' w.heap.size a' n c' (tV n fun i => (K i).flight) ∧ Below w.heap.size w w' := by
 have HR : Hid (RdV w a n K) := h
 have HZ : Hid (∀ i, i < n → (K i).b.size ≤ 1048576) := hb
 clear h hb
 go_enter Tryz.func94, Tryz.ntmps94
 go_wp2_with fail
 refine (copyOfV_any a n cap K _ hn HR.out).mono ?_
 rintro e w1 ⟨a', c', rfl, ho, hb⟩
 have HO1 : Hid (OG 122 7 w1 w.heap.size a' n c' (tV n fun i => (K i).flight)) := ho
 have HB1 : Hid (Below w.heap.size w w1) := hb
 clear ho hb
 go_wp2_with fail
 go_loopw [10] (fun i wr => ∃ k : Nat, k ≤ n ∧ i = .int .i64 k ∧ Hid (OG 122 7 wr w.heap.size a' n c' (tV n fun i => (K i).flight)) ∧ Hid (Below w.heap.size w wr)) (fun i _ => n - (intOf i).toNat)
 case atStart => exact ⟨0, Nat.zero_le _, rfl, HO1, HB1⟩
 case round =>
  clear HO1 HB1
  obtain ⟨k, hk, rfl, HT, HB⟩ := hrel
  by_cases hlt : k < n
  ·
   have hlt' : (k : Int) < n := by omega
   obtain ⟨g, o, ea, hc⟩ := (HR.out.up HB.out).at hlt
   obtain ⟨V, eV⟩ : ∃ V, wr.alloc (.cells (K k).flight 122) = V := ⟨_, rfl⟩
   have hbV : Below wr.heap.size wr V := by rw [← eV]; exact (Below.refl _ _).alloc (Nat.le_refl _) _
   have kV : V.heap[wr.heap.size]? = some (.cells (K k).flight 122 (0, 0)) := by rw [← eV]; exact blk_new _ _
   have HBV : Hid (Below w.heap.size w V) := HB.out.trans (hbV.mono HB.out.size)
   have HTV : Hid (OG 122 7 V w.heap.size a' n c' (tV n fun i => (K i).flight)) := HT.out.up hbV
   have HkV : Hid (∀ j, j < 5 → V.cell? ⟨wr.heap.size, 2 + j, none⟩ = (K k).frame[j]?) := blkV7 kV
   have HC : Hid (∀ j, j < 7 → wr.cell? ⟨g, o + k * 7 + j, none⟩ = (K k).flight[j]?) := hc
   rw [ea]
   clear ea kV hbV hc HT HB
   go_wp2_with (first | refine wpList_ldT rfl 122 7 _ Tryz.underlying122 rfl infoFl7 (.tmp 13) rfl g (o + k * 7) rfl (K k).flight rfl HC.out ?_ | refine wpList_stNew 122 7 infoFl7 rfl (.tmp 5) (.tmp 14) rfl (K k).flight _ rfl rfl rfl rfl rfl (Pkt.oneV _) (eV ▸ ?_) | refine wpList_ldT rfl 110 5 _ Tryz.underlying110 rfl infoFr5 (.tmp 17) rfl wr.heap.size 2 rfl (K k).frame rfl HkV.out ?_)
   clear HC HkV
   refine (copyFrame_any (K k).k (K k).d (K k).s (K k).p (K k).b _ (HZ.out k hlt)).mono ?_
   rintro e w2 ⟨rfl, hb⟩
   have HB2 : Hid (Below w.heap.size w w2) := HBV.out.trans (hb.mono HBV.out.size)
   have HT2 : Hid (OG 122 7 w2 w.heap.size a' n c' (tV n fun i => (K i).flight)) := HTV.out.up hb
   clear hb HBV HTV eV
   obtain ⟨g1, cur, ea, hg1, hcur, hroom, hsame⟩ := HT2.out.open hlt (fun _ _ => rfl)
   rw [ea]
   have HG : Hid (w2.heap[g1]? = some (.cells cur 122 (0, 0))) := hcur
   have HRm : Hid (k * 7 + 7 ≤ cur.size ∧ (∀ j, j < 7 → cur[k * 7 + j]? = (K k).flight[j]?) ∧ w.heap.size ≤ g1 ∧ a' = some ⟨g1, 0, none⟩) := ⟨hroom, hsame, hg1, ea⟩
   clear ea hcur hroom hsame hg1
   go_wp2_with (refine wpList_stA rfl 110 (.tmp 21) (.tmp 19) rfl g1 (k * 7 + 2) (by simp [Act.eval]) (.agg (K k).frame) rfl 5 rfl 122 cur HG.out infoFr5 (by have := HRm.out.1; omega) (Pkt.oneF _) ?_)
   intro W2 hP
   replace hP : Put w2 W2 g1 cur 122 := hP.cast (lay_self (by show k * 7 + 2 + 5 ≤ _; have := HRm.out.1; omega) (fun j hj => by
    have hj5 : j < 5 := hj
    rw [show k * 7 + 2 + j = k * 7 + (2 + j) by omega, HRm.out.2.1 (2 + j) (by omega)]
    have : j = 0 ∨ j = 1 ∨ j = 2 ∨ j = 3 ∨ j = 4 := by omega
    rcases this with rfl | rfl | rfl | rfl | rfl <;> rfl))
   have HB3 : Hid (Below w.heap.size w W2) := HB2.out.trans (hP.to.below HB2.out.size (fun x hx => by simp at hx; have := HRm.out.2.2.1; omega))
   have HT3 : Hid (OG 122 7 W2 w.heap.size a' n c' (tV n fun i => (K i).flight)) := by
    have h9 := HT2.out
    rw [HRm.out.2.2.2] at h9 ⊢
    exact h9.sameB (hP.blk.trans HG.out.symm)
   clear hP HB2 HT2 HG
   have eA := HRm.out.2.2.2
   clear HRm
   rw [← eA]
   clear eA
   go_wp2_with fail
   go_roundw
   case rel => exact ⟨k + 1, by omega, by go_num, HT3, HB3⟩
   case measure => simp [intOf]; omega
  ·
   obtain rfl : k = n := by omega
   go_wp2_with fail
   go_ret
   exact ⟨_, _, rfl, HT.out, HB.out⟩
def RowI (g o n : Nat) (f : Nat → Value) (w : World) : Prop := RowG 2 g o n f w
def VGI (w : World) (base : Nat) (a : Option Addr) (n : Nat) (f : Nat → Int) : Prop := VG 2 w base a n fun i => .int .i64 (f i)
def apartV (a : Option Addr) (n : Nat) (a' : Option Addr) (n' : Nat) : Prop := ∀ x ∈ blkV a n, x ∉ blkV a' n'
theorem VGI.touchS {w w' : World} {base : Nat} {a : Option Addr} {n : Nat} {f : Nat → Int} {S : List Nat} (h : VGI w base a n f) (ht : Touch S w w') (hp : ∀ x ∈ blkV a n, x ∉ S) : VGI w' base a n f := VG.touchS h ht hp
def RowITo (g o n : Nat) (f : Nat → Value) (k : Nat) (w : World) : Prop := ∃ arr : Array Value, w.heap[g]? = some (.cells arr 2 (0, 0)) ∧ o + n ≤ arr.size ∧ ∀ i, i < k → arr[o + i]? = some (f i)
theorem RowITo.there {g o n k : Nat} {f : Nat → Value} {w : World} (h : RowITo g o n f k w) (i : Nat) (hi : i < n) : ∃ v, w.cell? ⟨g, o + i, none⟩ = some v := by
 obtain ⟨arr, hb, hn, hc⟩ := h
 exact ⟨arr[o + i], by rw [blk_cell hb]; simp⟩
theorem RowITo.free {g o n k : Nat} {f : Nat → Value} {w : World} (h : RowITo g o n f k w) (i : Nat) : w.frozen? ⟨g, i, none⟩ = false := by
 obtain ⟨arr, hb, hn, hc⟩ := h
 exact blk_free hb i
theorem RowITo.step {g o n k : Nat} {f : Nat → Value} {w : World} (h : RowITo g o n f k w) (hk : k < n) : RowITo g o n f (k + 1) (w.setCell ⟨g, o + k, none⟩ (f k)) := by
 obtain ⟨arr, hb, hn, hc⟩ := h
 refine ⟨_, blk_set hb _, by simpa using hn, fun i hi => ?_⟩
 by_cases e : i = k
 ·
  subst e
  rw [Array.getElem?_setIfInBounds_self_of_lt (by omega)]
 ·
  rw [Array.getElem?_setIfInBounds_ne (by omega)]
  exact hc i (by omega)
theorem RowI.at {g o n : Nat} {f : Nat → Value} {w : World} (h : RowI g o n f w) (i : Nat) (hi : i < n) : w.cell? ⟨g, o + i, none⟩ = some (f i) := by
 obtain ⟨arr, hb, hn, hc⟩ := h
 rw [blk_cell hb]; exact hc i hi
theorem markI_any (g o n cap m : Nat) (f : Nat → Value) (w : World) (h : RowI g o n f w) (hn : n ≤ 1048576) (hm : m ≤ 100000000) :
  Calls Tryz.prog 143 #[.slice (some ⟨g, o, none⟩) n cap, .int .i64 m] w fun e w' => e = .returned (.int .i64 (m + n : Nat)) ∧ RowI g o n (fun i => .int .i64 (m + i : Nat)) w' ∧ Touch [g] w w' := by
 have h0 : RowITo g o n (fun i => .int .i64 (m + i : Nat)) 0 w := by
  obtain ⟨arr, h1, h2, h3⟩ := h
  exact ⟨arr, h1, h2, fun i hi => by omega⟩
 clear h
 go_enter Tryz.func143, Tryz.ntmps143
 go_wp2_with fail
 go_loopw [1, 5] (fun x i wr => ∃ k : Nat, k ≤ n ∧ i = .int .i64 k ∧ x = .int .i64 (m + k : Nat) ∧ RowITo g o n (fun i => .int .i64 (m + i : Nat)) k wr ∧ Touch [g] w wr) (fun _ i _ => n - (intOf i).toNat)
 case atStart => exact ⟨0, Nat.zero_le _, rfl, rfl, h0, Touch.refl _ _⟩
 case round =>
  clear h0
  obtain ⟨k, hk, rfl, rfl, hR, hT⟩ := hrel
  by_cases hlt : k < n
  ·
   obtain ⟨v, hv⟩ := hR.there k hlt
   have hf := hR.free (o + k)
   have hlt' : (k : Int) < n := by omega
   go_wp2_with fail
   go_roundw
   case rel => exact ⟨k + 1, by omega, by go_num, by go_num, hR.step hlt, hT.set (by simp) (o + k) _⟩
   case measure => simp [intOf]; omega
  ·
   obtain rfl : k = n := by omega
   go_wp2_with fail
   go_ret
   exact ⟨rfl, hR, hT⟩
theorem heldI_any (g o n cap m : Nat) (w : World) (h : RowI g o n (fun i => .int .i64 (m + i : Nat)) w) (hn : n ≤ 1048576) (hm : m ≤ 100000000) :
  Calls Tryz.prog 146 #[.slice (some ⟨g, o, none⟩) n cap, .int .i64 m] w fun e w' => e = .returned (.int .i64 (m + n : Nat)) ∧ w = w' := by
 go_enter Tryz.func146, Tryz.ntmps146
 go_wp2_with fail
 go_loop [1, 5] (fun x i => ∃ k : Nat, k ≤ n ∧ i = .int .i64 k ∧ x = .int .i64 (m + k : Nat)) (fun _ i => n - (intOf i).toNat)
 case atStart => exact ⟨0, Nat.zero_le _, rfl, rfl⟩
 case round =>
  obtain ⟨k, hk, rfl, rfl⟩ := hrel
  by_cases hlt : k < n
  ·
   have hc := h.at k hlt
   have hlt' : (k : Int) < n := by omega
   go_wp2_with fail
   go_round
   case rel => exact ⟨k + 1, by omega, by go_num, by go_num⟩
   case measure => simp [intOf]; omega
  ·
   obtain rfl : k = n := by omega
   go_wp2_with fail
   go_ret
   exact ⟨rfl, rfl⟩
theorem markVGI_any (a : Option Addr) (n cap m base : Nat) (f : Nat → Int) (w : World) (h : VGI w base a n f) (hn : n ≤ 1048576) (hm : m ≤ 100000000) :
  Calls Tryz.prog 143 #[.slice a n cap, .int .i64 m] w fun e w' => e = .returned (.int .i64 ((m + n : Nat) : Int)) ∧ VGI w' base a n (fun i => ((m + i : Nat) : Int)) ∧ Touch (blkV a n) w w' := by
 by_cases h0 : n = 0
 ·
  subst h0
  refine (markEmpty_any a cap m w).mono ?_
  rintro e w' ⟨rfl, rfl⟩
  exact ⟨by simp, .inl rfl, Touch.refl _ _⟩
 rcases h with h | ⟨g, o, rfl, hg, hr⟩
 ·
  exact absurd h h0
 ·
  refine (markI_any g o n cap m _ w hr hn hm).mono ?_
  rintro e w' ⟨rfl, h1, h2⟩
  refine ⟨rfl, .inr ⟨g, o, rfl, hg, h1⟩, ?_⟩
  unfold blkV
  rw [if_neg h0]
  exact h2
theorem heldVGI_any (a : Option Addr) (n cap m base : Nat) (w : World) (h : VGI w base a n (fun i => ((m + i : Nat) : Int))) (hn : n ≤ 1048576) (hm : m ≤ 100000000) :
  Calls Tryz.prog 146 #[.slice a n cap, .int .i64 m] w fun e w' => e = .returned (.int .i64 ((m + n : Nat) : Int)) ∧ w = w' := by
 by_cases h0 : n = 0
 ·
  subst h0
  refine (heldEmpty_any a cap m w).mono ?_
  rintro e w' ⟨rfl, rfl⟩
  exact ⟨by simp, rfl⟩
 rcases h with h | ⟨g, o, rfl, hg, hr⟩
 ·
  exact absurd h h0
 ·
  exact heldI_any g o n cap m w hr hn hm
theorem markIss_any (a : Option Addr) (n cap m base : Nat) (A : Nat → Option Addr) (L C : Nat → Nat) (z : Nat → Nat → Int) (T : List Nat) (w : World) (hn : n ≤ 1048576) (hs : sumL L n ≤ 10000000) (hm : m ≤ 50000000) (hl : ∀ i, i < n → L i ≤ 1048576)
  (ha : ∀ w', Touch T w w' → RdRow w' a n fun i => .slice (A i) (L i) (C i)) (hz : ∀ i, i < n → VGI w base (A i) (L i) (z i)) (hp : ∀ i j, i < n → j < n → i ≠ j → apartV (A i) (L i) (A j) (L j)) (hT : ∀ i, i < n → ∀ x ∈ blkV (A i) (L i), x ∈ T) :
  Calls Tryz.prog 145 #[.slice a n cap, .int .i64 m] w fun e w' => e = .returned (.int .i64 ((m + sumL L n : Nat) : Int)) ∧ (∀ i, i < n → VGI w' base (A i) (L i) (fun j => ((m + sumL L i + j : Nat) : Int))) ∧ Touch T w w' := by
 have HA : Hid (∀ w', Touch T w w' → RdRow w' a n fun i => .slice (A i) (L i) (C i)) := ha
 have HZ : Hid (∀ i, i < n → VGI w base (A i) (L i) (z i)) := hz
 have HP : Hid (∀ i j, i < n → j < n → i ≠ j → apartV (A i) (L i) (A j) (L j)) := hp
 have HT : Hid (∀ i, i < n → ∀ x ∈ blkV (A i) (L i), x ∈ T) := hT
 have HL : Hid (∀ i, i < n → L i ≤ 1048576) := hl
 clear ha hz hp hT hl
 go_enter Tryz.func145, Tryz.ntmps145
 go_wp2_with fail
 go_loopw [1, 5] (fun x i wr => ∃ (k q : Nat), k ≤ n ∧ i = .int .i64 k ∧ x = .int .i64 q ∧ q = m + sumL L k ∧ (∀ i, i < k → VGI wr base (A i) (L i) (fun j => ((m + sumL L i + j : Nat) : Int))) ∧ (∀ i, k ≤ i → i < n → VGI wr base (A i) (L i) (z i)) ∧ Touch T w wr) (fun _ i _ => n - (intOf i).toNat)
 case atStart => exact ⟨0, m, Nat.zero_le _, rfl, rfl, rfl, fun i hi => by omega, fun i _ hi => HZ.out i hi, Touch.refl _ _⟩
 case round =>
  obtain ⟨k, q, hk, rfl, rfl, hq, h1, h2, hTo⟩ := hrel
  have HQ : Hid (q = m + sumL L k) := hq
  have H1 : Hid (∀ i, i < k → VGI wr base (A i) (L i) (fun j => ((m + sumL L i + j : Nat) : Int))) := h1
  have H2 : Hid (∀ i, k ≤ i → i < n → VGI wr base (A i) (L i) (z i)) := h2
  have hle := sumL_le L hk
  clear h1 h2
  by_cases hlt : k < n
  ·
   have hlt' : (k : Int) < n := by omega
   obtain ⟨g, o, rfl, hc⟩ := HA.out wr hTo k hlt
   dsimp only at hc
   clear hq
   go_wp2_with fail
   refine (markVGI_any (A k) (L k) (C k) q base (z k) _ (H2.out k (Nat.le_refl _) hlt) (HL.out k hlt) (by have := HQ.out; omega)).mono ?_
   rintro e w1 ⟨rfl, hv, ht⟩
   have HV : Hid (VGI w1 base (A k) (L k) (fun j => ((m + sumL L k + j : Nat) : Int))) := by rw [Hid, ← HQ.out]; exact hv
   have HTo : Hid (Touch T w w1) := hTo.trans (ht.mono (HT.out k hlt))
   have HTk : Hid (Touch (blkV (A k) (L k)) wr w1) := ht
   clear hv ht hTo hc
   go_wp2_with fail
   go_roundw
   case rel => exact ⟨k + 1, q + L k, by omega, by go_num, rfl, by show _ = m + (sumL L k + L k); have := HQ.out; omega, fun i hi => by
    by_cases e : i = k
    ·
     subst e; exact HV.out
    ·
     exact (H1.out i (by omega)).touchS HTk.out (HP.out i k (by omega) hlt e), fun i hi hi2 => (H2.out i (by omega) hi2).touchS HTk.out (HP.out i k hi2 hlt (by omega)), HTo.out⟩
   case measure => simp [intOf]; omega
  ·
   obtain rfl : k = n := by omega
   go_wp2_with fail
   go_ret
   exact ⟨ret_int (by rw [HQ.out]), H1.out, hTo⟩
theorem heldIss_any (a : Option Addr) (n cap m base : Nat) (A : Nat → Option Addr) (L C : Nat → Nat) (w : World) (hn : n ≤ 1048576) (hs : sumL L n ≤ 10000000) (hm : m ≤ 50000000) (hl : ∀ i, i < n → L i ≤ 1048576)
  (ha : RdRow w a n fun i => .slice (A i) (L i) (C i)) (hz : ∀ i, i < n → VGI w base (A i) (L i) (fun j => ((m + sumL L i + j : Nat) : Int))) :
  Calls Tryz.prog 148 #[.slice a n cap, .int .i64 m] w fun e w' => e = .returned (.int .i64 ((m + sumL L n : Nat) : Int)) ∧ w = w' := by
 have HA : Hid (RdRow w a n fun i => .slice (A i) (L i) (C i)) := ha
 have HZ : Hid (∀ i, i < n → VGI w base (A i) (L i) (fun j => ((m + sumL L i + j : Nat) : Int))) := hz
 have HL : Hid (∀ i, i < n → L i ≤ 1048576) := hl
 clear ha hz hl
 go_enter Tryz.func148, Tryz.ntmps148
 go_wp2_with fail
 go_loop [1, 5] (fun x i => ∃ (k q : Nat), k ≤ n ∧ i = .int .i64 k ∧ x = .int .i64 q ∧ q = m + sumL L k) (fun _ i => n - (intOf i).toNat)
 case atStart => exact ⟨0, m, Nat.zero_le _, rfl, rfl, rfl⟩
 case round =>
  obtain ⟨k, q, hk, rfl, rfl, hq⟩ := hrel
  have HQ : Hid (q = m + sumL L k) := hq
  have hle := sumL_le L hk
  by_cases hlt : k < n
  ·
   have hlt' : (k : Int) < n := by omega
   obtain ⟨g, o, rfl, hc⟩ := HA.out k hlt
   dsimp only at hc
   clear hq
   go_wp2_with fail
   refine (heldVGI_any (A k) (L k) (C k) q base _ (by rw [HQ.out]; exact HZ.out k hlt) (HL.out k hlt) (by have := HQ.out; omega)).mono ?_
   rintro e w1 ⟨rfl, rfl⟩
   have hq0 : ¬ ((q + L k : Nat) : Int) < 0 := by omega
   go_wp2_with fail
   go_round
   case rel => exact ⟨k + 1, q + L k, by omega, by go_num, rfl, by show _ = m + (sumL L k + L k); have := HQ.out; omega⟩
   case measure => simp [intOf]; omega
  ·
   obtain rfl : k = n := by omega
   go_wp2_with fail
   go_ret
   exact ⟨ret_int (by first | rfl | rw [HQ.out] | simp), rfl⟩
theorem convOne (w : World) (a : Int) : (convert 195 9 (.slice (some ⟨w.heap.size, 0, none⟩) 1 1)).run Tryz.prog (w.alloc (.cells #[.int .u8 a] 5)) = .ok (.string (strOfNums [a])) (w.alloc (.cells #[.int .u8 a] 5)) := by
 refine run_convert_bytes_arg _ 195 5 Tryz.underlying195 Tryz.underlying5 w.heap.size 0 1 1 [a] rfl ?_ 9 Tryz.underlying9
 intro i hi
 have := World.cell?_alloc_mark w #[.int .u8 a] 5 (0, 0) (0 + i)
 rw [this]
 obtain rfl : i = 0 := by omega
 rfl
def mtGo : Nat → Nat → ByteArray → ByteArray
 | 0, _, out => out
 | f + 1, k, out => if k = 0 then out else mtGo f (k / 10) (strOfNums [48 + (k : Int) % 10] ++ out)
def mt (k : Nat) : ByteArray := if k = 0 then ⟨#[109, 48]⟩ else ⟨#[109]⟩ ++ mtGo k k ⟨#[]⟩
theorem mtGo_zero (f : Nat) (out : ByteArray) : mtGo f 0 out = out := by cases f <;> simp [mtGo]
theorem mtGo_step (f k : Nat) (out : ByteArray) (h : 0 < k) : mtGo (f + 1) k out = mtGo f (k / 10) (strOfNums [48 + (k : Int) % 10] ++ out) := by
 rw [mtGo, if_neg (by omega)]
theorem markText_any (k : Nat) (w : World) (hk : k < 1000000000000) :
  Calls Tryz.prog 97 #[.int .i64 k] w fun e w' => e = .returned (.string (mt k)) ∧ Below w.heap.size w w' := by
 by_cases h0 : k = 0
 ·
  subst h0
  go_enter Tryz.func97, Tryz.ntmps97
  go_wp2_with fail
  go_ret
  exact ⟨rfl, Below.refl _ _⟩
 ·
  have hpos : (0 : Int) < k := by omega
  have HM : Hid (mt k = ⟨#[109]⟩ ++ mtGo k k ⟨#[]⟩) := by show _ = _; unfold mt; rw [if_neg h0]
  go_enter Tryz.func97, Tryz.ntmps97
  go_wp2_with fail
  go_loopw [0, 3] (fun x o wr => ∃ (kk f r : Nat) (out : ByteArray), kk ≤ f ∧ kk < 10 ^ r ∧ out.size + r ≤ 12 ∧ x = .int .i64 kk ∧ o = .string out ∧ mtGo f kk out = mtGo k k ⟨#[]⟩ ∧ Below w.heap.size w wr) (fun x _ _ => (intOf x).toNat)
  case atStart => exact ⟨k, k, 12, ⟨#[]⟩, Nat.le_refl _, by omega, Nat.le_refl _, rfl, rfl, rfl, Below.refl _ _⟩
  case round =>
   obtain ⟨kk, f, r, out, hf, hr, hs, rfl, rfl, hm, hB⟩ := hrel
   have HG : Hid (mtGo f kk out = mtGo k k ⟨#[]⟩) := hm
   clear hm
   by_cases hz : 0 < kk
   ·
    have hz' : (0 : Int) < kk := by omega
    have hk12 : (kk : Int) ≤ 1000000000000 := by
     have : kk < 10 ^ 12 := Nat.lt_of_lt_of_le hr (Nat.pow_le_pow_right (by omega) (by omega))
     omega
    have hcv := convOne wr
    have hd1 : ∀ a, ¬ (9223372036854775807 < (strOfNums [a]).size + out.size) := by intro a; rw [strOfNums_size]; simp; omega
    go_wp2_with fail
    obtain ⟨f', rfl⟩ : ∃ f', f = f' + 1 := ⟨f - 1, by omega⟩
    obtain ⟨r', rfl⟩ : ∃ r', r = r' + 1 := by
     cases r with
     | zero => simp at hr; omega
     | succ r => exact ⟨r, rfl⟩
    go_roundw
    case rel =>
     refine ⟨kk / 10, f', r', strOfNums [48 + (kk : Int) % 10] ++ out, by omega, ?_, ?_, by go_num, rfl, ?_, hB.alloc hB.size _⟩
     ·
      rw [Nat.pow_succ] at hr; omega
     ·
      rw [ByteArray.size_append, strOfNums_size]; simp; omega
     ·
      rw [← HG.out, mtGo_step f' kk out hz]
    case measure => simp [intOf]; omega
   ·
    obtain rfl : kk = 0 := by omega
    have hd1 : ¬ (9223372036854775807 < (⟨#[109]⟩ : ByteArray).size + out.size) := by show ¬ (_ < 1 + out.size); omega
    have hout : Hid (mtGo k k ⟨#[]⟩ = out) := by have := HG.out; rw [mtGo_zero] at this; exact this.symm
    go_wp2_with fail
    go_ret
    exact ⟨ret_string (by rw [HM.out, hout.out]), hB⟩
theorem rowTo_put1 {w W : World} {g n k : Nat} {t : TypeId} {F : Nat → Value} {arr : Array Value} {v : Value} (hn : n ≤ arr.size) (hc : ∀ i, i < k → arr[i]? = some (F i)) (hlt : k < n) (hv : F k = v) (hP : Put w W g (lay arr k #[v]) t) : RowTo g t n F (k + 1) W := by
 have hf : k + (#[v] : Array Value).size ≤ arr.size := by show k + 1 ≤ _; omega
 refine ⟨_, hP.blk, by rw [lay_size hf]; exact hn, fun i hi => ?_⟩
 by_cases e : i < k
 ·
  rw [lay_lo hf i e]
  exact hc i e
 ·
  have := lay_at hf 0 (by show 0 < 1; omega)
  rw [show i = k + 0 by omega, this, Nat.add_zero, hv]
  rfl
def markK (m j : Nat) : Value := if j % 8 = 7 then .string (mt (m + j)) else .int .i64 ((m + j : Nat) : Int)
theorem markK_i {m k j : Nat} (h : j < 7) : markK m (k * 8 + j) = .int .i64 ((m + k * 8 + j : Nat) : Int) := by
 unfold markK
 rw [if_neg (by omega), Nat.add_assoc]
theorem markK_s {m k : Nat} : markK m (k * 8 + 7) = .string (mt (m + k * 8 + 7)) := by
 unfold markK
 rw [if_pos (by omega), Nat.add_assoc]
theorem int_eq {a b : Int} (h : a = b) : (Value.int .i64 a) = .int .i64 b := by rw [h]
set_option maxRecDepth 10000 in
set_option maxHeartbeats 4000000 in
theorem markPks_any (g n cap m : Nat) (f : Nat → Value) (w : World) (h : RowTo g 112 (n * 8) f (n * 8) w) (hn : n ≤ 1048576) (hm : m ≤ 50000000) :
  Calls Tryz.prog 100 #[.slice (some ⟨g, 0, none⟩) n cap, .int .i64 m] w fun e w' => e = .returned (.int .i64 ((m + n * 8 : Nat) : Int)) ∧ RowTo g 112 (n * 8) (markK m) (n * 8) w' ∧ Touch [g] w w' := by
 have HM : Hid (RowTo g 112 (n * 8) (markK m) (0 * 8) w) := h.anew
 clear h
 go_enter Tryz.func100, Tryz.ntmps100
 go_wp2_with fail
 go_loopw [1, 5] (fun x i wr => ∃ (k : Nat) (q : Int), k ≤ n ∧ i = .int .i64 k ∧ x = .int .i64 q ∧ Hid (q = ((m + k * 8 : Nat) : Int)) ∧ Hid (RowTo g 112 (n * 8) (markK m) (k * 8) wr) ∧ Hid (Touch [g] w wr)) (fun _ i _ => n - (intOf i).toNat)
 case atStart => exact ⟨0, m, Nat.zero_le _, rfl, rfl, by show (m : Int) = _; simp, HM.out, Touch.refl _ _⟩
 case round =>
  obtain ⟨k, q, hk, rfl, rfl, HQ, HR, HT⟩ := hrel
  by_cases hlt : k < n
  ·
   have hlt' : (k : Int) < n := by omega
   have q0 : 0 ≤ q := by have := HQ.out; omega
   have q1 : q ≤ 1000000000 := by have := HQ.out; omega
   obtain ⟨arr, hb, hn2, hc⟩ := HR.out
   have HG : Hid (wr.heap[g]? = some (.cells arr 112 (0, 0))) := hb
   have HN : Hid (n * 8 ≤ arr.size ∧ ∀ i, i < k * 8 + 0 → arr[i]? = some (markK m i)) := ⟨hn2, hc⟩
   clear hb hn2 hc HR
   go_wp2_with (refine wpList_stA rfl 2 (.tmp 16) (.tmp 14) rfl g (k * 8) (by simp [Act.eval]) (.int .i64 q) rfl 1 rfl 112 arr HG.out infoI1 (by have := HN.out.1; omega) (by simp [Value.cells, Value.oneCell']) ?_)
   intro Y0 hP
   have HR : Hid (RowTo g 112 (n * 8) (markK m) (k * 8 + 1) Y0) := rowTo_put1 (k := k * 8 + 0) HN.out.1 HN.out.2 (by omega) (by rw [markK_i (by omega)]; exact int_eq (by have := HQ.out; omega)) hP
   replace HT : Hid (Touch [g] w Y0) := HT.out.trans hP.to
   clear hP HG HN
   obtain ⟨arr, hb, hn2, hc⟩ := HR.out
   have HG : Hid (Y0.heap[g]? = some (.cells arr 112 (0, 0))) := hb
   have HN : Hid (n * 8 ≤ arr.size ∧ ∀ i, i < k * 8 + 1 → arr[i]? = some (markK m i)) := ⟨hn2, hc⟩
   clear hb hn2 hc HR
   go_wp2_with (refine wpList_stA rfl 2 (.tmp 23) (.tmp 21) rfl g (k * 8 + 1) (by simp [Act.eval]) (.int .i64 (q + 1)) rfl 1 rfl 112 arr HG.out infoI1 (by have := HN.out.1; omega) (by simp [Value.cells, Value.oneCell']) ?_)
   intro Y1 hP
   have HR : Hid (RowTo g 112 (n * 8) (markK m) (k * 8 + 2) Y1) := rowTo_put1 (k := k * 8 + 1) HN.out.1 HN.out.2 (by omega) (by rw [markK_i (by omega)]; exact int_eq (by have := HQ.out; omega)) hP
   replace HT : Hid (Touch [g] w Y1) := HT.out.trans hP.to
   clear hP HG HN
   obtain ⟨arr, hb, hn2, hc⟩ := HR.out
   have HG : Hid (Y1.heap[g]? = some (.cells arr 112 (0, 0))) := hb
   have HN : Hid (n * 8 ≤ arr.size ∧ ∀ i, i < k * 8 + 2 → arr[i]? = some (markK m i)) := ⟨hn2, hc⟩
   clear hb hn2 hc HR
   go_wp2_with (refine wpList_stA rfl 2 (.tmp 30) (.tmp 28) rfl g (k * 8 + 2) (by simp [Act.eval]) (.int .i64 (q + 1 + 1)) rfl 1 rfl 112 arr HG.out infoI1 (by have := HN.out.1; omega) (by simp [Value.cells, Value.oneCell']) ?_)
   intro Y2 hP
   have HR : Hid (RowTo g 112 (n * 8) (markK m) (k * 8 + 3) Y2) := rowTo_put1 (k := k * 8 + 2) HN.out.1 HN.out.2 (by omega) (by rw [markK_i (by omega)]; exact int_eq (by have := HQ.out; omega)) hP
   replace HT : Hid (Touch [g] w Y2) := HT.out.trans hP.to
   clear hP HG HN
   obtain ⟨arr, hb, hn2, hc⟩ := HR.out
   have HG : Hid (Y2.heap[g]? = some (.cells arr 112 (0, 0))) := hb
   have HN : Hid (n * 8 ≤ arr.size ∧ ∀ i, i < k * 8 + 3 → arr[i]? = some (markK m i)) := ⟨hn2, hc⟩
   clear hb hn2 hc HR
   go_wp2_with (refine wpList_stA rfl 2 (.tmp 38) (.tmp 35) rfl g (k * 8 + 3) (by simp [Act.eval]) (.int .i64 (q + 1 + 1 + 1)) rfl 1 rfl 112 arr HG.out infoI1 (by have := HN.out.1; omega) (by simp [Value.cells, Value.oneCell']) ?_)
   intro Y3 hP
   have HR : Hid (RowTo g 112 (n * 8) (markK m) (k * 8 + 4) Y3) := rowTo_put1 (k := k * 8 + 3) HN.out.1 HN.out.2 (by omega) (by rw [markK_i (by omega)]; exact int_eq (by have := HQ.out; omega)) hP
   replace HT : Hid (Touch [g] w Y3) := HT.out.trans hP.to
   clear hP HG HN
   obtain ⟨arr, hb, hn2, hc⟩ := HR.out
   have HG : Hid (Y3.heap[g]? = some (.cells arr 112 (0, 0))) := hb
   have HN : Hid (n * 8 ≤ arr.size ∧ ∀ i, i < k * 8 + 4 → arr[i]? = some (markK m i)) := ⟨hn2, hc⟩
   clear hb hn2 hc HR
   go_wp2_with (refine wpList_stA rfl 2 (.tmp 46) (.tmp 43) rfl g (k * 8 + 4) (by simp [Act.eval]) (.int .i64 (q + 1 + 1 + 1 + 1)) rfl 1 rfl 112 arr HG.out infoI1 (by have := HN.out.1; omega) (by simp [Value.cells, Value.oneCell']) ?_)
   intro Y4 hP
   have HR : Hid (RowTo g 112 (n * 8) (markK m) (k * 8 + 5) Y4) := rowTo_put1 (k := k * 8 + 4) HN.out.1 HN.out.2 (by omega) (by rw [markK_i (by omega)]; exact int_eq (by have := HQ.out; omega)) hP
   replace HT : Hid (Touch [g] w Y4) := HT.out.trans hP.to
   clear hP HG HN
   obtain ⟨arr, hb, hn2, hc⟩ := HR.out
   have HG : Hid (Y4.heap[g]? = some (.cells arr 112 (0, 0))) := hb
   have HN : Hid (n * 8 ≤ arr.size ∧ ∀ i, i < k * 8 + 5 → arr[i]? = some (markK m i)) := ⟨hn2, hc⟩
   clear hb hn2 hc HR
   go_wp2_with (refine wpList_stA rfl 2 (.tmp 54) (.tmp 51) rfl g (k * 8 + 5) (by simp [Act.eval]) (.int .i64 (q + 1 + 1 + 1 + 1 + 1)) rfl 1 rfl 112 arr HG.out infoI1 (by have := HN.out.1; omega) (by simp [Value.cells, Value.oneCell']) ?_)
   intro Y5 hP
   have HR : Hid (RowTo g 112 (n * 8) (markK m) (k * 8 + 6) Y5) := rowTo_put1 (k := k * 8 + 5) HN.out.1 HN.out.2 (by omega) (by rw [markK_i (by omega)]; exact int_eq (by have := HQ.out; omega)) hP
   replace HT : Hid (Touch [g] w Y5) := HT.out.trans hP.to
   clear hP HG HN
   obtain ⟨arr, hb, hn2, hc⟩ := HR.out
   have HG : Hid (Y5.heap[g]? = some (.cells arr 112 (0, 0))) := hb
   have HN : Hid (n * 8 ≤ arr.size ∧ ∀ i, i < k * 8 + 6 → arr[i]? = some (markK m i)) := ⟨hn2, hc⟩
   clear hb hn2 hc HR
   go_wp2_with (refine wpList_stA rfl 2 (.tmp 62) (.tmp 59) rfl g (k * 8 + 6) (by simp [Act.eval]) (.int .i64 (q + 1 + 1 + 1 + 1 + 1 + 1)) rfl 1 rfl 112 arr HG.out infoI1 (by have := HN.out.1; omega) (by simp [Value.cells, Value.oneCell']) ?_)
   intro Y6 hP
   have HR : Hid (RowTo g 112 (n * 8) (markK m) (k * 8 + 7) Y6) := rowTo_put1 (k := k * 8 + 6) HN.out.1 HN.out.2 (by omega) (by rw [markK_i (by omega)]; exact int_eq (by have := HQ.out; omega)) hP
   replace HT : Hid (Touch [g] w Y6) := HT.out.trans hP.to
   clear hP HG HN
   obtain ⟨arr, hb, hn2, hc⟩ := HR.out
   have HG : Hid (Y6.heap[g]? = some (.cells arr 112 (0, 0))) := hb
   have HN : Hid (n * 8 ≤ arr.size ∧ ∀ i, i < k * 8 + 7 → arr[i]? = some (markK m i)) := ⟨hn2, hc⟩
   clear hb hn2 hc HR
   go_wp2_with fail
   have hk7 : q + 1 + 1 + 1 + 1 + 1 + 1 + 1 = ((m + k * 8 + 7 : Nat) : Int) := by have := HQ.out; omega
   rw [hk7]
   refine (markText_any (m + k * 8 + 7) _ (by omega)).mono ?_
   rintro e wm ⟨rfl, hbm⟩
   replace HT : Hid (Touch [g] w wm) := HT.out.trans (Touch.ofBelow hbm)
   replace HG : Hid (wm.heap[g]? = some (.cells arr 112 (0, 0))) := (hbm.block _ (blk_lt HG.out)).trans HG.out
   clear hbm
   go_wp2_with (refine wpList_stA rfl 9 (.tmp 71) (.tmp 68) rfl g (k * 8 + 7) (by simp [Act.eval]) (.string (mt (m + k * 8 + 7))) rfl 1 rfl 112 arr HG.out (by kernel_rfl) (by have := HN.out.1; omega) (by simp [Value.cells, Value.oneCell']) ?_)
   intro Y7 hP
   have HR : Hid (RowTo g 112 (n * 8) (markK m) (k * 8 + 8) Y7) := rowTo_put1 (k := k * 8 + 7) HN.out.1 HN.out.2 (by omega) markK_s hP
   replace HT : Hid (Touch [g] w Y7) := HT.out.trans hP.to
   clear hP HG HN
   go_wp2_with fail
   go_roundw
   case rel => exact ⟨k + 1, _, by omega, by go_num, rfl, by unfold Hid; omega, by show RowTo _ _ _ _ ((k + 1) * 8) _; rw [show (k + 1) * 8 = k * 8 + 8 by omega]; exact HR.out, HT⟩
   case measure => simp [intOf]; omega
  ·
   obtain rfl : k = n := by omega
   go_wp2_with fail
   go_ret
   exact ⟨ret_int HQ.out, HR.out, HT.out⟩
set_option maxRecDepth 10000 in
set_option maxHeartbeats 4000000 in
theorem heldPks_any (g n cap m : Nat) (w : World) (h : RowTo g 112 (n * 8) (markK m) (n * 8) w) (hn : n ≤ 1048576) (hm : m ≤ 50000000) :
  Calls Tryz.prog 104 #[.slice (some ⟨g, 0, none⟩) n cap, .int .i64 m] w fun e w' => e = .returned (.int .i64 ((m + n * 8 : Nat) : Int)) ∧ Below w.heap.size w w' := by
 have HR : Hid (RowTo g 112 (n * 8) (markK m) (n * 8) w) := h
 clear h
 go_enter Tryz.func104, Tryz.ntmps104
 go_wp2_with fail
 go_loopw [1, 5] (fun x i wr => ∃ (k : Nat) (q : Int), k ≤ n ∧ i = .int .i64 k ∧ x = .int .i64 q ∧ Hid (q = ((m + k * 8 : Nat) : Int)) ∧ Hid (Below w.heap.size w wr)) (fun _ i _ => n - (intOf i).toNat)
 case atStart => exact ⟨0, m, Nat.zero_le _, rfl, rfl, by unfold Hid; simp, Below.refl _ _⟩
 case round =>
  obtain ⟨k, q, hk, rfl, rfl, HQ, HB⟩ := hrel
  by_cases hlt : k < n
  ·
   have hlt' : (k : Int) < n := by omega
   have q0 : 0 ≤ q := by have := HQ.out; omega
   have q1 : q ≤ 1000000000 := by have := HQ.out; omega
   have HRr : Hid (RowTo g 112 (n * 8) (markK m) (n * 8) wr) := HR.out.keep (HB.out.block _ HR.out.lt)
   have c0 : wr.cell? ⟨g, k * 8, none⟩ = some (.int .i64 (q)) := by rw [HRr.out.at _ (by omega), show k * 8 = k * 8 + 0 by omega, markK_i (m := m) (k := k) (j := 0) (by omega)]; exact congrArg some (int_eq (by have := HQ.out; omega))
   have c1 : wr.cell? ⟨g, k * 8 + 1, none⟩ = some (.int .i64 (q + 1)) := by rw [HRr.out.at _ (by omega), markK_i (m := m) (k := k) (j := 1) (by omega)]; exact congrArg some (int_eq (by have := HQ.out; omega))
   have c2 : wr.cell? ⟨g, k * 8 + 2, none⟩ = some (.int .i64 (q + 1 + 1)) := by rw [HRr.out.at _ (by omega), markK_i (m := m) (k := k) (j := 2) (by omega)]; exact congrArg some (int_eq (by have := HQ.out; omega))
   have c3 : wr.cell? ⟨g, k * 8 + 3, none⟩ = some (.int .i64 (q + 1 + 1 + 1)) := by rw [HRr.out.at _ (by omega), markK_i (m := m) (k := k) (j := 3) (by omega)]; exact congrArg some (int_eq (by have := HQ.out; omega))
   have c4 : wr.cell? ⟨g, k * 8 + 4, none⟩ = some (.int .i64 (q + 1 + 1 + 1 + 1)) := by rw [HRr.out.at _ (by omega), markK_i (m := m) (k := k) (j := 4) (by omega)]; exact congrArg some (int_eq (by have := HQ.out; omega))
   have c5 : wr.cell? ⟨g, k * 8 + 5, none⟩ = some (.int .i64 (q + 1 + 1 + 1 + 1 + 1)) := by rw [HRr.out.at _ (by omega), markK_i (m := m) (k := k) (j := 5) (by omega)]; exact congrArg some (int_eq (by have := HQ.out; omega))
   have c6 : wr.cell? ⟨g, k * 8 + 6, none⟩ = some (.int .i64 (q + 1 + 1 + 1 + 1 + 1 + 1)) := by rw [HRr.out.at _ (by omega), markK_i (m := m) (k := k) (j := 6) (by omega)]; exact congrArg some (int_eq (by have := HQ.out; omega))
   have c7 : wr.cell? ⟨g, k * 8 + 7, none⟩ = some (.string (mt (m + k * 8 + 7))) := by rw [HRr.out.at _ (by omega), markK_s]
   have hk7 : q + 1 + 1 + 1 + 1 + 1 + 1 + 1 = ((m + k * 8 + 7 : Nat) : Int) := by have := HQ.out; omega
   have HK7 : Hid (q + 1 + 1 + 1 + 1 + 1 + 1 + 1 = ((m + k * 8 + 7 : Nat) : Int)) := hk7
   clear hk7 HRr
   go_wp2_with fail
   clear c0 c1 c2 c3 c4 c5 c6
   refine wp_region_held_drew (S := fun w' => w'.cell? ⟨g, k * 8 + 7, none⟩ = some (.string (mt (m + k * 8 + 7)))) (by kernel_rfl) c7 (fun hHeld => ?_)
   refine tC 0 79 (v := ?_) ?_ ?_
   rotate_left
   ·
    intro wx hSw
    try dsimp only at hSw
    go_simp
    try with_reducible rfl
   try simp only [Act.put, PZ]
   refine tC 1 80 (v := ?_) ?_ ?_
   rotate_left
   ·
    intro wx hSw
    try dsimp only at hSw
    go_simp
    try with_reducible rfl
   try simp only [Act.put, PZ]
   refine tC 2 81 (v := ?_) ?_ ?_
   rotate_left
   ·
    intro wx hSw
    try dsimp only at hSw
    go_simp
    try with_reducible rfl
   try simp only [Act.put, PZ]
   refine tC 3 82 (v := ?_) ?_ ?_
   rotate_left
   ·
    intro wx hSw
    try dsimp only at hSw
    go_simp
    try with_reducible rfl
   try simp only [Act.put, PZ]
   refine tC 4 83 (v := ?_) ?_ ?_
   rotate_left
   ·
    intro wx hSw
    try dsimp only at hSw
    go_simp
    try with_reducible rfl
   try simp only [Act.put, PZ]
   refine tC 5 84 (v := ?_) ?_ ?_
   rotate_left
   ·
    intro wx hSw
    try dsimp only at hSw
    go_simp
    try with_reducible rfl
   try simp only [Act.put, PZ]
   refine tC 6 85 (v := ?_) ?_ ?_
   rotate_left
   ·
    intro wx hSw
    try dsimp only at hSw
    go_simp
    try with_reducible rfl
   try simp only [Act.put, PZ]
   refine r1 7 (fun K hK => ?_)
   go_simp
   rw [HK7.out]
   refine (markText_any (m + k * 8 + 7) _ (by omega)).mono ?_
   rintro e wm ⟨rfl, hbm⟩
   have HB2 : Hid (Below w.heap.size w wm) := HB.out.drew.trans (hbm.mono HB.out.drew.size)
   have c72 : wm.cell? ⟨g, k * 8 + 7, none⟩ = some (.string (mt (m + k * 8 + 7))) := (hbm.cell (p := ⟨g, k * 8 + 7, none⟩) (cellLt (w := wr.drew) c7)).trans c7
   clear hbm c7 HB
   go_wp2_with fail
   refine hK.out _ _ c72 (fun hHeld => ?_)
   clear hK K
   try simp only [Act.put, PZ]
   refine tC 8 87 (v := ?_) ?_ ?_
   rotate_left
   ·
    intro wx hSw
    try dsimp only at hSw
    go_simp
    try with_reducible rfl
   try simp only [Act.put, PZ]
   refine dn ?_
   clear hHeld c72
   go_wp2_with fail
   go_roundw
   case rel => exact ⟨k + 1, _, by omega, by go_num, rfl, by unfold Hid; have := HK7.out; omega, HB2⟩
   case measure => simp [intOf]; omega
  ·
   obtain rfl : k = n := by omega
   go_wp2_with fail
   go_ret
   exact ⟨ret_int HQ.out, HB.out⟩
end Go.Proofs.YtfkpncopkgidfaaGreat
