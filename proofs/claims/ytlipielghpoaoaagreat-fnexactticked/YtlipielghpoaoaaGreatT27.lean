import Derived.Test.YtlipielghpoaoaaGreatRows
import Derived.Test.YtlipielghpoaoaaGreatT03
import Derived.Test.YtlipielghpoaoaaGreatT05
import Derived.Test.YtlipielghpoaoaaGreatT19
import Derived.Test.YtlipielghpoaoaaGreatT26
import Derived.Below
import Derived.ChangeOld
import Derived.Deep.Grids
import Derived.Deep.Matrix
import Derived.Deep.Slices
import Derived.OpenShut
import Derived.ProofKit
import Derived.ShutString
namespace Go.Proofs.YtlipielghpoaoaaGreat
open Go.RowKit
set_option linter.unusedVariables false
set_option linter.unusedSimpArgs false
theorem markEnts0 (a : Option Addr) (cap m : Nat) (w : World) : Calls Tryz.prog 45 #[.slice a 0 cap, .int .i64 m] w fun e w' => e = .returned (.int .i64 m) ∧ w = w' := by
 go_enter Tryz.func45, Tryz.ntmps45
 go_wp2_with fail
 go_loop [1, 5] (fun x i => x = .int .i64 m ∧ i = .int .i64 0) (fun _ _ => 0)
 case atStart => exact ⟨rfl, rfl⟩
 case round =>
  obtain ⟨rfl, rfl⟩ := hrel
  go_wp2_with fail
  go_ret
  exact ⟨rfl, rfl⟩
theorem heldEnts0 (a : Option Addr) (cap m : Nat) (w : World) : Calls Tryz.prog 49 #[.slice a 0 cap, .int .i64 m] w fun e w' => e = .returned (.int .i64 m) ∧ w = w' := by
 go_enter Tryz.func49, Tryz.ntmps49
 go_wp2_with fail
 go_loop [1, 5] (fun x i => x = .int .i64 m ∧ i = .int .i64 0) (fun _ _ => 0)
 case atStart => exact ⟨rfl, rfl⟩
 case round =>
  obtain ⟨rfl, rfl⟩ := hrel
  go_wp2_with fail
  go_ret
  exact ⟨rfl, rfl⟩
theorem markPks0 (a : Option Addr) (cap m : Nat) (w : World) : Calls Tryz.prog 47 #[.slice a 0 cap, .int .i64 m] w fun e w' => e = .returned (.int .i64 m) ∧ w = w' := by
 go_enter Tryz.func47, Tryz.ntmps47
 go_wp2_with fail
 go_loop [1, 5] (fun x i => x = .int .i64 m ∧ i = .int .i64 0) (fun _ _ => 0)
 case atStart => exact ⟨rfl, rfl⟩
 case round =>
  obtain ⟨rfl, rfl⟩ := hrel
  go_wp2_with fail
  go_ret
  exact ⟨rfl, rfl⟩
theorem heldPks0 (a : Option Addr) (cap m : Nat) (w : World) : Calls Tryz.prog 51 #[.slice a 0 cap, .int .i64 m] w fun e w' => e = .returned (.int .i64 m) ∧ w = w' := by
 go_enter Tryz.func51, Tryz.ntmps51
 go_wp2_with fail
 go_loop [1, 5] (fun x i => x = .int .i64 m ∧ i = .int .i64 0) (fun _ _ => 0)
 case atStart => exact ⟨rfl, rfl⟩
 case round =>
  obtain ⟨rfl, rfl⟩ := hrel
  go_wp2_with fail
  go_ret
  exact ⟨rfl, rfl⟩
theorem markLns0 (a : Option Addr) (cap m : Nat) (w : World) : Calls Tryz.prog 48 #[.slice a 0 cap, .int .i64 m] w fun e w' => e = .returned (.int .i64 m) ∧ w = w' := by
 go_enter Tryz.func48, Tryz.ntmps48
 go_wp2_with fail
 go_loop [1, 5] (fun x i => x = .int .i64 m ∧ i = .int .i64 0) (fun _ _ => 0)
 case atStart => exact ⟨rfl, rfl⟩
 case round =>
  obtain ⟨rfl, rfl⟩ := hrel
  go_wp2_with fail
  go_ret
  exact ⟨rfl, rfl⟩
theorem heldLns0 (a : Option Addr) (cap m : Nat) (w : World) : Calls Tryz.prog 52 #[.slice a 0 cap, .int .i64 m] w fun e w' => e = .returned (.int .i64 m) ∧ w = w' := by
 go_enter Tryz.func52, Tryz.ntmps52
 go_wp2_with fail
 go_loop [1, 5] (fun x i => x = .int .i64 m ∧ i = .int .i64 0) (fun _ _ => 0)
 case atStart => exact ⟨rfl, rfl⟩
 case round =>
  obtain ⟨rfl, rfl⟩ := hrel
  go_wp2_with fail
  go_ret
  exact ⟨rfl, rfl⟩
theorem markVE_any (a : Option Addr) (n cap m base : Nat) (F : Nat → Value) (w : World) (h : VT 56 w base a (n * 3) F) (hn : n ≤ 1048576) (hm : m ≤ 100000000) :
  Calls Tryz.prog 45 #[.slice a n cap, .int .i64 m] w fun e w' => e = .returned (.int .i64 ((m + n * 3 : Nat) : Int)) ∧ VT 56 w' base a (n * 3) (markF m) ∧ Touch (blkV a (n * 3)) w w' := by
 by_cases h0 : n = 0
 ·
  subst h0
  refine (markEnts0 a cap m w).mono ?_
  rintro e w' ⟨rfl, rfl⟩
  exact ⟨by simp, .inl rfl, Touch.refl _ _⟩
 rcases h with h | ⟨g, rfl, hg, hr⟩
 ·
  omega
 ·
  refine (markEnts_any g n cap m _ w hr hn hm).mono ?_
  rintro e w' ⟨rfl, h1, h2⟩
  refine ⟨rfl, .inr ⟨g, rfl, hg, h1⟩, ?_⟩
  unfold blkV
  rw [if_neg (by omega)]
  exact h2
theorem heldVE_any (a : Option Addr) (n cap m base : Nat) (w : World) (h : VT 56 w base a (n * 3) (markF m)) (hn : n ≤ 1048576) (hm : m ≤ 100000000) :
  Calls Tryz.prog 49 #[.slice a n cap, .int .i64 m] w fun e w' => e = .returned (.int .i64 ((m + n * 3 : Nat) : Int)) ∧ Below w.heap.size w w' := by
 by_cases h0 : n = 0
 ·
  subst h0
  refine (heldEnts0 a cap m w).mono ?_
  rintro e w' ⟨rfl, rfl⟩
  exact ⟨by simp, Below.refl _ _⟩
 rcases h with h | ⟨g, rfl, hg, hr⟩
 ·
  omega
 ·
  exact heldEnts_any g n cap m w hr hn hm
theorem markVK_any (a : Option Addr) (n cap m base : Nat) (F : Nat → Value) (w : World) (h : VT 60 w base a (n * 8) F) (hn : n ≤ 1048576) (hm : m ≤ 50000000) :
  Calls Tryz.prog 47 #[.slice a n cap, .int .i64 m] w fun e w' => e = .returned (.int .i64 ((m + n * 8 : Nat) : Int)) ∧ VT 60 w' base a (n * 8) (markK m) ∧ Touch (blkV a (n * 8)) w w' := by
 by_cases h0 : n = 0
 ·
  subst h0
  refine (markPks0 a cap m w).mono ?_
  rintro e w' ⟨rfl, rfl⟩
  exact ⟨by simp, .inl rfl, Touch.refl _ _⟩
 rcases h with h | ⟨g, rfl, hg, hr⟩
 ·
  omega
 ·
  refine (markPks_any g n cap m _ w hr hn hm).mono ?_
  rintro e w' ⟨rfl, h1, h2⟩
  refine ⟨rfl, .inr ⟨g, rfl, hg, h1⟩, ?_⟩
  unfold blkV
  rw [if_neg (by omega)]
  exact h2
theorem heldVK_any (a : Option Addr) (n cap m base : Nat) (w : World) (h : VT 60 w base a (n * 8) (markK m)) (hn : n ≤ 1048576) (hm : m ≤ 50000000) :
  Calls Tryz.prog 51 #[.slice a n cap, .int .i64 m] w fun e w' => e = .returned (.int .i64 ((m + n * 8 : Nat) : Int)) ∧ Below w.heap.size w w' := by
 by_cases h0 : n = 0
 ·
  subst h0
  refine (heldPks0 a cap m w).mono ?_
  rintro e w' ⟨rfl, rfl⟩
  exact ⟨by simp, Below.refl _ _⟩
 rcases h with h | ⟨g, rfl, hg, hr⟩
 ·
  omega
 ·
  exact heldPks_any g n cap m w hr hn hm
def VL (w : World) (base : Nat) (a : Option Addr) (n : Nat) (L : Nat → Lng) : Prop := n = 0 ∨ ∃ g, a = some ⟨g, 0, none⟩ ∧ base ≤ g ∧ Lns w base g n L
def allV (a : Option Addr) (n : Nat) (L : Nat → Lng) : List Nat := blkV a (n * 8) ++ (List.range n).flatMap fun i => (L i).blks
theorem markVL_any (a : Option Addr) (n cap m base : Nat) (L : Nat → Lng) (w : World) (h : VL w base a n L) (hn : n ≤ 1048576) (hm : m ≤ 30000000) (hs : cntL L n ≤ 10000000) (hsm : ∀ i, i < n → (L i).Small) :
  Calls Tryz.prog 48 #[.slice a n cap, .int .i64 m] w fun e w' => e = .returned (.int .i64 ((m + cntL L n : Nat) : Int)) ∧ VL w' base a n (marksG m L n) ∧ Touch (allV a n L) w w' := by
 by_cases h0 : n = 0
 ·
  subst h0
  refine (markLns0 a cap m w).mono ?_
  rintro e w' ⟨rfl, rfl⟩
  exact ⟨rfl, .inl rfl, Touch.refl _ _⟩
 rcases h with h | ⟨g, rfl, hg, hr⟩
 ·
  omega
 ·
  refine (markLns_any g n cap m base L w hr hn hm hs hsm).mono ?_
  rintro e w' ⟨rfl, h1, h2⟩
  refine ⟨rfl, .inr ⟨g, rfl, hg, h1⟩, ?_⟩
  have e : allV (some ⟨g, 0, none⟩) n L = allL g n L := by
   unfold allV allL blkV
   rw [if_neg (by omega)]
   rfl
  rw [e]
  exact h2
theorem heldVL_any (a : Option Addr) (n cap m base : Nat) (L : Nat → Lng) (w : World) (h : VL w base a n (marksG m L n)) (hn : n ≤ 1048576) (hm : m ≤ 30000000) (hs : cntL L n ≤ 10000000) (hsm : ∀ i, i < n → (L i).Small) :
  Calls Tryz.prog 52 #[.slice a n cap, .int .i64 m] w fun e w' => e = .returned (.int .i64 ((m + cntL L n : Nat) : Int)) ∧ w = w' := by
 by_cases h0 : n = 0
 ·
  subst h0
  refine (heldLns0 a cap m w).mono ?_
  rintro e w' ⟨rfl, rfl⟩
  exact ⟨rfl, rfl⟩
 rcases h with h | ⟨g, rfl, hg, hr⟩
 ·
  omega
 ·
  exact heldLns_any g n cap m base L w hr hn hm hs hsm
section
variable {w w' : World} {base g n : Nat} {L : Nat → Lng} {S : List Nat}
theorem VT.farT {t t' : TypeId} {a : Option Addr} {f : Nat → Value} (h : VT t w base a n f) (ht : Touch S w w') (hS : ∀ x ∈ S, ∃ cs, w.heap[x]? = some (.cells cs t' (0, 0))) (hne : t ≠ t') : VT t w' base a n f :=
 h.touchS ht (fun x hx hy => by
  obtain ⟨cs, e1⟩ := h.type x hx
  obtain ⟨cs', e2⟩ := hS x hy
  rw [e1] at e2
  simp at e2
  exact hne e2.2)
theorem OwnLg.farT {l : Lng} {t' : TypeId} (h : OwnLg w base l) (ht : Touch S w w') (hS : ∀ x ∈ S, ∃ cs, w.heap[x]? = some (.cells cs t' (0, 0))) (h2 : 2 ≠ t') (h3 : 25 ≠ t') : OwnLg w' base l := by
 have no : ∀ {a : Option Addr} {n : Nat} {f : Nat → Value} {t : TypeId}, VG t w base a n f → t ≠ t' → VG t w' base a n f := fun hv hne => hv.touchS ht (fun x hx hy => by
  obtain ⟨cs, e1⟩ := hv.type x hx
  obtain ⟨cs', e2⟩ := hS x hy
  rw [e1] at e2
  simp at e2
  exact hne e2.2)
 exact ⟨no h.t h2, no h.u h3, fun i hi => no (h.z i hi) h2, no h.q h2, no h.d h2, no h.s h3, fun i hi => no (h.y i hi) h2, h.nd⟩
theorem Lns.row2 (h : Lns w base g n L) {x : Nat} {cs : Array Value} {t' : TypeId} (hx : w.heap[x]? = some (.cells cs t' (0, 0))) (hne : 67 ≠ t') : g ≠ x := fun e => by
 obtain ⟨arr, e1, _⟩ := h.r
 rw [e, hx] at e1
 simp at e1
 exact hne e1.2.symm
theorem Lns.farT {t' : TypeId} (h : Lns w base g n L) (ht : Touch S w w') (hS : ∀ x ∈ S, ∃ cs, w.heap[x]? = some (.cells cs t' (0, 0))) (h1 : 67 ≠ t') (h2 : 2 ≠ t') (h3 : 25 ≠ t') : Lns w' base g n L :=
 ⟨h.r.keep (ht.block g h.r.lt (fun hx => by obtain ⟨cs, e⟩ := hS g hx; exact h.row2 e h1 rfl)), fun i hi => (h.ls i hi).farT ht hS h2 h3, h.ap⟩
theorem Lns.far2 (h : Lns w base g n L) (ht : Touch S w w') (hS : ∀ x ∈ S, ∃ cs, w.heap[x]? = some (.cells cs 2 (0, 0))) (hd : ∀ i, i < n → ∀ x ∈ (L i).blks, x ∉ S) : Lns w' base g n L :=
 ⟨h.r.keep (ht.block g h.r.lt (fun hx => by obtain ⟨cs, e⟩ := hS g hx; exact h.row2 e (by decide) rfl)), fun i hi => (h.ls i hi).far ht hS (hd i hi), h.ap⟩
end
theorem VL.imp {w w' : World} {base : Nat} {a : Option Addr} {n : Nat} {L L' : Nat → Lng} (h : VL w base a n L) (f : ∀ g, Lns w base g n L → Lns w' base g n L') : VL w' base a n L' := Or.imp id (by rintro ⟨g, ha, hg, hl⟩; exact ⟨g, ha, hg, f g hl⟩) h
def Swg.m1 (S : Swg) (m : Nat) : Nat := m + S.nE * 3
def Swg.m2 (S : Swg) (m : Nat) : Nat := S.m1 m + S.N.nU
def Swg.m3 (S : Swg) (m : Nat) : Nat := S.m2 m + S.N.nP
def Swg.m4 (S : Swg) (m : Nat) : Nat := S.m3 m + S.nK * 8
def Swg.mEnd (S : Swg) (m : Nat) : Nat := S.m4 m + cntL S.L S.nL
structure MkdS (w : World) (base m : Nat) (S : Swg) : Prop where
 e : VT 56 w base S.aE (S.nE * 3) (markF m)
 u : VT 2 w base S.N.aU S.N.nU fun i => .int .i64 ((S.m1 m + i : Nat) : Int)
 p : VT 4 w base S.N.aP S.N.nP fun i => .bool (mb (S.m2 m + i))
 k : VT 60 w base S.aK (S.nK * 8) (markK (S.m3 m))
 l : VL w base S.aL S.nL (marksG (S.m4 m) S.L S.nL)
theorem OwnLg.upL {w w' : World} {base g n : Nat} {L : Nat → Lng} (h : Lns w base g n L) (hb : Below w.heap.size w w') : Lns w' base g n L := ⟨h.r.keep (hb.block _ h.r.lt), fun i hi => (h.ls i hi).up hb, h.ap⟩
theorem MkdS.up {w w' : World} {base m : Nat} {S : Swg} (h : MkdS w base m S) (hb : Below w.heap.size w w') : MkdS w' base m S := ⟨h.e.up hb, h.u.up hb, h.p.up hb, h.k.up hb, h.l.imp (fun g hl => OwnLg.upL hl hb)⟩
def Swg.all (S : Swg) : List Nat := blkV S.aE (S.nE * 3) ++ (blkV S.N.aU S.N.nU ++ (blkV S.N.aP S.N.nP ++ (blkV S.aK (S.nK * 8) ++ allV S.aL S.nL S.L)))
theorem OwnSg.all {w : World} {base : Nat} {S : Swg} (h : OwnSg w base S) : ∀ x ∈ S.all, base ≤ x ∧ x < w.heap.size := by
 intro x hx
 unfold Swg.all allV at hx
 simp only [List.mem_append, List.mem_flatMap, List.mem_range] at hx
 rcases hx with hx | hx | hx | hx | hx | ⟨i, hi, hx⟩
 ·
  exact h.e.blk x hx
 ·
  exact h.u.blk x hx
 ·
  exact h.p.blk x hx
 ·
  exact h.k.blk x hx
 ·
  exact h.l.blk x hx
 ·
  exact (h.ls i hi).blk x hx
theorem OwnSg.vl {w : World} {base : Nat} {S : Swg} (h : OwnSg w base S) : VL w base S.aL S.nL S.L := by
 rcases h.l with h0 | ⟨g, ha, hg, hr⟩
 ·
  exact .inl (by omega)
 ·
  exact .inr ⟨g, ha, hg, hr, h.ls, flat_dis _ (List.nodup_append.1 h.nd).2.1⟩
theorem OwnSg.un {w : World} {base : Nat} {S : Swg} (h : OwnSg w base S) : ∀ i, i < S.nL → ∀ x ∈ (S.L i).blks, x ∉ blkV S.N.aU S.N.nU := fun i hi x hx hy =>
 (List.nodup_append.1 h.nd).2.2 x hy x (by simp only [List.mem_flatMap, List.mem_range]; exact ⟨i, hi, hx⟩) rfl
theorem sumL_add3 (f : Nat → Nat) : ∀ n, sumL (fun i => 3 + f i) n = 3 * n + sumL f n := by
 intro n
 induction n with
 | zero => rfl
 | succ n ih =>
  show sumL (fun i => 3 + f i) n + (3 + f n) = 3 * (n + 1) + (sumL f n + f n)
  rw [ih]
  omega
theorem cnt_le {S : Swg} (h : S.tot ≤ 2000000) : cntL S.L S.nL ≤ 6000000 := by
 unfold Swg.tot at h
 unfold cntL
 rw [sumL_add3]
 omega
theorem markCnt_any (N : Cnt) (m base : Nat) (w : World) (hu : VT 2 w base N.aU N.nU fun i => .int .i64 (N.u i)) (hp : VT 4 w base N.aP N.nP fun i => .bool (N.p i)) (hs : N.Small) (hm : m ≤ 50000000) :
  Calls Tryz.prog 46 #[.agg N.cells, .int .i64 m] w fun e w' => e = .returned (.int .i64 ((m + N.nU + N.nP : Nat) : Int)) ∧ (∃ w1, Touch (blkV N.aU N.nU) w w1 ∧ VT 2 w1 base N.aU N.nU (fun i => .int .i64 ((m + i : Nat) : Int)) ∧ VT 4 w' base N.aP N.nP (fun i => .bool (mb (m + N.nU + i))) ∧ Touch (blkV N.aP N.nP) w1 w' ∧ ∀ x ∈ blkV N.aP N.nP, ∃ cs, w1.heap[x]? = some (.cells cs 4 (0, 0))) := by
 have HU : Hid (VT 2 w base N.aU N.nU fun i => .int .i64 (N.u i)) := hu
 have HP : Hid (VT 4 w base N.aP N.nP fun i => .bool (N.p i)) := hp
 have HS : Hid N.Small := hs
 obtain ⟨W, eW⟩ : ∃ W, w.alloc (.cells N.cells 37) = W := ⟨_, rfl⟩
 have HB : Hid (Below (w.heap.size + 1) (w.alloc (.cells N.cells 37)) W) := by rw [eW]; exact Below.refl _ _
 have c0 : W.cell? ⟨w.heap.size, 0, none⟩ = some (.slice N.aU N.nU N.cU) := boxed HB.out 0
 have hW : Below w.heap.size w W := under HB.out
 have HW : Hid (Below w.heap.size w W) := hW
 have hbx : w.heap.size < W.heap.size := by have := upper HB.out; omega
 clear hu hp hs hW
 go_enter Tryz.func46, Tryz.ntmps46
 go_wp2_with fail
 clear eW c0
 refine (markVInts_any N.aU N.nU N.cU m base _ _ (HU.out.up HW.out) HS.out.u (by omega)).mono ?_
 rintro e w1 ⟨rfl, hv1, ht1⟩
 have hg1 : w.heap.size ∉ blkV N.aU N.nU := fun hx => by have := (HU.out.blk _ hx).2; omega
 have c2 : w1.cell? ⟨w.heap.size, 2, none⟩ = some (.slice N.aP N.nP N.cP) := by
  rw [World.cell?_of_block (w := W) (a := ⟨w.heap.size, 2, none⟩) (ht1.block _ hbx hg1)]
  exact boxed HB.out 2
 have HV1 : Hid (VT 2 w1 base N.aU N.nU (fun i => .int .i64 ((m + i : Nat) : Int)) ∧ Touch (blkV N.aU N.nU) W w1) := ⟨hv1, ht1⟩
 have HP1 : Hid (VT 4 w1 base N.aP N.nP fun i => .bool (N.p i)) := (HP.out.up HW.out).farT ht1 (HU.out.up HW.out).type (by decide)
 clear hv1 ht1 hg1
 go_wp2_with fail
 refine (markVBools_any N.aP N.nP N.cP (m + N.nU) base _ _ HP1.out HS.out.p (by have := HS.out.u; omega)).mono ?_
 rintro e w2 ⟨rfl, hv2, ht2⟩
 have HF : Hid (∃ w1, Touch (blkV N.aU N.nU) w w1 ∧ VT 2 w1 base N.aU N.nU (fun i => .int .i64 ((m + i : Nat) : Int)) ∧ VT 4 w2 base N.aP N.nP (fun i => .bool (mb (m + N.nU + i))) ∧ Touch (blkV N.aP N.nP) w1 w2 ∧ ∀ x ∈ blkV N.aP N.nP, ∃ cs, w1.heap[x]? = some (.cells cs 4 (0, 0))) := ⟨w1, (Touch.ofBelow HW.out).trans HV1.out.2, HV1.out.1, hv2, ht2, HP1.out.type⟩
 clear hv2 ht2 c2
 go_wp2_with fail
 go_ret
 exact ⟨rfl, HF.out⟩
theorem heldCnt_any (N : Cnt) (m base : Nat) (w : World) (hu : VT 2 w base N.aU N.nU fun i => .int .i64 ((m + i : Nat) : Int)) (hp : VT 4 w base N.aP N.nP fun i => .bool (mb (m + N.nU + i))) (hs : N.Small) (hm : m ≤ 50000000) :
  Calls Tryz.prog 50 #[.agg N.cells, .int .i64 m] w fun e w' => e = .returned (.int .i64 ((m + N.nU + N.nP : Nat) : Int)) ∧ Below w.heap.size w w' := by
 have HU : Hid (VT 2 w base N.aU N.nU fun i => .int .i64 ((m + i : Nat) : Int)) := hu
 have HP : Hid (VT 4 w base N.aP N.nP fun i => .bool (mb (m + N.nU + i))) := hp
 have HS : Hid N.Small := hs
 obtain ⟨W, eW⟩ : ∃ W, w.alloc (.cells N.cells 37) = W := ⟨_, rfl⟩
 have HB : Hid (Below (w.heap.size + 1) (w.alloc (.cells N.cells 37)) W) := by rw [eW]; exact Below.refl _ _
 have c0 : W.cell? ⟨w.heap.size, 0, none⟩ = some (.slice N.aU N.nU N.cU) := boxed HB.out 0
 have c2 : W.cell? ⟨w.heap.size, 2, none⟩ = some (.slice N.aP N.nP N.cP) := boxed HB.out 2
 have HW : Hid (Below w.heap.size w W) := under HB.out
 clear hu hp hs
 go_enter Tryz.func50, Tryz.ntmps50
 go_wp2_with fail
 clear eW
 refine (heldVInts_any N.aU N.nU N.cU m base _ (HU.out.up HW.out) HS.out.u (by omega)).mono ?_
 rintro e w1 ⟨rfl, rfl⟩
 go_wp2_with fail
 refine (heldVBools_any N.aP N.nP N.cP (m + N.nU) base _ (HP.out.up HW.out) HS.out.p (by have := HS.out.u; omega)).mono ?_
 rintro e w2 ⟨rfl, rfl⟩
 go_wp2_with fail
 go_ret
 exact ⟨rfl, HW.out⟩
set_option maxHeartbeats 2000000 in
theorem markSw_any (S : Swg) (base : Nat) (w : World) (h : OwnSg w base S) (hs : S.Small) (ht : S.tot ≤ 2000000) :
  Calls Tryz.prog 12 #[.agg S.cells, .int .i64 1] w fun e w' => e = .returned (.int .i64 ((S.mEnd 1 : Nat) : Int)) ∧ MkdS w' base 1 S ∧ Touch S.all w w' := by
 have HO : Hid (OwnSg w base S) := h
 have HS : Hid S.Small := hs
 have HC : Hid (cntL S.L S.nL ≤ 6000000) := cnt_le ht
 have hb : S.nE ≤ 2000000 ∧ S.N.nU ≤ 2000000 ∧ S.N.nP ≤ 2000000 ∧ S.nK ≤ 2000000 := by unfold Swg.tot at ht; omega
 have HN : Hid (S.nE ≤ 2000000 ∧ S.N.nU ≤ 2000000 ∧ S.N.nP ≤ 2000000 ∧ S.nK ≤ 2000000 ∧ S.nE + S.N.nU + S.N.nP + S.nK ≤ 2000000) := by unfold Swg.tot at ht; rw [Hid]; omega
 obtain ⟨W, eW⟩ : ∃ W, w.alloc (.cells S.cells 41) = W := ⟨_, rfl⟩
 have HB : Hid (Below (w.heap.size + 1) (w.alloc (.cells S.cells 41)) W) := by rw [eW]; exact Below.refl _ _
 have HW : Hid (Below w.heap.size w W) := under HB.out
 have HK : Hid (W.heap[w.heap.size]? = some (.cells S.cells 41 (0, 0))) := by rw [← eW]; exact blk_new _ _
 have Hno : Hid (w.heap.size ∉ S.all) := fun hx => by have := (h.all _ hx).2; omega
 have HA : Hid ((∀ x ∈ blkV S.aE (S.nE * 3), x ∈ S.all) ∧ (∀ x ∈ blkV S.N.aU S.N.nU, x ∈ S.all) ∧ (∀ x ∈ blkV S.N.aP S.N.nP, x ∈ S.all) ∧ (∀ x ∈ blkV S.aK (S.nK * 8), x ∈ S.all) ∧ ∀ x ∈ allV S.aL S.nL S.L, x ∈ S.all) := ⟨fun x hx => List.mem_append_left _ hx, fun x hx => List.mem_append_right _ (List.mem_append_left _ hx), fun x hx => List.mem_append_right _ (List.mem_append_right _ (List.mem_append_left _ hx)), fun x hx => List.mem_append_right _ (List.mem_append_right _ (List.mem_append_right _ (List.mem_append_left _ hx))), fun x hx => List.mem_append_right _ (List.mem_append_right _ (List.mem_append_right _ (List.mem_append_right _ hx)))⟩
 have c9 : W.cell? ⟨w.heap.size, 9, none⟩ = some (.slice S.aE S.nE S.cE) := blk_cell HK.out 9
 have Q0 : OwnSg W base S := h.up HW.out
 have HQ0 : Hid (OwnSg W base S) := Q0
 have HL0 : Hid (VL W base S.aL S.nL S.L) := Q0.vl
 clear h hs ht Q0 hb
 go_enter Tryz.func12, Tryz.ntmps12
 go_wp2_with fail
 clear eW c9
 refine (markVE_any S.aE S.nE S.cE 1 base _ _ HQ0.out.e HS.out.e (by omega)).mono ?_
 rintro e w1 ⟨rfl, hv, ht⟩
 rw [show 1 + S.nE * 3 = S.m1 1 from rfl]
 have hty := HQ0.out.e.type
 have HE : Hid (VT 56 w1 base S.aE (S.nE * 3) (markF 1)) := hv
 have HU : Hid (VT 2 w1 base S.N.aU S.N.nU fun i => .int .i64 (S.N.u i)) := HQ0.out.u.farT ht hty (by decide)
 have HP : Hid (VT 4 w1 base S.N.aP S.N.nP fun i => .bool (S.N.p i)) := HQ0.out.p.farT ht hty (by decide)
 have HKk : Hid (VT 60 w1 base S.aK (S.nK * 8) (flatK S.K)) := HQ0.out.k.farT ht hty (by decide)
 replace HL0 : Hid (VL w1 base S.aL S.nL S.L) := HL0.out.imp (fun g hl => hl.farT ht hty (by decide) (by decide) (by decide))
 replace HK : Hid (w1.heap[w.heap.size]? = some (.cells S.cells 41 (0, 0))) := (ht.block _ (blk_lt HK.out) (fun hx => Hno.out (HA.out.1 _ hx))).trans HK.out
 have HT : Hid (Touch S.all w w1) := (Touch.ofBelow HW.out).trans (ht.mono HA.out.1)
 have c10 : w1.cell? ⟨w.heap.size, 10, none⟩ = some (.slice S.N.aU S.N.nU S.N.cU) := blk_cell HK.out 10
 have c11 : w1.cell? ⟨w.heap.size, 11, none⟩ = some (.int .i64 S.N.lo) := blk_cell HK.out 11
 have c12 : w1.cell? ⟨w.heap.size, 12, none⟩ = some (.slice S.N.aP S.N.nP S.N.cP) := blk_cell HK.out 12
 clear hv ht hty
 go_wp2_with fail
 clear c10 c11 c12
 refine (markCnt_any S.N (S.m1 1) base _ HU.out HP.out HS.out.n (by have := HN.out; unfold Swg.m1; omega)).mono ?_
 rintro e w3 ⟨rfl, w2, t1, hv1, hv2, t2, ty4⟩
 rw [show S.m1 1 + S.N.nU + S.N.nP = S.m3 1 from rfl]
 have ty2 := HU.out.type
 have HE3 : Hid (VT 56 w3 base S.aE (S.nE * 3) (markF 1)) := (HE.out.farT t1 ty2 (by decide)).farT t2 ty4 (by decide)
 have HU3 : Hid (VT 2 w3 base S.N.aU S.N.nU fun i => .int .i64 ((S.m1 1 + i : Nat) : Int)) := hv1.farT t2 ty4 (by decide)
 have HP3 : Hid (VT 4 w3 base S.N.aP S.N.nP fun i => .bool (mb (S.m2 1 + i))) := hv2
 have HK3 : Hid (VT 60 w3 base S.aK (S.nK * 8) (flatK S.K)) := (HKk.out.farT t1 ty2 (by decide)).farT t2 ty4 (by decide)
 replace HL0 : Hid (VL w3 base S.aL S.nL S.L) := (HL0.out.imp (fun g hl => hl.far2 t1 ty2 HO.out.un)).imp (fun g hl => hl.farT t2 ty4 (by decide) (by decide) (by decide))
 replace HK : Hid (w3.heap[w.heap.size]? = some (.cells S.cells 41 (0, 0))) := by
  have q1 := (t1.block _ (blk_lt HK.out) (fun hx => Hno.out (HA.out.2.1 _ hx))).trans HK.out
  exact (t2.block _ (blk_lt q1) (fun hx => Hno.out (HA.out.2.2.1 _ hx))).trans q1
 replace HT : Hid (Touch S.all w w3) := (HT.out.trans (t1.mono HA.out.2.1)).trans (t2.mono HA.out.2.2.1)
 have c13 : w3.cell? ⟨w.heap.size, 13, none⟩ = some (.slice S.aK S.nK S.cK) := blk_cell HK.out 13
 clear HE HU HP HKk t1 hv1 hv2 t2 ty4 ty2
 go_wp2_with fail
 clear c13
 refine (markVK_any S.aK S.nK S.cK (S.m3 1) base _ _ HK3.out HS.out.k (by have := HN.out; unfold Swg.m3 Swg.m2 Swg.m1; omega)).mono ?_
 rintro e w4 ⟨rfl, hv, ht⟩
 rw [show S.m3 1 + S.nK * 8 = S.m4 1 from rfl]
 have hty := HK3.out.type
 have HE4 : Hid (VT 56 w4 base S.aE (S.nE * 3) (markF 1)) := HE3.out.farT ht hty (by decide)
 have HU4 : Hid (VT 2 w4 base S.N.aU S.N.nU fun i => .int .i64 ((S.m1 1 + i : Nat) : Int)) := HU3.out.farT ht hty (by decide)
 have HP4 : Hid (VT 4 w4 base S.N.aP S.N.nP fun i => .bool (mb (S.m2 1 + i))) := HP3.out.farT ht hty (by decide)
 have HK4 : Hid (VT 60 w4 base S.aK (S.nK * 8) (markK (S.m3 1))) := hv
 replace HL0 : Hid (VL w4 base S.aL S.nL S.L) := HL0.out.imp (fun g hl => hl.farT ht hty (by decide) (by decide) (by decide))
 replace HK : Hid (w4.heap[w.heap.size]? = some (.cells S.cells 41 (0, 0))) := (ht.block _ (blk_lt HK.out) (fun hx => Hno.out (HA.out.2.2.2.1 _ hx))).trans HK.out
 replace HT : Hid (Touch S.all w w4) := HT.out.trans (ht.mono HA.out.2.2.2.1)
 have c14 : w4.cell? ⟨w.heap.size, 14, none⟩ = some (.slice S.aL S.nL S.cL) := blk_cell HK.out 14
 clear HE3 HU3 HP3 HK3 hv ht hty
 go_wp2_with fail
 clear c14
 refine (markVL_any S.aL S.nL S.cL (S.m4 1) base S.L _ HL0.out HS.out.l (by have := HN.out; unfold Swg.m4 Swg.m3 Swg.m2 Swg.m1; omega) (by have := HC.out; omega) HS.out.ls).mono ?_
 rintro e w5 ⟨rfl, hv, ht⟩
 rw [show S.m4 1 + cntL S.L S.nL = S.mEnd 1 from rfl]
 have HF : Hid (MkdS w5 base 1 S ∧ Touch S.all w w5) := by
  have hne : ∀ {t : TypeId} {a : Option Addr} {n : Nat} {f : Nat → Value}, VT t w4 base a n f → t ≠ 2 → t ≠ 67 → VT t w5 base a n f := fun hx h2 h3 => hx.touchS ht (fun x hx1 hy => by
   obtain ⟨cs, e1⟩ := hx.type x hx1
   rcases HL0.out with h0 | ⟨g, ea, hg, hl⟩
   ·
    rw [h0] at hy; simp [allV, blkV] at hy
   ·
    rcases List.mem_append.1 hy with hy | hy
    ·
     rw [ea] at hy
     rw [blkV_at hy] at e1
     exact hl.row2 e1 (fun e => h3 e.symm) rfl
    ·
     simp only [List.mem_flatMap, List.mem_range] at hy
     obtain ⟨i, hi, hy⟩ := hy
     obtain ⟨cs', e2⟩ := (hl.ls i hi).type2 x hy
     rw [e1] at e2
     simp at e2
     exact h2 e2.2)
  have hu : VT 2 w5 base S.N.aU S.N.nU fun i => .int .i64 ((S.m1 1 + i : Nat) : Int) := HU4.out.touchS ht (fun x hx hy => by
   rcases List.mem_append.1 hy with hy | hy
   ·
    obtain ⟨cs, e1⟩ := HU4.out.type x hx
    rcases HL0.out with h0 | ⟨g, ea, hg, hl⟩
    ·
     rw [h0] at hy; simp [blkV] at hy
    ·
     rw [ea] at hy
     rw [blkV_at hy] at e1
     exact hl.row2 e1 (by decide) rfl
   ·
    simp only [List.mem_flatMap, List.mem_range] at hy
    obtain ⟨i, hi, hy⟩ := hy
    exact HO.out.un i hi x hy hx)
  exact ⟨⟨hne HE4.out (by decide) (by decide), hu, hne HP4.out (by decide) (by decide), hne HK4.out (by decide) (by decide), hv⟩, HT.out.trans (ht.mono HA.out.2.2.2.2)⟩
 clear hv ht
 go_wp2_with fail
 go_ret
 exact ⟨rfl, HF.out⟩
set_option maxHeartbeats 2000000 in
theorem heldSw_any (S : Swg) (base : Nat) (w : World) (h : MkdS w base 1 S) (hs : S.Small) (ht : S.tot ≤ 2000000) :
  Calls Tryz.prog 13 #[.agg S.cells, .int .i64 1] w fun e w' => e = .returned (.int .i64 ((S.mEnd 1 : Nat) : Int)) ∧ Below w.heap.size w w' := by
 have HO : Hid (MkdS w base 1 S) := h
 have HS : Hid S.Small := hs
 have HC : Hid (cntL S.L S.nL ≤ 6000000) := cnt_le ht
 have HN : Hid (S.nE + S.N.nU + S.N.nP + S.nK ≤ 2000000) := by unfold Swg.tot at ht; rw [Hid]; omega
 obtain ⟨W, eW⟩ : ∃ W, w.alloc (.cells S.cells 41) = W := ⟨_, rfl⟩
 have HB : Hid (Below (w.heap.size + 1) (w.alloc (.cells S.cells 41)) W) := by rw [eW]; exact Below.refl _ _
 have c9 : W.cell? ⟨w.heap.size, 9, none⟩ = some (.slice S.aE S.nE S.cE) := boxed HB.out 9
 clear h hs ht
 go_enter Tryz.func13, Tryz.ntmps13
 go_wp2_with fail
 clear eW c9
 refine (heldVE_any S.aE S.nE S.cE 1 base _ (HO.out.e.up (under HB.out)) HS.out.e (by omega)).mono ?_
 rintro e w1 ⟨rfl, hb⟩
 rw [show 1 + S.nE * 3 = S.m1 1 from rfl]
 replace HB : Hid (Below (w.heap.size + 1) (w.alloc (.cells S.cells 41)) w1) := next HB.out hb
 have c10 : w1.cell? ⟨w.heap.size, 10, none⟩ = some (.slice S.N.aU S.N.nU S.N.cU) := boxed HB.out 10
 have c11 : w1.cell? ⟨w.heap.size, 11, none⟩ = some (.int .i64 S.N.lo) := boxed HB.out 11
 have c12 : w1.cell? ⟨w.heap.size, 12, none⟩ = some (.slice S.N.aP S.N.nP S.N.cP) := boxed HB.out 12
 clear hb
 go_wp2_with fail
 clear c10 c11 c12
 refine (heldCnt_any S.N (S.m1 1) base _ (HO.out.u.up (under HB.out)) (HO.out.p.up (under HB.out)) HS.out.n (by have := HN.out; unfold Swg.m1; omega)).mono ?_
 rintro e w2 ⟨rfl, hb⟩
 rw [show S.m1 1 + S.N.nU + S.N.nP = S.m3 1 from rfl]
 replace HB : Hid (Below (w.heap.size + 1) (w.alloc (.cells S.cells 41)) w2) := next HB.out hb
 have c13 : w2.cell? ⟨w.heap.size, 13, none⟩ = some (.slice S.aK S.nK S.cK) := boxed HB.out 13
 clear hb
 go_wp2_with fail
 clear c13
 refine (heldVK_any S.aK S.nK S.cK (S.m3 1) base _ (HO.out.k.up (under HB.out)) HS.out.k (by have := HN.out; unfold Swg.m3 Swg.m2 Swg.m1; omega)).mono ?_
 rintro e w3 ⟨rfl, hb⟩
 rw [show S.m3 1 + S.nK * 8 = S.m4 1 from rfl]
 replace HB : Hid (Below (w.heap.size + 1) (w.alloc (.cells S.cells 41)) w3) := next HB.out hb
 have c14 : w3.cell? ⟨w.heap.size, 14, none⟩ = some (.slice S.aL S.nL S.cL) := boxed HB.out 14
 clear hb
 go_wp2_with fail
 clear c14
 refine (heldVL_any S.aL S.nL S.cL (S.m4 1) base S.L _ ((HO.out.up (under HB.out)).l) HS.out.l (by have := HN.out; unfold Swg.m4 Swg.m3 Swg.m2 Swg.m1; omega) (by have := HC.out; omega) HS.out.ls).mono ?_
 rintro e w4 ⟨rfl, rfl⟩
 rw [show S.m4 1 + cntL S.L S.nL = S.mEnd 1 from rfl]
 have B9 := under HB.out
 go_wp2_with fail
 go_ret
 exact ⟨rfl, B9⟩
theorem szPacket_any (x : Pkt) (left : Int) (w : World) (h0 : 0 ≤ left) (h1 : left ≤ 1048576) (hf : x.b.size ≤ maxLen) :
  Calls Tryz.prog 55 #[.agg x.cells, .int .i64 left] w fun e w' => (∃ r : Int, e = .returned (.int .i64 r) ∧ (r = -1 ∨ 0 ≤ r ∧ x.b.size ≤ 1048576 ∧ r ≤ left)) ∧ Below w.heap.size w w' := by
 obtain ⟨W, eW⟩ : ∃ W, w.alloc (.cells x.cells 92) = W := ⟨_, rfl⟩
 have hB : Below (w.heap.size + 1) (w.alloc (.cells x.cells 92)) W := by rw [eW]; exact Below.refl _ _
 have hb0 := under hB
 have kS := boxed hB
 have c3 : W.cell? ⟨w.heap.size, 3, none⟩ = some (.int .i64 x.k) := kS 3
 have c4 : W.cell? ⟨w.heap.size, 4, none⟩ = some (.int .i64 x.d) := kS 4
 have c5 : W.cell? ⟨w.heap.size, 5, none⟩ = some (.int .i64 x.s) := kS 5
 have c6 : W.cell? ⟨w.heap.size, 6, none⟩ = some (.int .i64 x.p) := kS 6
 have c7 : W.cell? ⟨w.heap.size, 7, none⟩ = some (.string x.b) := kS 7
 have HB : Hid (Below w.heap.size w W) := hb0
 clear kS hB hb0
 go_enter Tryz.func55, Tryz.ntmps55
 go_wp2_with fail
 clear eW
 refine (szFrame_any x.k x.d x.s x.p left x.b _ hf h0 h1).mono ?_
 rintro e w1 ⟨rfl, hb1⟩
 have HB1 : Hid (Below w.heap.size w w1) := HB.out.trans (hb1.mono HB.out.size)
 clear hb1 c3 c4 c5 c6 c7
 by_cases hl : left < x.b.size
 ·
  rw [if_pos hl]
  go_wp2_with fail
  go_ret
  exact ⟨⟨_, rfl, .inl rfl⟩, HB1.out⟩
 ·
  rw [if_neg hl]
  have hr0 : ¬ left - x.b.size < 0 := by omega
  go_wp2_with fail
  go_ret
  exact ⟨⟨_, rfl, .inr ⟨by omega, by omega, by omega⟩⟩, HB1.out⟩
set_option maxHeartbeats 1000000 in
theorem szPackets_any (a : Option Addr) (n cap : Nat) (K : Nat → Pkt) (left : Int) (w : World) (h0 : 0 ≤ left) (h1 : left ≤ 1048576) (hn : n ≤ maxLen) (hf : ∀ i, i < n → (K i).b.size ≤ maxLen) (h : RdPk w a n K) :
  Calls Tryz.prog 16 #[.slice a n cap, .int .i64 left] w fun e w' => (∃ r : Int, e = .returned (.int .i64 r) ∧ (r = -1 ∨ 0 ≤ r ∧ n ≤ 1048576 ∧ (∀ i, i < n → (K i).b.size ≤ 1048576) ∧ r + n ≤ left)) ∧ Below w.heap.size w w' := by
 have hm : (n : Int) ≤ 9223372036854775807 := by unfold maxLen at hn; omega
 have HR : Hid (RdPk w a n K) := h
 have HF : Hid (∀ i, i < n → (K i).b.size ≤ maxLen) := hf
 clear h hf
 by_cases h2 : left - n < 0
 ·
  go_enter Tryz.func16, Tryz.ntmps16
  go_wp2_with fail
  go_ret
  exact ⟨⟨_, rfl, .inl rfl⟩, Below.refl _ _⟩
 ·
  go_enter Tryz.func16, Tryz.ntmps16
  go_wp2_with fail
  go_loopw [1, 5] (fun x i wr => ∃ (k : Nat) (r : Int), k ≤ n ∧ i = .int .i64 k ∧ x = .int .i64 r ∧ 0 ≤ r ∧ Hid (r + n ≤ left ∧ ∀ j, j < k → (K j).b.size ≤ 1048576) ∧ Below w.heap.size w wr) (fun _ i _ => n - (intOf i).toNat)
  case atStart => exact ⟨0, left - n, Nat.zero_le _, rfl, rfl, by omega, ⟨by omega, fun j hj => by omega⟩, Below.refl _ _⟩
  case round =>
   obtain ⟨k, r, hk, rfl, rfl, r0, HS, hB⟩ := hrel
   by_cases hlt : k < n
   ·
    have hlt' : (k : Int) < n := by omega
    obtain ⟨g, o, ha, hc⟩ := (HR.out.up hB) k hlt
    subst ha
    have HC : Hid (∀ j, j < 8 → wr.cell? ⟨g, o + k * 8 + j, none⟩ = (K k).cells[j]?) := hc
    clear hc
    go_wp2_with (refine wpList_ldT rfl 92 8 _ Tryz.underlying92 rfl infoPkL (.tmp 20) rfl g (o + k * 8) rfl (K k).cells rfl HC.out ?_)
    refine (szPacket_any (K k) r _ r0 (by have := HS.out.1; omega) (HF.out k hlt)).mono ?_
    rintro e w1 ⟨⟨r', rfl, hr⟩, hb1⟩
    have HB1 : Hid (Below w.heap.size w w1) := hB.trans (hb1.mono hB.size)
    clear hb1 hB HC
    rcases hr with rfl | ⟨r0', hsm, hr9⟩
    ·
     go_wp2_with fail
     go_ret
     exact ⟨⟨_, rfl, .inl rfl⟩, HB1.out⟩
    ·
     have HN : Hid (r' + n ≤ left ∧ ∀ j, j < k + 1 → (K j).b.size ≤ 1048576) := ⟨by have := HS.out.1; omega, fun j hj => by
       by_cases e : j = k
       ·
        subst e; exact hsm
       ·
        exact HS.out.2 j (by omega)⟩
     have hr0 : ¬ r' < 0 := by omega
     clear hsm hr9 HS
     go_wp2_with fail
     go_roundw
     case rel => exact ⟨k + 1, r', by omega, by go_num, rfl, r0', HN, HB1.out⟩
     case measure => simp [intOf]; omega
   ·
    obtain rfl : k = n := by omega
    go_wp2_with fail
    go_ret
    exact ⟨⟨_, rfl, .inr ⟨r0, by omega, HS.out.2, HS.out.1⟩⟩, hB⟩
set_option maxHeartbeats 2000000 in
theorem szSwitch_any (S : Swg) (w : World) (hf : S.Fit) (h : RdSg w S) :
  Calls Tryz.prog 5 #[.agg S.cells, .int .i64 1048576] w fun e w' => (∃ r : Int, e = .returned (.int .i64 r) ∧ (r = -1 ∨ 0 ≤ r ∧ S.Small ∧ S.tot ≤ 1048576)) ∧ Below w.heap.size w w' := by
 have HR : Hid (RdSg w S) := h
 have HF : Hid S.Fit := hf
 obtain ⟨W, eW⟩ : ∃ W, w.alloc (.cells S.cells 32) = W := ⟨_, rfl⟩
 have hB : Below (w.heap.size + 1) (w.alloc (.cells S.cells 32)) W := by rw [eW]; exact Below.refl _ _
 have kS := boxed hB
 have c9 : W.cell? ⟨w.heap.size, 9, none⟩ = some (.slice S.aE S.nE S.cE) := kS 9
 have c10 : W.cell? ⟨w.heap.size, 10, none⟩ = some (.slice S.N.aU S.N.nU S.N.cU) := kS 10
 have c11 : W.cell? ⟨w.heap.size, 11, none⟩ = some (.int .i64 S.N.lo) := kS 11
 have c12 : W.cell? ⟨w.heap.size, 12, none⟩ = some (.slice S.N.aP S.N.nP S.N.cP) := kS 12
 clear h hf kS
 go_enter Tryz.func5, Tryz.ntmps5
 go_wp2_with fail
 clear eW
 refine (szEntsS_any S.aE S.nE S.cE 1048576 _ HF.out.e (by omega) (by omega)).mono ?_
 rintro e w1 ⟨⟨r, rfl, hr⟩, rfl⟩
 rcases hr with rfl | ⟨r0, hn1, hs1⟩
 ·
  have B9 := under hB
  go_wp2_with fail
  go_ret
  exact ⟨⟨_, rfl, .inl rfl⟩, B9⟩
 have hr0 : ¬ r < 0 := by omega
 go_wp2_with fail
 refine (szCountsL_any S.N r _ r0 (by omega) HF.out.n).mono ?_
 rintro e w2 ⟨⟨r2, rfl, hr2⟩, hb2⟩
 replace hB := next hB hb2
 clear hb2 c9 c10 c11 c12
 rcases hr2 with rfl | ⟨r20, hn2, hs2⟩
 ·
  have B9 := under hB
  go_wp2_with fail
  go_ret
  exact ⟨⟨_, rfl, .inl rfl⟩, B9⟩
 have hr20 : ¬ r2 < 0 := by omega
 have c13 : w2.cell? ⟨w.heap.size, 13, none⟩ = some (.slice S.aK S.nK S.cK) := boxed hB 13
 have HN2 : Hid S.N.Small := hn2
 clear hn2
 go_wp2_with fail
 refine (szPackets_any S.aK S.nK S.cK S.K r2 _ r20 (by omega) HF.out.k HF.out.b (HR.out.k.up (under hB))).mono ?_
 rintro e w3 ⟨⟨r3, rfl, hr3⟩, hb3⟩
 replace hB := next hB hb3
 clear hb3 c13
 rcases hr3 with rfl | ⟨r30, hn3, hb3, hs3⟩
 ·
  have B9 := under hB
  go_wp2_with fail
  go_ret
  exact ⟨⟨_, rfl, .inl rfl⟩, B9⟩
 have hr30 : ¬ r3 < 0 := by omega
 have c14 : w3.cell? ⟨w.heap.size, 14, none⟩ = some (.slice S.aL S.nL S.cL) := boxed hB 14
 have HK : Hid (∀ i, i < S.nK → (S.K i).b.size ≤ 1048576) := hb3
 clear hb3
 go_wp2_with fail
 refine (szLanes_any S.aL S.nL S.cL S.L r3 _ r30 (by omega) HF.out.l HF.out.ls (HR.out.l.up (under hB)) (fun i hi => (HR.out.ls i hi).up (under hB))).mono ?_
 rintro e w4 ⟨⟨r4, rfl, hr4⟩, hb4⟩
 replace hB := next hB hb4
 clear hb4 c14
 have B9 := under hB
 rcases hr4 with rfl | ⟨r40, hn4, hl4, hs4⟩
 ·
  go_wp2_with fail
  go_ret
  exact ⟨⟨_, rfl, .inl rfl⟩, B9⟩
 have hr40 : ¬ r4 < 0 := by omega
 have HS : Hid (S.Small ∧ S.tot ≤ 1048576) := ⟨⟨hn1, HN2.out, hn3, HK.out, hn4, hl4⟩, by
  show S.nE + (S.N.nU + S.N.nP) + S.nK + (S.nL + sumL (fun i => (S.L i).tot) S.nL) ≤ 1048576
  omega⟩
 clear hl4 hs4 hs3 hs2 hs1 hB
 go_wp2_with fail
 go_ret
 exact ⟨⟨_, rfl, .inr ⟨r40, HS.out.1, HS.out.2⟩⟩, B9⟩
open Go.ChangeShapes Go.WideShapes Go.ChangeAt Go.RowKit
set_option maxRecDepth 100000
theorem laidOutC : laidOutB Tryz.prog = true := by kernel_rfl
theorem ownOkC : ownKnob Tryz.prog.godebug = none := by kernel_rfl
theorem addr_addC (b off i : Nat) : (⟨b, off, none⟩ : Addr).add i = ⟨b, off + i, none⟩ := by unfold Addr.add; split <;> simp_all
theorem open_boolRowC {H : Type} {enc : TypeId × Value → H} {W : World} {held : Bool} {fuel : Nat} {v : Value} {x : DataW H × List MemPlace}
  (h : DataW.trod enc Tryz.prog W 0 (fun _ => true) held fuel 26 [v] = some x) : ∃ (a : Option Addr) (n c : Nat) (f : Nat → Bool), v = .slice a n c ∧ n ≤ maxLen ∧ RdRow W a n (fun i => .bool (f i)) := by
 rcases Go.Deep.open_bools Tryz.underlying26 Tryz.underlying4 (by kernel_rfl) h with ⟨hcs, _⟩ | ⟨x, l, c, B, hcs, _, hl, hm, _, hcell⟩
 ·
  simp at hcs
  exact ⟨_, _, _, fun _ => false, hcs, Nat.zero_le _, RdRow.nil _ _ _⟩
 ·
  simp at hcs
  refine ⟨_, _, _, B, hcs, by omega, fun i hi => ?_⟩
  have hci := hcell i (by omega)
  obtain ⟨b, off, spot⟩ := x
  have hspot : spot = none := by simpa [Addr.add] using World.cell?_spot (hcell 0 (by omega))
  subst hspot
  refine ⟨b, off, rfl, ?_⟩
  rw [addr_addC] at hci
  exact hci
theorem addr_addR (b off i : Nat) : (⟨b, off, none⟩ : Addr).add i = ⟨b, off + i, none⟩ := by unfold Addr.add; split <;> simp_all
theorem open_intRowR {H : Type} {enc : TypeId × Value → H} {W : World} {held : Bool} {fuel : Nat} {v : Value} {x : DataW H × List MemPlace}
  (h : DataW.trod enc Tryz.prog W 0 (fun _ => true) held fuel 25 [v] = some x) : ∃ (a : Option Addr) (n c : Nat) (f : Nat → Int), v = .slice a n c ∧ n ≤ maxLen ∧ RdRow W a n (fun i => .int .i64 (f i)) := by
 rcases open_ints Tryz.underlying25 Tryz.underlying2 (by kernel_rfl) h with ⟨hcs, _⟩ | ⟨x, l, c, zs, hcs, _, hl, hm, hz, _, hcell, hwz⟩
 ·
  simp at hcs
  exact ⟨_, _, _, fun _ => 0, hcs, Nat.zero_le _, RdRow.nil _ _ _⟩
 ·
  simp at hcs
  refine ⟨_, _, _, fun i => zs.getD i 0, hcs, by omega, fun i hi => ?_⟩
  have hz' : zs.length = c := by simpa using hz
  have hci := hcell i (by omega)
  obtain ⟨b, off, spot⟩ := x
  have hspot : spot = none := by simpa [Addr.add] using World.cell?_spot (hcell 0 (by omega))
  subst hspot
  refine ⟨b, off, rfl, ?_⟩
  rw [addr_addR] at hci
  exact hci
theorem open_rowsR {H : Type} {enc : TypeId × Value → H} {W : World} {held : Bool} {fuel : Nat} {v : Value} {x : DataW H × List MemPlace}
  (h : DataW.trod enc Tryz.prog W 0 (fun _ => true) held fuel 63 [v] = some x) : ∃ (a : Option Addr) (n c : Nat) (A : Nat → Option Addr) (L C : Nat → Nat) (z : Nat → Nat → Int), v = .slice a n c ∧ n ≤ maxLen ∧ RdRow W a n (fun i => .slice (A i) (L i) (C i)) ∧ (∀ i, i < n → L i ≤ maxLen) ∧ ∀ i, i < n → RdRow W (A i) (L i) (fun j => .int .i64 (z i j)) := by
 rcases Go.Deep.open_int_rows Tryz.underlying63 Tryz.underlying25 Tryz.underlying2 (by kernel_rfl) (by kernel_rfl) h with ⟨hcs, _⟩ | ⟨a, len, cap, A, L, C, Z, hcs, _, hl, hm, _, hx⟩
 ·
  simp at hcs
  exact ⟨_, _, _, fun _ => none, fun _ => 0, fun _ => 0, fun _ _ => 0, hcs, Nat.zero_le _, RdRow.nil _ _ _, fun i hi => by omega, fun i hi => by omega⟩
 ·
  simp at hcs
  refine ⟨_, _, _, A, L, C, fun i j => (Z i).getD j 0, hcs, by omega, fun i hi => ?_, fun i hi => ?_, fun i hi j hj => ?_⟩
  ·
   have hci := (hx i (by omega)).1
   obtain ⟨b, off, spot⟩ := a
   have hspot : spot = none := by simpa [Addr.add] using World.cell?_spot (hx 0 (by omega)).1
   subst hspot
   rw [addr_addR] at hci
   exact ⟨b, off, rfl, hci⟩
  ·
   have h1 := hx i (by omega)
   have := h1.2.1
   have := h1.2.2.1
   omega
  ·
   have h1 := hx i (by omega)
   have hLC := h1.2.1
   cases hA : A i with
   | none =>
    have := h1.2.2.2.2.2.1 hA
    omega
   | some a' =>
    have hc := h1.2.2.2.2.2.2 a' hA
    have hci := hc.2 j (by omega)
    obtain ⟨b, off, spot⟩ := a'
    have hspot : spot = none := by simpa [Addr.add] using World.cell?_spot (hc.2 0 (by omega))
    subst hspot
    rw [addr_addR] at hci
    exact ⟨b, off, rfl, hci⟩
theorem addr_addT (b off i : Nat) : (⟨b, off, none⟩ : Addr).add i = ⟨b, off + i, none⟩ := by unfold Addr.add; split <;> simp_all
theorem open_entRow {H : Type} {enc : TypeId × Value → H} {W : World} {held : Bool} {fuel : Nat} {v : Value} {x : DataW H × List MemPlace}
  (h : DataW.trod enc Tryz.prog W 0 (fun _ => true) held fuel 24 [v] = some x) : ∃ (a : Option Addr) (n c : Nat) (f : Nat → Ent), v = .slice a n c ∧ n ≤ maxLen ∧ RdEnt W a n f := by
 rcases Go.Deep.open_slice Tryz.underlying24 h with ⟨hcs, _⟩ | ⟨a, len, cap, m, n, D, Pl, hcs, hb, hl, hm, hmm, _, hx⟩
 ·
  simp at hcs
  exact ⟨_, _, _, fun _ => default, hcs, Nat.zero_le _, RdEnt.nil _ _ _⟩
 ·
  simp at hcs hmm
  subst hmm
  have each : ∀ i, i < m → ∃ y : Ent, W.cell? (a.add (i * 3)) = some (.int .i64 y.m) ∧ W.cell? (a.add (i * 3 + 1)) = some (.int .i64 y.p) ∧ W.cell? (a.add (i * 3 + 2)) = some (.int .i64 y.t) := by
   intro i hi
   obtain ⟨cs', h1, h2⟩ := hx i hi
   rw [show Tryz.prog.cellsOf 102 = 3 by kernel_rfl] at h1
   obtain ⟨_, hlen, hcell⟩ := World.cells?_some h1
   obtain ⟨xs, k, hk, hxy, _, hxl, hf⟩ := DataW.trod_struct Tryz.underlying102 h2
   match xs, hxl, cs', hlen with
   | [y0, y1, y2], _, [v0, v1, v2], _ =>
    have g0 := hf 0 _ rfl
    have g1 := hf 1 _ rfl
    have g2 := hf 2 _ rfl
    simp [show Tryz.prog.cellsOf 2 = 1 by kernel_rfl] at g0 g1 g2
    obtain ⟨z0, q0, _, _⟩ := DataW.trod_int Tryz.underlying2 g0
    obtain ⟨z1, q1, _, _⟩ := DataW.trod_int Tryz.underlying2 g1
    obtain ⟨z2, q2, _, _⟩ := DataW.trod_int Tryz.underlying2 g2
    simp at q0 q1 q2
    subst q0 q1 q2
    have e0 := hcell 0 (by omega)
    have e1 := hcell 1 (by omega)
    have e2 := hcell 2 (by omega)
    rw [Go.Deep.add_add] at e0 e1 e2
    exact ⟨⟨z0, z1, z2⟩, by simpa using e0, by simpa using e1, by simpa using e2⟩
  obtain ⟨f, hf⟩ := Go.Deep.choose_lt each
  refine ⟨_, _, _, f, hcs, by omega, fun i hi => ?_⟩
  obtain ⟨q1, q2, q3⟩ := hf i (by omega)
  obtain ⟨b, off, spot⟩ := a
  have hspot : spot = none := by simpa [Addr.add] using World.cell?_spot (hf 0 (by omega)).1
  subst hspot
  rw [addr_addT] at q1 q2 q3
  exact ⟨b, off, rfl, q1, q2, q3⟩
theorem openL_config {H : Type} {enc : TypeId × Value → H} {W : World} {held : Bool} {fuel : Nat} {cs : List Value} {x : DataW H × List MemPlace}
  (h : DataW.trod enc Tryz.prog W 0 (fun _ => true) held fuel 23 cs = some x) : ∃ C : Cfg, cs = C.cells.toList := by
 obtain ⟨xs, k, _, _, hl, hlen, hfs⟩ := DataW.trod_struct Tryz.underlying23 h
 rw [show Tryz.prog.cellsOf 23 = 7 by kernel_rfl] at hl
 match xs, hlen, cs, hl with
 | [y0, y1, y2, y3, y4, y5, y6], _, [v0, v1, v2, v3, v4, v5, v6], _ =>
  have h0 := hfs 0 _ rfl
  have h1 := hfs 1 _ rfl
  have h2 := hfs 2 _ rfl
  have h3 := hfs 3 _ rfl
  have h4 := hfs 4 _ rfl
  have h5 := hfs 5 _ rfl
  have h6 := hfs 6 _ rfl
  have e0 : Tryz.prog.cellsOf 2 = 1 := by kernel_rfl
  simp [e0] at h0 h1 h2 h3 h4 h5 h6
  obtain ⟨z0, q0, _, _⟩ := DataW.trod_int Tryz.underlying2 h0
  simp at q0
  subst q0
  obtain ⟨z1, q1, _, _⟩ := DataW.trod_int Tryz.underlying2 h1
  simp at q1
  subst q1
  obtain ⟨z2, q2, _, _⟩ := DataW.trod_int Tryz.underlying2 h2
  simp at q2
  subst q2
  obtain ⟨z3, q3, _, _⟩ := DataW.trod_int Tryz.underlying2 h3
  simp at q3
  subst q3
  obtain ⟨z4, q4, _, _⟩ := DataW.trod_int Tryz.underlying2 h4
  simp at q4
  subst q4
  obtain ⟨z5, q5, _, _⟩ := DataW.trod_int Tryz.underlying2 h5
  simp at q5
  subst q5
  obtain ⟨z6, q6, _, _⟩ := DataW.trod_int Tryz.underlying2 h6
  simp at q6
  subst q6
  exact ⟨⟨z0, z1, z2, z3, z4, z5, z6⟩, rfl⟩
theorem openL_counts {H : Type} {enc : TypeId × Value → H} {W : World} {held : Bool} {fuel : Nat} {cs : List Value} {x : DataW H × List MemPlace}
  (h : DataW.trod enc Tryz.prog W 0 (fun _ => true) held fuel 28 cs = some x) : ∃ N : Cnt, cs = N.cells.toList ∧ N.Fit ∧ RdCnt W N := by
 obtain ⟨xs, k, _, _, hl, hlen, hfs⟩ := DataW.trod_struct Tryz.underlying28 h
 rw [show Tryz.prog.cellsOf 28 = 3 by kernel_rfl] at hl
 match xs, hlen, cs, hl with
 | [y0, y1, y2], _, [v0, v1, v2], _ =>
  have h0 := hfs 0 _ rfl
  have h1 := hfs 1 _ rfl
  have h2 := hfs 2 _ rfl
  have e0 : Tryz.prog.cellsOf 25 = 1 := by kernel_rfl
  have e1 : Tryz.prog.cellsOf 2 = 1 := by kernel_rfl
  have e2 : Tryz.prog.cellsOf 26 = 1 := by kernel_rfl
  simp [e0, e1, e2] at h0 h1 h2
  obtain ⟨aU, nU, cU, u, rfl, fu, ru⟩ := open_intRowR h0
  obtain ⟨lo, q1, _, _⟩ := DataW.trod_int Tryz.underlying2 h1
  simp at q1
  subst q1
  obtain ⟨aP, nP, cP, p, rfl, fp, rp⟩ := open_boolRowC h2
  exact ⟨⟨aU, nU, cU, u, lo, aP, nP, cP, p⟩, rfl, ⟨fu, fp⟩, ⟨ru, rp⟩⟩
theorem openL_round {H : Type} {enc : TypeId × Value → H} {W : World} {held : Bool} {fuel : Nat} {cs : List Value} {x : DataW H × List MemPlace}
  (h : DataW.trod enc Tryz.prog W 0 (fun _ => true) held fuel 94 cs = some x) : ∃ R : Rnd, cs = R.cells.toList ∧ R.Fit ∧ RdRnd W R := by
 obtain ⟨xs, k, _, _, hl, hlen, hfs⟩ := DataW.trod_struct Tryz.underlying94 h
 rw [show Tryz.prog.cellsOf 94 = 5 by kernel_rfl] at hl
 match xs, hlen, cs, hl with
 | [y0, y1, y2, y3, y4], _, [v0, v1, v2, v3, v4], _ =>
  have h0 := hfs 0 _ rfl
  have h1 := hfs 1 _ rfl
  have h2 := hfs 2 _ rfl
  have h3 := hfs 3 _ rfl
  have h4 := hfs 4 _ rfl
  have e0 : Tryz.prog.cellsOf 25 = 1 := by kernel_rfl
  have e1 : Tryz.prog.cellsOf 2 = 1 := by kernel_rfl
  have e2 : Tryz.prog.cellsOf 4 = 1 := by kernel_rfl
  have e3 : Tryz.prog.cellsOf 63 = 1 := by kernel_rfl
  simp [e0, e1, e2, e3] at h0 h1 h2 h3 h4
  obtain ⟨aQ, nQ, cQ, q, rfl, fq, rq⟩ := open_intRowR h0
  obtain ⟨aD, nD, cD, d, rfl, fd, rd⟩ := open_intRowR h1
  obtain ⟨tn, q2, _, _⟩ := DataW.trod_int Tryz.underlying2 h2
  simp at q2
  subst q2
  obtain ⟨fr, q3, _⟩ := DataW.trod_bool Tryz.underlying4 h3
  simp at q3
  subst q3
  obtain ⟨aS, nS, cS, A, L, C, z, rfl, fs, rs, fl, rz⟩ := open_rowsR h4
  exact ⟨⟨aQ, nQ, cQ, q, aD, nD, cD, d, tn, fr, aS, nS, cS, A, L, C, z⟩, rfl, ⟨fq, fd, fs, fl⟩, ⟨rq, rd, rs, rz⟩⟩
theorem openL_lane {H : Type} {enc : TypeId × Value → H} {W : World} {held : Bool} {fuel : Nat} {cs : List Value} {x : DataW H × List MemPlace}
  (h : DataW.trod enc Tryz.prog W 0 (fun _ => true) held fuel 96 cs = some x) : ∃ l : Lng, cs = l.cells.toList ∧ l.Fit ∧ RdLg W l := by
 obtain ⟨xs, k, _, _, hl, hlen, hfs⟩ := DataW.trod_struct Tryz.underlying96 h
 rw [show Tryz.prog.cellsOf 96 = 8 by kernel_rfl] at hl
 match xs, hlen, cs, hl with
 | [y0, y1, y2, y3], _, [v0, v1, v2, v3, v4, v5, v6, v7], _ =>
  have h0 := hfs 0 _ rfl
  have h1 := hfs 1 _ rfl
  have h2 := hfs 2 _ rfl
  have h3 := hfs 3 _ rfl
  have e0 : Tryz.prog.cellsOf 4 = 1 := by kernel_rfl
  have e1 : Tryz.prog.cellsOf 25 = 1 := by kernel_rfl
  have e2 : Tryz.prog.cellsOf 63 = 1 := by kernel_rfl
  have e3 : Tryz.prog.cellsOf 94 = 5 := by kernel_rfl
  simp [e0, e1, e2, e3] at h0 h1 h2 h3
  obtain ⟨st, q0, _⟩ := DataW.trod_bool Tryz.underlying4 h0
  simp at q0
  subst q0
  obtain ⟨aT, nT, cT, t, rfl, ft, rt⟩ := open_intRowR h1
  obtain ⟨aU, nU, cU, uA, uL, uC, uz, rfl, fu, ru, fl, rz⟩ := open_rowsR h2
  obtain ⟨R, q3, fR, rR⟩ := openL_round h3
  simp only [Rnd.cells, List.cons.injEq, and_true] at q3
  obtain ⟨rfl, rfl, rfl, rfl, rfl⟩ := q3
  exact ⟨⟨st, aT, nT, cT, t, aU, nU, cU, uA, uL, uC, uz, R⟩, rfl, ⟨ft, fu, fl, fR⟩, ⟨rt, ru, rz, rR⟩⟩
theorem openL_frame {H : Type} {enc : TypeId × Value → H} {W : World} {held : Bool} {fuel : Nat} {cs : List Value} {x : DataW H × List MemPlace}
  (h : DataW.trod enc Tryz.prog W 0 (fun _ => true) held fuel 90 cs = some x) : ∃ x : Pkt, cs = [.int .i64 x.k, .int .i64 x.d, .int .i64 x.s, .int .i64 x.p, .string x.b] ∧ x.b.size ≤ maxLen := by
 obtain ⟨xs, k, _, _, hl, hlen, hfs⟩ := DataW.trod_struct Tryz.underlying90 h
 rw [show Tryz.prog.cellsOf 90 = 5 by kernel_rfl] at hl
 match xs, hlen, cs, hl with
 | [y0, y1, y2, y3, y4], _, [v0, v1, v2, v3, v4], _ =>
  have h0 := hfs 0 _ rfl
  have h1 := hfs 1 _ rfl
  have h2 := hfs 2 _ rfl
  have h3 := hfs 3 _ rfl
  have h4 := hfs 4 _ rfl
  have e0 : Tryz.prog.cellsOf 2 = 1 := by kernel_rfl
  have e1 : Tryz.prog.cellsOf 9 = 1 := by kernel_rfl
  simp [e0, e1] at h0 h1 h2 h3 h4
  obtain ⟨kk, q0, _, _⟩ := DataW.trod_int Tryz.underlying2 h0
  simp at q0
  subst q0
  obtain ⟨d, q1, _, _⟩ := DataW.trod_int Tryz.underlying2 h1
  simp at q1
  subst q1
  obtain ⟨s, q2, _, _⟩ := DataW.trod_int Tryz.underlying2 h2
  simp at q2
  subst q2
  obtain ⟨p, q3, _, _⟩ := DataW.trod_int Tryz.underlying2 h3
  simp at q3
  subst q3
  obtain ⟨b, q4, _, b4⟩ := DataW.trod_string Tryz.underlying9 h4
  simp at q4
  subst q4
  exact ⟨⟨0, 0, 0, kk, d, s, p, b⟩, rfl, b4⟩
theorem openL_packet {H : Type} {enc : TypeId × Value → H} {W : World} {held : Bool} {fuel : Nat} {cs : List Value} {x : DataW H × List MemPlace}
  (h : DataW.trod enc Tryz.prog W 0 (fun _ => true) held fuel 92 cs = some x) : ∃ x : Pkt, cs = x.cells.toList ∧ x.b.size ≤ maxLen := by
 obtain ⟨xs, k, _, _, hl, hlen, hfs⟩ := DataW.trod_struct Tryz.underlying92 h
 rw [show Tryz.prog.cellsOf 92 = 8 by kernel_rfl] at hl
 match xs, hlen, cs, hl with
 | [y0, y1, y2, y3], _, [v0, v1, v2, v3, v4, v5, v6, v7], _ =>
  have h0 := hfs 0 _ rfl
  have h1 := hfs 1 _ rfl
  have h2 := hfs 2 _ rfl
  have h3 := hfs 3 _ rfl
  have e0 : Tryz.prog.cellsOf 2 = 1 := by kernel_rfl
  have e1 : Tryz.prog.cellsOf 90 = 5 := by kernel_rfl
  simp [e0, e1] at h0 h1 h2 h3
  obtain ⟨id, q0, _, _⟩ := DataW.trod_int Tryz.underlying2 h0
  simp at q0
  subst q0
  obtain ⟨inn, q1, _, _⟩ := DataW.trod_int Tryz.underlying2 h1
  simp at q1
  subst q1
  obtain ⟨refs, q2, _, _⟩ := DataW.trod_int Tryz.underlying2 h2
  simp at q2
  subst q2
  obtain ⟨x, q3, fx⟩ := openL_frame h3
  simp only [Pkt.cells, List.cons.injEq, and_true] at q3
  obtain ⟨rfl, rfl, rfl, rfl, rfl⟩ := q3
  exact ⟨⟨id, inn, refs, x.k, x.d, x.s, x.p, x.b⟩, rfl, fx⟩
instance : Inhabited Pkt := ⟨⟨0, 0, 0, 0, 0, 0, 0, ⟨#[]⟩⟩⟩
instance : Inhabited Lng := ⟨⟨false, none, 0, 0, fun _ => 0, none, 0, 0, fun _ => none, fun _ => 0, fun _ => 0, fun _ _ => 0, ⟨none, 0, 0, fun _ => 0, none, 0, 0, fun _ => 0, 0, false, none, 0, 0, fun _ => none, fun _ => 0, fun _ => 0, fun _ _ => 0⟩⟩⟩
theorem openL_packets {H : Type} {enc : TypeId × Value → H} {W : World} {held : Bool} {fuel : Nat} {v : Value} {x : DataW H × List MemPlace}
  (h : DataW.trod enc Tryz.prog W 0 (fun _ => true) held fuel 29 [v] = some x) : ∃ (a : Option Addr) (n c : Nat) (K : Nat → Pkt), v = .slice a n c ∧ n ≤ maxLen ∧ RdPk W a n K ∧ ∀ i, i < n → (K i).b.size ≤ maxLen := by
 rcases Go.Deep.open_slice Tryz.underlying29 h with ⟨hcs, _⟩ | ⟨a, len, cap, m, n, D, Pl, hcs, hb, hl, hm, hmm, _, hx⟩
 ·
  simp at hcs
  exact ⟨_, _, _, fun _ => ⟨0, 0, 0, 0, 0, 0, 0, ⟨#[]⟩⟩, hcs, Nat.zero_le _, RdPk.nil _ _ _, fun i hi => by omega⟩
 ·
  simp at hcs hmm
  subst hmm
  have each : ∀ i, i < m → ∃ y : Pkt, (∀ j, j < 8 → W.cell? (a.add (i * 8 + j)) = y.cells[j]?) ∧ y.b.size ≤ maxLen := by
   intro i hi
   obtain ⟨cs', h1, h2⟩ := hx i hi
   rw [show Tryz.prog.cellsOf 92 = 8 by kernel_rfl] at h1
   obtain ⟨_, hlen, hcell⟩ := World.cells?_some h1
   obtain ⟨y, e, hy⟩ := openL_packet h2
   refine ⟨y, fun j hj => ?_, hy⟩
   have e0 := hcell j (by omega)
   rw [Go.Deep.add_add] at e0
   rw [e0, ← Array.getElem?_toList, ← e, List.getElem?_eq_getElem (by omega)]
  obtain ⟨f, hf⟩ := Go.Deep.choose_lt each
  refine ⟨_, _, _, f, hcs, by omega, fun i hi => ?_, fun i hi => (hf i (by omega)).2⟩
  have q := (hf i (by omega)).1
  obtain ⟨b, off, spot⟩ := a
  have hspot : spot = none := by
   have h0 := (hf 0 (by omega)).1 0 (by omega)
   rw [Array.getElem?_eq_getElem (by rw [Pkt.cells_size]; omega)] at h0
   simpa [Addr.add] using World.cell?_spot h0
  subst hspot
  refine ⟨b, off, rfl, fun j hj => ?_⟩
  have q2 := q j hj
  rw [addr_addR] at q2
  rw [Nat.add_assoc]
  exact q2
theorem openL_lanes {H : Type} {enc : TypeId × Value → H} {W : World} {held : Bool} {fuel : Nat} {v : Value} {x : DataW H × List MemPlace}
  (h : DataW.trod enc Tryz.prog W 0 (fun _ => true) held fuel 30 [v] = some x) : ∃ (a : Option Addr) (n c : Nat) (K : Nat → Lng), v = .slice a n c ∧ n ≤ maxLen ∧ RdLs W a n K ∧ ∀ i, i < n → (K i).Fit ∧ RdLg W (K i) := by
 rcases Go.Deep.open_slice Tryz.underlying30 h with ⟨hcs, _⟩ | ⟨a, len, cap, m, n, D, Pl, hcs, hb, hl, hm, hmm, _, hx⟩
 ·
  simp at hcs
  exact ⟨_, _, _, fun _ => ⟨false, none, 0, 0, fun _ => 0, none, 0, 0, fun _ => none, fun _ => 0, fun _ => 0, fun _ _ => 0, ⟨none, 0, 0, fun _ => 0, none, 0, 0, fun _ => 0, 0, false, none, 0, 0, fun _ => none, fun _ => 0, fun _ => 0, fun _ _ => 0⟩⟩, hcs, Nat.zero_le _, RdLs.nil _ _ _, fun i hi => by omega⟩
 ·
  simp at hcs hmm
  subst hmm
  have each : ∀ i, i < m → ∃ y : Lng, (∀ j, j < 8 → W.cell? (a.add (i * 8 + j)) = y.cells[j]?) ∧ y.Fit ∧ RdLg W y := by
   intro i hi
   obtain ⟨cs', h1, h2⟩ := hx i hi
   rw [show Tryz.prog.cellsOf 96 = 8 by kernel_rfl] at h1
   obtain ⟨_, hlen, hcell⟩ := World.cells?_some h1
   obtain ⟨y, e, hy⟩ := openL_lane h2
   refine ⟨y, fun j hj => ?_, hy⟩
   have e0 := hcell j (by omega)
   rw [Go.Deep.add_add] at e0
   rw [e0, ← Array.getElem?_toList, ← e, List.getElem?_eq_getElem (by omega)]
  obtain ⟨f, hf⟩ := Go.Deep.choose_lt each
  refine ⟨_, _, _, f, hcs, by omega, fun i hi => ?_, fun i hi => (hf i (by omega)).2⟩
  have q := (hf i (by omega)).1
  obtain ⟨b, off, spot⟩ := a
  have hspot : spot = none := by
   have h0 := (hf 0 (by omega)).1 0 (by omega)
   rw [Array.getElem?_eq_getElem (by rw [Lng.cells_size]; omega)] at h0
   simpa [Addr.add] using World.cell?_spot h0
  subst hspot
  refine ⟨b, off, rfl, fun j hj => ?_⟩
  have q2 := q j hj
  rw [addr_addR] at q2
  rw [Nat.add_assoc]
  exact q2
theorem openL_switch {H : Type} {enc : TypeId × Value → H} {W : World} {held : Bool} {fuel : Nat} {cs : List Value} {x : DataW H × List MemPlace}
  (h : DataW.trod enc Tryz.prog W 0 (fun _ => true) held fuel 32 cs = some x) : ∃ S : Swg, cs = S.cells.toList ∧ S.Fit ∧ RdSg W S := by
 obtain ⟨xs, k, _, _, hl, hlen, hfs⟩ := DataW.trod_struct Tryz.underlying32 h
 rw [show Tryz.prog.cellsOf 32 = 17 by kernel_rfl] at hl
 match xs, hlen, cs, hl with
 | [y0, y1, y2, y3, y4, y5, y6, y7, y8], _, [v0, v1, v2, v3, v4, v5, v6, v7, v8, v9, v10, v11, v12, v13, v14, v15, v16], _ =>
  have h0 := hfs 0 _ rfl
  have h1 := hfs 1 _ rfl
  have h2 := hfs 2 _ rfl
  have h3 := hfs 3 _ rfl
  have h4 := hfs 4 _ rfl
  have h5 := hfs 5 _ rfl
  have h6 := hfs 6 _ rfl
  have h7 := hfs 7 _ rfl
  have h8 := hfs 8 _ rfl
  have e0 : Tryz.prog.cellsOf 23 = 7 := by kernel_rfl
  have e1 : Tryz.prog.cellsOf 2 = 1 := by kernel_rfl
  have e2 : Tryz.prog.cellsOf 24 = 1 := by kernel_rfl
  have e3 : Tryz.prog.cellsOf 28 = 3 := by kernel_rfl
  have e4 : Tryz.prog.cellsOf 29 = 1 := by kernel_rfl
  have e5 : Tryz.prog.cellsOf 30 = 1 := by kernel_rfl
  simp [e0, e1, e2, e3, e4, e5] at h0 h1 h2 h3 h4 h5 h6 h7 h8
  obtain ⟨C, q0⟩ := openL_config h0
  simp only [Cfg.cells, List.cons.injEq, and_true] at q0
  obtain ⟨rfl, rfl, rfl, rfl, rfl, rfl, rfl⟩ := q0
  obtain ⟨now, q1, _, _⟩ := DataW.trod_int Tryz.underlying2 h1
  simp at q1
  subst q1
  obtain ⟨nx, q2, _, _⟩ := DataW.trod_int Tryz.underlying2 h2
  simp at q2
  subst q2
  obtain ⟨aE, nE, cE, e, rfl, fe, re⟩ := open_entRow h3
  obtain ⟨N, q4, fN, rN⟩ := openL_counts h4
  simp only [Cnt.cells, List.cons.injEq, and_true] at q4
  obtain ⟨rfl, rfl, rfl⟩ := q4
  obtain ⟨aK, nK, cK, K, rfl, fk, rk, bk⟩ := openL_packets h5
  obtain ⟨aL, nL, cL, L, rfl, fl, rl, ll⟩ := openL_lanes h6
  obtain ⟨dr, q7, _, _⟩ := DataW.trod_int Tryz.underlying2 h7
  simp at q7
  subst q7
  obtain ⟨lst, q8, _, _⟩ := DataW.trod_int Tryz.underlying2 h8
  simp at q8
  subst q8
  exact ⟨⟨C, now, nx, aE, nE, cE, e, N, aK, nK, cK, K, aL, nL, cL, L, dr, lst⟩, rfl, ⟨fe, fN, fk, bk, fl, fun i hi => (ll i hi).1⟩, ⟨re, rN, rk, rl, fun i hi => (ll i hi).2⟩⟩
theorem open_switch {H : Type} {enc : TypeId × Value → H} {W : World} {b0 : Nat} {held : Bool} {r : Reach} {v : Value} {d : DataW H} {p : List MemPlace}
  (hv : Value.okWide Tryz.prog W r b0 32 v) (h : DataW.Trod enc Tryz.prog W 0 (fun _ => true) held 32 v d p) : ∃ S : Swg, v = .agg S.cells ∧ S.Fit ∧ RdSg W S := by
 obtain ⟨cs, rfl, hsz⟩ := okWide_struct Tryz.underlying32 hv
 obtain ⟨fuel, hf⟩ := h
 obtain ⟨S, e, h1, h2⟩ := openL_switch hf
 have e2 : cs.toList = S.cells.toList := e
 have e3 : cs = S.cells := Array.toList_inj.1 e2
 exact ⟨S, by rw [e3], h1, h2⟩
end Go.Proofs.YtlipielghpoaoaaGreat
