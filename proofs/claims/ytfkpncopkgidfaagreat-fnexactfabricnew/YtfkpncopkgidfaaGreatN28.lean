import Derived.Test.YtfkpncopkgidfaaGreatN13
import Derived.Test.YtfkpncopkgidfaaGreatN26
import Derived.Test.YtfkpncopkgidfaaGreatN27
namespace Go.Proofs.YtfkpncopkgidfaaGreat
open Go.RowKit
set_option linter.unusedVariables false
set_option linter.unusedSimpArgs false
theorem flat_dis {g : Nat → List Nat} : ∀ n, ((List.range n).flatMap g).Nodup → ∀ i j, i < n → j < n → i ≠ j → ∀ x ∈ g i, x ∉ g j := by
 have lt : ∀ n, ((List.range n).flatMap g).Nodup → ∀ i j, i < j → j < n → ∀ x, x ∈ g i → x ∉ g j := by
  intro n
  induction n with
  | zero => intro _ i j _ hj; omega
  | succ n ih =>
   intro hn i j hij hj x h1 h2
   rw [List.range_succ, List.flatMap_append] at hn
   simp only [List.flatMap_cons, List.flatMap_nil, List.append_nil] at hn
   obtain ⟨n1, n2, n3⟩ := List.nodup_append.1 hn
   by_cases e : j = n
   ·
    subst e
    exact n3 x (by simp only [List.mem_flatMap, List.mem_range]; exact ⟨i, hij, h1⟩) x h2 rfl
   ·
    exact ih n1 i j hij (by omega) x h1 h2
 intro n hn i j hi hj hne x hx hy
 rcases Nat.lt_or_gt_of_ne hne with h | h
 ·
  exact lt n hn i j h hj x hx hy
 ·
  exact lt n hn j i h hi x hy hx
structure Dis (l : Lng) : Prop where
 tu : ∀ x ∈ blkV l.aT l.nT, x ∉ blkS l.nU l.uA l.uL
 tq : ∀ x ∈ blkV l.aT l.nT, x ∉ blkV l.R.aQ l.R.nQ
 td : ∀ x ∈ blkV l.aT l.nT, x ∉ blkV l.R.aD l.R.nD
 ty : ∀ x ∈ blkV l.aT l.nT, x ∉ blkS l.R.nS l.R.A l.R.L
 uq : ∀ x ∈ blkS l.nU l.uA l.uL, x ∉ blkV l.R.aQ l.R.nQ
 ud : ∀ x ∈ blkS l.nU l.uA l.uL, x ∉ blkV l.R.aD l.R.nD
 uy : ∀ x ∈ blkS l.nU l.uA l.uL, x ∉ blkS l.R.nS l.R.A l.R.L
 qd : ∀ x ∈ blkV l.R.aQ l.R.nQ, x ∉ blkV l.R.aD l.R.nD
 qy : ∀ x ∈ blkV l.R.aQ l.R.nQ, x ∉ blkS l.R.nS l.R.A l.R.L
 dy : ∀ x ∈ blkV l.R.aD l.R.nD, x ∉ blkS l.R.nS l.R.A l.R.L
 uu : ∀ i j, i < l.nU → j < l.nU → i ≠ j → apartV (l.uA i) (l.uL i) (l.uA j) (l.uL j)
 yy : ∀ i j, i < l.R.nS → j < l.R.nS → i ≠ j → apartV (l.R.A i) (l.R.L i) (l.R.A j) (l.R.L j)
theorem Lng.dis {l : Lng} (h : l.blks.Nodup) : Dis l := by
 unfold Lng.blks at h
 obtain ⟨_, h1, d1⟩ := List.nodup_append.1 h
 obtain ⟨u, h2, d2⟩ := List.nodup_append.1 h1
 obtain ⟨_, h3, d3⟩ := List.nodup_append.1 h2
 obtain ⟨_, y, d4⟩ := List.nodup_append.1 h3
 have m1 : ∀ {x : Nat} {a b : List Nat}, x ∈ a → x ∈ a ++ b := fun h => List.mem_append_left _ h
 have m2 : ∀ {x : Nat} {a b : List Nat}, x ∈ b → x ∈ a ++ b := fun h => List.mem_append_right _ h
 exact ⟨fun x hx hy => d1 x hx x (m1 hy) rfl, fun x hx hy => d1 x hx x (m2 (m1 hy)) rfl, fun x hx hy => d1 x hx x (m2 (m2 (m1 hy))) rfl, fun x hx hy => d1 x hx x (m2 (m2 (m2 hy))) rfl,
  fun x hx hy => d2 x hx x (m1 hy) rfl, fun x hx hy => d2 x hx x (m2 (m1 hy)) rfl, fun x hx hy => d2 x hx x (m2 (m2 hy)) rfl, fun x hx hy => d3 x hx x (m1 hy) rfl, fun x hx hy => d3 x hx x (m2 hy) rfl, fun x hx hy => d4 x hx x hy rfl,
  flat_dis _ u, flat_dis _ y⟩
section
variable {w w' : World} {base : Nat} {l : Lng} {S : List Nat}
theorem OwnLg.type2 (h : OwnLg w base l) : ∀ x ∈ l.blks, ∃ cs, w.heap[x]? = some (.cells cs 2 (0, 0)) := by
 intro x hx
 unfold Lng.blks at hx
 simp only [List.mem_append, blkS_mem] at hx
 rcases hx with hx | ⟨i, hi, hx⟩ | hx | hx | ⟨i, hi, hx⟩
 ·
  exact h.t.type x hx
 ·
  exact (h.z i hi).type x hx
 ·
  exact h.q.type x hx
 ·
  exact h.d.type x hx
 ·
  exact (h.y i hi).type x hx
theorem OwnLg.topsU (h : OwnLg w base l) (h2 : ∀ x ∈ S, ∃ cs, w.heap[x]? = some (.cells cs 2 (0, 0))) : ∀ x ∈ blkV l.aU l.nU, x ∉ S := fun x hx hy => by
 obtain ⟨cs, e1⟩ := h.u.type x hx
 obtain ⟨cs', e2⟩ := h2 x hy
 rw [e1] at e2
 simp at e2
theorem OwnLg.topsS (h : OwnLg w base l) (h2 : ∀ x ∈ S, ∃ cs, w.heap[x]? = some (.cells cs 2 (0, 0))) : ∀ x ∈ blkV l.R.aS l.R.nS, x ∉ S := fun x hx hy => by
 obtain ⟨cs, e1⟩ := h.s.type x hx
 obtain ⟨cs', e2⟩ := h2 x hy
 rw [e1] at e2
 simp at e2
theorem OwnLg.far (h : OwnLg w base l) (ht : Touch S w w') (h2 : ∀ x ∈ S, ∃ cs, w.heap[x]? = some (.cells cs 2 (0, 0))) (hd : ∀ x ∈ l.blks, x ∉ S) : OwnLg w' base l := by
 have k1 : ∀ x ∈ blkV l.aT l.nT, x ∉ S := fun x hx => hd x (List.mem_append_left _ hx)
 have k2 : ∀ i, i < l.nU → ∀ x ∈ blkV (l.uA i) (l.uL i), x ∉ S := fun i hi x hx => hd x (List.mem_append_right _ (List.mem_append_left _ (blkS_mem.2 ⟨i, hi, hx⟩)))
 have k3 : ∀ x ∈ blkV l.R.aQ l.R.nQ, x ∉ S := fun x hx => hd x (List.mem_append_right _ (List.mem_append_right _ (List.mem_append_left _ hx)))
 have k4 : ∀ x ∈ blkV l.R.aD l.R.nD, x ∉ S := fun x hx => hd x (List.mem_append_right _ (List.mem_append_right _ (List.mem_append_right _ (List.mem_append_left _ hx))))
 have k5 : ∀ i, i < l.R.nS → ∀ x ∈ blkV (l.R.A i) (l.R.L i), x ∉ S := fun i hi x hx => hd x (List.mem_append_right _ (List.mem_append_right _ (List.mem_append_right _ (List.mem_append_right _ (blkS_mem.2 ⟨i, hi, hx⟩)))))
 exact ⟨h.t.touchS ht k1, h.u.touchS ht (h.topsU h2), fun i hi => (h.z i hi).touchS ht (k2 i hi), h.q.touchS ht k3, h.d.touchS ht k4, h.s.touchS ht (h.topsS h2), fun i hi => (h.y i hi).touchS ht (k5 i hi), h.nd⟩
theorem OwnLg.mT {f : Nat → Int} (h : OwnLg w base l) (hv : VGI w' base l.aT l.nT f) (ht : Touch (blkV l.aT l.nT) w w') : OwnLg w' base { l with t := f } := by
 have d := Lng.dis h.nd
 have h2 : ∀ x ∈ blkV l.aT l.nT, ∃ cs, w.heap[x]? = some (.cells cs 2 (0, 0)) := h.t.type
 exact ⟨hv, h.u.touchS ht (h.topsU h2), fun i hi => (h.z i hi).touchS ht (fun x hx hy => d.tu x hy (blkS_mem.2 ⟨i, hi, hx⟩)), h.q.touchS ht (fun x hx hy => d.tq x hy hx), h.d.touchS ht (fun x hx hy => d.td x hy hx), h.s.touchS ht (h.topsS h2), fun i hi => (h.y i hi).touchS ht (fun x hx hy => d.ty x hy (blkS_mem.2 ⟨i, hi, hx⟩)), h.nd⟩
theorem OwnLg.mU {z : Nat → Nat → Int} (h : OwnLg w base l) (hv : ∀ i, i < l.nU → VGI w' base (l.uA i) (l.uL i) (z i)) (ht : Touch (blkS l.nU l.uA l.uL) w w') : OwnLg w' base { l with uz := z } := by
 have d := Lng.dis h.nd
 have h2 : ∀ x ∈ blkS l.nU l.uA l.uL, ∃ cs, w.heap[x]? = some (.cells cs 2 (0, 0)) := fun x hx => by
  obtain ⟨i, hi, hx⟩ := blkS_mem.1 hx
  exact (h.z i hi).type x hx
 exact ⟨h.t.touchS ht (fun x hx hy => d.tu x hx hy), h.u.touchS ht (h.topsU h2), hv, h.q.touchS ht (fun x hx hy => d.uq x hy hx), h.d.touchS ht (fun x hx hy => d.ud x hy hx), h.s.touchS ht (h.topsS h2), fun i hi => (h.y i hi).touchS ht (fun x hx hy => d.uy x hy (blkS_mem.2 ⟨i, hi, hx⟩)), h.nd⟩
theorem OwnLg.mQ {f : Nat → Int} (h : OwnLg w base l) (hv : VGI w' base l.R.aQ l.R.nQ f) (ht : Touch (blkV l.R.aQ l.R.nQ) w w') : OwnLg w' base { l with R := { l.R with q := f } } := by
 have d := Lng.dis h.nd
 have h2 : ∀ x ∈ blkV l.R.aQ l.R.nQ, ∃ cs, w.heap[x]? = some (.cells cs 2 (0, 0)) := h.q.type
 exact ⟨h.t.touchS ht (fun x hx hy => d.tq x hx hy), h.u.touchS ht (h.topsU h2), fun i hi => (h.z i hi).touchS ht (fun x hx hy => d.uq x (blkS_mem.2 ⟨i, hi, hx⟩) hy), hv, h.d.touchS ht (fun x hx hy => d.qd x hy hx), h.s.touchS ht (h.topsS h2), fun i hi => (h.y i hi).touchS ht (fun x hx hy => d.qy x hy (blkS_mem.2 ⟨i, hi, hx⟩)), h.nd⟩
theorem OwnLg.mD {f : Nat → Int} (h : OwnLg w base l) (hv : VGI w' base l.R.aD l.R.nD f) (ht : Touch (blkV l.R.aD l.R.nD) w w') : OwnLg w' base { l with R := { l.R with d := f } } := by
 have d := Lng.dis h.nd
 have h2 : ∀ x ∈ blkV l.R.aD l.R.nD, ∃ cs, w.heap[x]? = some (.cells cs 2 (0, 0)) := h.d.type
 exact ⟨h.t.touchS ht (fun x hx hy => d.td x hx hy), h.u.touchS ht (h.topsU h2), fun i hi => (h.z i hi).touchS ht (fun x hx hy => d.ud x (blkS_mem.2 ⟨i, hi, hx⟩) hy), h.q.touchS ht (fun x hx hy => d.qd x hx hy), hv, h.s.touchS ht (h.topsS h2), fun i hi => (h.y i hi).touchS ht (fun x hx hy => d.dy x hy (blkS_mem.2 ⟨i, hi, hx⟩)), h.nd⟩
theorem OwnLg.mY {z : Nat → Nat → Int} (h : OwnLg w base l) (hv : ∀ i, i < l.R.nS → VGI w' base (l.R.A i) (l.R.L i) (z i)) (ht : Touch (blkS l.R.nS l.R.A l.R.L) w w') : OwnLg w' base { l with R := { l.R with z := z } } := by
 have d := Lng.dis h.nd
 have h2 : ∀ x ∈ blkS l.R.nS l.R.A l.R.L, ∃ cs, w.heap[x]? = some (.cells cs 2 (0, 0)) := fun x hx => by
  obtain ⟨i, hi, hx⟩ := blkS_mem.1 hx
  exact (h.y i hi).type x hx
 exact ⟨h.t.touchS ht (fun x hx hy => d.ty x hx hy), h.u.touchS ht (h.topsU h2), fun i hi => (h.z i hi).touchS ht (fun x hx hy => d.uy x (blkS_mem.2 ⟨i, hi, hx⟩) hy), h.q.touchS ht (fun x hx hy => d.qy x hx hy), h.d.touchS ht (fun x hx hy => d.dy x hx hy), h.s.touchS ht (h.topsS h2), hv, h.nd⟩
end
structure Lns (w : World) (base g n : Nat) (L : Nat → Lng) : Prop where
 r : RowTo g 118 (n * 8) (flatG L) (n * 8) w
 ls : ∀ i, i < n → OwnLg w base (L i)
 ap : ∀ i j, i < n → j < n → i ≠ j → ∀ x ∈ (L i).blks, x ∉ (L j).blks
def updL (L : Nat → Lng) (k : Nat) (l : Lng) (i : Nat) : Lng := if i = k then l else L i
theorem updL_self (L : Nat → Lng) (k : Nat) (l : Lng) : updL L k l k = l := if_pos rfl
theorem updL_ne (L : Nat → Lng) {k i : Nat} (l : Lng) (h : i ≠ k) : updL L k l i = L i := if_neg h
theorem updL_two (L : Nat → Lng) (k : Nat) (l l2 : Lng) : updL (updL L k l) k l2 = updL L k l2 := by
 funext i
 unfold updL
 split <;> rfl
theorem updL_id (L : Nat → Lng) (k : Nat) : updL L k (L k) = L := by
 funext i
 unfold updL
 split
 ·
  rename_i h; rw [h]
 ·
  rfl
section
variable {w w' : World} {base g n k : Nat} {L : Nat → Lng} {l : Lng} {S : List Nat}
theorem Lns.cell (h : Lns w base g n L) (hk : k < n) (j : Nat) (hj : j < 8) : w.cell? ⟨g, k * 8 + j, none⟩ = (L k).cells[j]? := by
 rw [h.r.at _ (by omega)]
 exact flatG_at L k j hj
theorem Lns.apU (h : Lns w base g n L) (hb : l.blks = (L k).blks) : ∀ i j, i < n → j < n → i ≠ j → ∀ x ∈ (updL L k l i).blks, x ∉ (updL L k l j).blks := by
 intro i j hi hj hne x hx hy
 have e : ∀ i, (updL L k l i).blks = (L i).blks := fun i => by
  unfold updL
  split
  ·
   rename_i e; rw [hb, e]
  ·
   rfl
 rw [e] at hx hy
 exact h.ap i j hi hj hne x hx hy
theorem Lns.mark (h : Lns w base g n L) (hk : k < n) (hc : l.cells = (L k).cells) (hb : l.blks = (L k).blks) (ho : OwnLg w' base l) (ht : Touch S w w') (hS : ∀ x ∈ S, x ∈ (L k).blks) : Lns w' base g n (updL L k l) := by
 have h2 : ∀ x ∈ S, ∃ cs, w.heap[x]? = some (.cells cs 2 (0, 0)) := fun x hx => (h.ls k hk).type2 x (hS x hx)
 have hg : g ∉ S := fun hx => by
  obtain ⟨cs, e1⟩ := h2 g hx
  obtain ⟨arr, e2, _⟩ := h.r
  rw [e1] at e2
  simp at e2
 have ef : flatG (updL L k l) = flatG L := by
  funext j
  unfold flatG updL
  split
  ·
   rename_i e; rw [hc, e]
  ·
   rfl
 refine ⟨by rw [ef]; exact h.r.keep (ht.block g h.r.lt hg), fun i hi => ?_, h.apU hb⟩
 by_cases e : i = k
 ·
  rw [e, updL_self]; exact ho
 ·
  rw [updL_ne _ _ e]
  exact (h.ls i hi).far ht h2 (fun x hx hy => h.ap i k hi hk e x hx (hS x hy))
theorem Lns.put (h : Lns w base g n L) (hk : k < n) {j : Nat} (hj : j < 8) {v : Value} {arr : Array Value} (ha : w.heap[g]? = some (.cells arr 118 (0, 0))) (hP : Put w w' g (lay arr (k * 8 + j) #[v]) 118) (hc : l.cells = (L k).cells.setIfInBounds j v) (hb : l.blks = (L k).blks) (ho : ∀ W, OwnLg W base (L k) → OwnLg W base l) : Lns w' base g n (updL L k l) := by
 have far : ∀ {l : Lng}, OwnLg w base l → OwnLg w' base l := fun {l} hl => by
  have no2 : ∀ {a : Option Addr} {n : Nat} {f : Nat → Value} {t : TypeId}, VG t w base a n f → t ≠ 118 → VG t w' base a n f := fun hv hne => hv.touchS hP.to (fun x hx hy => by
   obtain ⟨cs, e1⟩ := hv.type x hx
   rw [List.mem_singleton.1 hy, ha] at e1
   simp at e1
   exact hne e1.2.symm)
  exact ⟨no2 hl.t (by decide), no2 hl.u (by decide), fun i hi => no2 (hl.z i hi) (by decide), no2 hl.q (by decide), no2 hl.d (by decide), no2 hl.s (by decide), fun i hi => no2 (hl.y i hi) (by decide), hl.nd⟩
 obtain ⟨arr', e1, e2, e3⟩ := h.r
 rw [ha] at e1
 simp at e1
 subst e1
 have hf : k * 8 + j + (#[v] : Array Value).size ≤ arr.size := by show k * 8 + j + 1 ≤ _; omega
 refine ⟨⟨_, hP.blk, by rw [lay_size hf]; exact e2, fun i hi => ?_⟩, fun i hi => ?_, h.apU hb⟩
 ·
  by_cases e : i = k * 8 + j
  ·
   have q := lay_at hf 0 (by show 0 < 1; omega)
   rw [Nat.add_zero] at q
   rw [e, q, flatG_at _ k j hj, updL_self, hc]
   rw [Array.getElem?_setIfInBounds_self_of_lt (by rw [Lng.cells_size]; exact hj)]
   rfl
  ·
   have q : (lay arr (k * 8 + j) #[v])[i]? = arr[i]? := by
    by_cases lo : i < k * 8 + j
    ·
     exact lay_lo hf i lo
    ·
     unfold lay
     simp only [List.getElem?_toArray]
     rw [List.getElem?_append_right (by simp; omega), List.getElem?_drop, Array.getElem?_toList]
     congr 1
     simp
     omega
   rw [q, e3 i hi]
   have hh : some (flatG (updL L k l) i) = some (flatG L i) := by
    have a1 := flatG_at (updL L k l) (i / 8) (i % 8) (by omega)
    have a2 := flatG_at L (i / 8) (i % 8) (by omega)
    rw [show i / 8 * 8 + i % 8 = i by omega] at a1 a2
    rw [a1, a2]
    by_cases ek : i / 8 = k
    ·
     rw [ek, updL_self, hc, Array.getElem?_setIfInBounds_ne (by omega)]
    ·
     rw [updL_ne _ _ ek]
   exact hh.symm
 ·
  by_cases e : i = k
  ·
   rw [e, updL_self]; exact ho _ (far (h.ls k hk))
  ·
   rw [updL_ne _ _ e]; exact far (h.ls i hi)
end
theorem mb_c (q : Nat) : (((q : Int)) % 3 == 0) = mb q := by
 rw [Bool.eq_iff_iff]
 simp only [mb, beq_iff_eq, decide_eq_true_eq]
 omega
theorem mb_c1 (q : Nat) : (((q : Int) + 1) % 3 == 0) = mb (q + 1) := by
 rw [Bool.eq_iff_iff]
 simp only [mb, beq_iff_eq, decide_eq_true_eq]
 omega
def mkLg (l : Lng) (st : Bool) (t : Nat → Int) (uz : Nat → Nat → Int) (q d : Nat → Int) (turn : Int) (fresh : Bool) (z : Nat → Nat → Int) : Lng :=
 ⟨st, l.aT, l.nT, l.cT, t, l.aU, l.nU, l.cU, l.uA, l.uL, l.uC, uz, ⟨l.R.aQ, l.R.nQ, l.R.cQ, q, l.R.aD, l.R.nD, l.R.cD, d, turn, fresh, l.R.aS, l.R.nS, l.R.cS, l.R.A, l.R.L, l.R.C, z⟩⟩
def Lng.c1 (l : Lng) (c : Nat) : Nat := c + 1 + l.nT
def Lng.c2 (l : Lng) (c : Nat) : Nat := l.c1 c + sumL l.uL l.nU
def Lng.c3 (l : Lng) (c : Nat) : Nat := l.c2 c + l.R.nQ
def Lng.c4 (l : Lng) (c : Nat) : Nat := l.c3 c + l.R.nD
def markLg (c : Nat) (l : Lng) : Lng := mkLg l (mb c) (fun i => ((c + 1 + i : Nat) : Int)) (fun i j => ((l.c1 c + sumL l.uL i + j : Nat) : Int)) (fun i => ((l.c2 c + i : Nat) : Int)) (fun i => ((l.c3 c + i : Nat) : Int)) ((l.c4 c : Nat) : Int) (mb (l.c4 c + 1)) (fun i j => ((l.c4 c + 2 + sumL l.R.L i + j : Nat) : Int))
theorem mark_end (c : Nat) (l : Lng) : l.c4 c + 2 + sumL l.R.L l.R.nS = c + (3 + l.tot) := by
 unfold Lng.c4 Lng.c3 Lng.c2 Lng.c1 Lng.tot Rnd.tot
 omega
section
variable {w w' : World} {base g n k : Nat} {M : Nat → Lng} {l l' : Lng} {S : List Nat}
theorem Lns.own2 (h : Lns w base g n (updL M k l)) (hk : k < n) : OwnLg w base l := by
 have := h.ls k hk
 rwa [updL_self] at this
theorem Lns.cell2 (h : Lns w base g n (updL M k l)) (hk : k < n) (j : Nat) (hj : j < 8) : w.cell? ⟨g, k * 8 + j, none⟩ = l.cells[j]? := by
 rw [h.cell hk j hj, updL_self]
theorem Lns.mark2 (h : Lns w base g n (updL M k l)) (hk : k < n) (hc : l'.cells = l.cells) (hb : l'.blks = l.blks) (ho : OwnLg w' base l') (ht : Touch S w w') (hS : ∀ x ∈ S, x ∈ l.blks) : Lns w' base g n (updL M k l') := by
 have := h.mark hk (l := l') (by rw [updL_self]; exact hc) (by rw [updL_self]; exact hb) ho ht (by rw [updL_self]; exact hS)
 rwa [updL_two] at this
theorem Lns.put2 (h : Lns w base g n (updL M k l)) (hk : k < n) {j : Nat} (hj : j < 8) {v : Value} {arr : Array Value} (ha : w.heap[g]? = some (.cells arr 118 (0, 0))) (hP : Put w w' g (lay arr (k * 8 + j) #[v]) 118) (hc : l'.cells = l.cells.setIfInBounds j v) (hb : l'.blks = l.blks) (ho : ∀ W, OwnLg W base l → OwnLg W base l') : Lns w' base g n (updL M k l') := by
 have := h.put hk hj (l := l') ha hP (by rw [updL_self]; exact hc) (by rw [updL_self]; exact hb) (by rw [updL_self]; exact ho)
 rwa [updL_two] at this
end
def allL (g n : Nat) (L : Nat → Lng) : List Nat := g :: (List.range n).flatMap fun i => (L i).blks
theorem allL_mem {g n k : Nat} {L : Nat → Lng} (hk : k < n) : ∀ x ∈ (L k).blks, x ∈ allL g n L := fun x hx => List.mem_cons_of_mem _ (by simp only [List.mem_flatMap, List.mem_range]; exact ⟨k, hk, hx⟩)
def cntL (L : Nat → Lng) (k : Nat) : Nat := sumL (fun i => 3 + (L i).tot) k
def marksG (m : Nat) (L : Nat → Lng) (k i : Nat) : Lng := if i < k then markLg (m + cntL L i) (L i) else L i
theorem marksG_zero (m : Nat) (L : Nat → Lng) : marksG m L 0 = L := by
 funext i
 unfold marksG
 rw [if_neg (by omega)]
theorem marksG_self (m : Nat) (L : Nat → Lng) (k : Nat) : marksG m L k k = L k := by
 unfold marksG
 rw [if_neg (by omega)]
theorem marksG_succ (m : Nat) (L : Nat → Lng) (k : Nat) : updL (marksG m L k) k (markLg (m + cntL L k) (L k)) = marksG m L (k + 1) := by
 funext i
 unfold updL marksG
 by_cases e : i = k
 ·
  subst e
  rw [if_pos rfl, if_pos (by omega)]
 ·
  rw [if_neg e]
  by_cases h : i < k
  ·
   rw [if_pos h, if_pos (by omega)]
  ·
   rw [if_neg h, if_neg (by omega)]
theorem cntL_le (L : Nat → Lng) {i n : Nat} (h : i < n) : cntL L i + (3 + (L i).tot) ≤ cntL L n := by
 have h1 := sumL_le (fun i => 3 + (L i).tot) (show i + 1 ≤ n by omega)
 have h2 : sumL (fun i => 3 + (L i).tot) (i + 1) = sumL (fun i => 3 + (L i).tot) i + (3 + (L i).tot) := rfl
 unfold cntL
 omega
set_option maxRecDepth 10000 in
set_option maxHeartbeats 4000000 in
theorem markLns_any (g n cap m base : Nat) (L : Nat → Lng) (w : World) (h : Lns w base g n L) (hn : n ≤ 1048576) (hm : m ≤ 30000000) (hs : cntL L n ≤ 10000000) (hsm : ∀ i, i < n → (L i).Small) :
  Calls Tryz.prog 101 #[.slice (some ⟨g, 0, none⟩) n cap, .int .i64 m] w fun e w' => e = .returned (.int .i64 ((m + cntL L n : Nat) : Int)) ∧ Lns w' base g n (marksG m L n) ∧ Touch (allL g n L) w w' := by
 have H0 : Hid (Lns w base g n (marksG m L 0)) := by rw [Hid, marksG_zero]; exact h
 have HS : Hid (∀ i, i < n → (L i).Small) := hsm
 clear h hsm
 go_enter Tryz.func101, Tryz.ntmps101
 go_wp2_with fail
 go_loopw [1, 5] (fun x i wr => ∃ (k c : Nat), k ≤ n ∧ i = .int .i64 k ∧ x = .int .i64 c ∧ Hid (c = m + cntL L k) ∧ Hid (Lns wr base g n (marksG m L k)) ∧ Hid (Touch (allL g n L) w wr)) (fun _ i _ => n - (intOf i).toNat)
 case atStart => exact ⟨0, m, Nat.zero_le _, rfl, rfl, rfl, H0, Touch.refl _ _⟩
 case round =>
  clear H0
  obtain ⟨k, c, hk, rfl, rfl, HQ, HL, HT⟩ := hrel
  by_cases hlt : k < n
  ·
   have hlt' : (k : Int) < n := by omega
   have hcn := cntL_le L hlt
   have HsT : Hid ((L k).tot ≤ 10000000) := by rw [Hid]; omega
   have hcb : c + (3 + (L k).tot) ≤ 40000000 := by have := HQ.out; omega
   have HSk : Hid (L k).Small := HS.out k hlt
   have HA : Hid (∀ x ∈ (L k).blks, x ∈ allL g n L) := allL_mem hlt
   obtain ⟨M, eM⟩ : ∃ M, marksG m L k = M := ⟨_, rfl⟩
   obtain ⟨l, el⟩ : ∃ l, L k = l := ⟨_, rfl⟩
   have HM : Hid (∀ W, Lns W base g n (updL M k (markLg c l)) → Lns W base g n (marksG m L (k + 1))) := fun W hW => by rw [← marksG_succ, eM, el, ← HQ.out]; exact hW
   have HL0 : Hid (Lns wr base g n (updL M k (mkLg l l.st l.t l.uz l.R.q l.R.d l.R.turn l.R.fresh l.R.z))) := by
    have e : updL M k l = M := by rw [← el, ← marksG_self m L k, eM, updL_id]
    show Lns wr base g n (updL M k l)
    rw [e, ← eM]
    exact HL.out
   rw [el] at HSk HA hcb HsT
   clear HL eM hcn
   have hto : l.tot = l.nT + sumL l.uL l.nU + (l.R.nQ + l.R.nD + sumL l.R.L l.R.nS) := rfl
   have HTo : Hid (c + (3 + l.tot) ≤ 40000000) := hcb
   have h1 : c + 1 ≤ 100000000 := by omega
   have h2 : l.c1 c ≤ 50000000 := by unfold Lng.c1; omega
   have h3 : l.c2 c ≤ 100000000 := by unfold Lng.c2 Lng.c1; omega
   have h4 : l.c3 c ≤ 100000000 := by unfold Lng.c3 Lng.c2 Lng.c1; omega
   have h5 : l.c4 c + 2 ≤ 50000000 := by unfold Lng.c4 Lng.c3 Lng.c2 Lng.c1; omega
   have hsU : sumL l.uL l.nU ≤ 10000000 := by have := HsT.out; omega
   have hsZ : sumL l.R.L l.R.nS ≤ 10000000 := by have := HsT.out; omega
   clear hto
   obtain ⟨arr, hb, _, _⟩ := HL0.out.r
   have HG : Hid (wr.heap[g]? = some (.cells arr 118 (0, 0))) := hb
   have HN : Hid (n * 8 ≤ arr.size) := by obtain ⟨a2, e1, e2, _⟩ := HL0.out.r; rw [hb] at e1; cases e1; exact e2
   clear hb
   go_wp2_with (refine wpList_stA rfl 4 (.tmp 18) (.tmp 16) rfl g (k * 8) (by simp [Act.eval]) (.bool (mb c)) (by simp [Act.eval, mb_c]) 1 rfl 118 arr HG.out infoB1 (by have := HN.out; omega) (by simp [Value.cells, Value.oneCell']) ?_)
   intro Y0 hP
   replace HL0 : Hid (Lns Y0 base g n (updL M k (mkLg l (mb c) l.t l.uz l.R.q l.R.d l.R.turn l.R.fresh l.R.z))) := HL0.out.put2 hlt (j := 0) (by omega) HG.out hP rfl rfl (fun W hW => ⟨hW.t, hW.u, hW.z, hW.q, hW.d, hW.s, hW.y, hW.nd⟩)
   replace HT : Hid (Touch (allL g n L) w Y0) := HT.out.trans (hP.to.mono (fun x hx => by rw [List.mem_singleton.1 hx]; exact List.mem_cons_self ..))
   clear hP HG HN
   have c1 : Y0.cell? ⟨g, k * 8 + 1, none⟩ = some (.slice l.aT l.nT l.cT) := HL0.out.cell2 hlt 1 (by omega)
   go_wp2_with fail
   refine (markVGI_any l.aT l.nT l.cT (c + 1) base l.t _ (HL0.out.own2 hlt).t HSk.out.t h1).mono ?_
   rintro e Y1 ⟨rfl, hv, ht⟩
   replace HL0 : Hid (Lns Y1 base g n (updL M k (mkLg l (mb c) (fun i => ((c + 1 + i : Nat) : Int)) l.uz l.R.q l.R.d l.R.turn l.R.fresh l.R.z))) := HL0.out.mark2 hlt rfl rfl ((HL0.out.own2 hlt).mT hv ht) ht (fun x hx => List.mem_append_left _ hx)
   replace HT : Hid (Touch (allL g n L) w Y1) := HT.out.trans (ht.mono (fun x hx => HA.out x ((fun x hx => List.mem_append_left _ hx) x hx)))
   clear hv ht c1
   rw [show c + 1 + l.nT = l.c1 c from rfl]
   have c2 : Y1.cell? ⟨g, k * 8 + 2, none⟩ = some (.slice l.aU l.nU l.cU) := HL0.out.cell2 hlt 2 (by omega)
   go_wp2_with fail
   refine (markIss_any l.aU l.nU l.cU (l.c1 c) base l.uA l.uL l.uC l.uz (blkS l.nU l.uA l.uL) _ HSk.out.u hsU h2 HSk.out.z (fun w' ht => ((HL0.out.own2 hlt).u.touchS ht ((HL0.out.own2 hlt).topsU (fun x hx => (HL0.out.own2 hlt).type2 x (List.mem_append_right _ (List.mem_append_left _ hx))))).read) (HL0.out.own2 hlt).z (Lng.dis (HL0.out.own2 hlt).nd).uu (fun i hi x hx => blkS_mem.2 ⟨i, hi, hx⟩)).mono ?_
   rintro e Y2 ⟨rfl, hv, ht⟩
   replace HL0 : Hid (Lns Y2 base g n (updL M k (mkLg l (mb c) (fun i => ((c + 1 + i : Nat) : Int)) (fun i j => ((l.c1 c + sumL l.uL i + j : Nat) : Int)) l.R.q l.R.d l.R.turn l.R.fresh l.R.z))) := HL0.out.mark2 hlt rfl rfl ((HL0.out.own2 hlt).mU hv ht) ht (fun x hx => List.mem_append_right _ (List.mem_append_left _ hx))
   replace HT : Hid (Touch (allL g n L) w Y2) := HT.out.trans (ht.mono (fun x hx => HA.out x ((fun x hx => List.mem_append_right _ (List.mem_append_left _ hx)) x hx)))
   clear hv ht c2
   rw [show l.c1 c + sumL l.uL l.nU = l.c2 c from rfl]
   have c3 : Y2.cell? ⟨g, k * 8 + 3, none⟩ = some (.slice l.R.aQ l.R.nQ l.R.cQ) := HL0.out.cell2 hlt 3 (by omega)
   go_wp2_with fail
   refine (markVGI_any l.R.aQ l.R.nQ l.R.cQ (l.c2 c) base l.R.q _ (HL0.out.own2 hlt).q HSk.out.r.q h3).mono ?_
   rintro e Y3 ⟨rfl, hv, ht⟩
   replace HL0 : Hid (Lns Y3 base g n (updL M k (mkLg l (mb c) (fun i => ((c + 1 + i : Nat) : Int)) (fun i j => ((l.c1 c + sumL l.uL i + j : Nat) : Int)) (fun i => ((l.c2 c + i : Nat) : Int)) l.R.d l.R.turn l.R.fresh l.R.z))) := HL0.out.mark2 hlt rfl rfl ((HL0.out.own2 hlt).mQ hv ht) ht (fun x hx => List.mem_append_right _ (List.mem_append_right _ (List.mem_append_left _ hx)))
   replace HT : Hid (Touch (allL g n L) w Y3) := HT.out.trans (ht.mono (fun x hx => HA.out x ((fun x hx => List.mem_append_right _ (List.mem_append_right _ (List.mem_append_left _ hx))) x hx)))
   clear hv ht c3
   rw [show l.c2 c + l.R.nQ = l.c3 c from rfl]
   have c4 : Y3.cell? ⟨g, k * 8 + 4, none⟩ = some (.slice l.R.aD l.R.nD l.R.cD) := HL0.out.cell2 hlt 4 (by omega)
   go_wp2_with fail
   refine (markVGI_any l.R.aD l.R.nD l.R.cD (l.c3 c) base l.R.d _ (HL0.out.own2 hlt).d HSk.out.r.d h4).mono ?_
   rintro e Y4 ⟨rfl, hv, ht⟩
   replace HL0 : Hid (Lns Y4 base g n (updL M k (mkLg l (mb c) (fun i => ((c + 1 + i : Nat) : Int)) (fun i j => ((l.c1 c + sumL l.uL i + j : Nat) : Int)) (fun i => ((l.c2 c + i : Nat) : Int)) (fun i => ((l.c3 c + i : Nat) : Int)) l.R.turn l.R.fresh l.R.z))) := HL0.out.mark2 hlt rfl rfl ((HL0.out.own2 hlt).mD hv ht) ht (fun x hx => List.mem_append_right _ (List.mem_append_right _ (List.mem_append_right _ (List.mem_append_left _ hx))))
   replace HT : Hid (Touch (allL g n L) w Y4) := HT.out.trans (ht.mono (fun x hx => HA.out x ((fun x hx => List.mem_append_right _ (List.mem_append_right _ (List.mem_append_right _ (List.mem_append_left _ hx)))) x hx)))
   clear hv ht c4
   rw [show l.c3 c + l.R.nD = l.c4 c from rfl]
   obtain ⟨arr, hb, _, _⟩ := HL0.out.r
   have HG : Hid (Y4.heap[g]? = some (.cells arr 118 (0, 0))) := hb
   have HN : Hid (n * 8 ≤ arr.size) := by obtain ⟨a2, e1, e2, _⟩ := HL0.out.r; rw [hb] at e1; cases e1; exact e2
   clear hb
   go_wp2_with (refine wpList_stA rfl 2 (.tmp 56) (.tmp 53) rfl g (k * 8 + 5) (by simp [Act.eval]) (.int .i64 ((l.c4 c : Nat) : Int)) rfl 1 rfl 118 arr HG.out infoI1 (by have := HN.out; omega) (by simp [Value.cells, Value.oneCell']) ?_)
   intro Y5 hP
   replace HL0 : Hid (Lns Y5 base g n (updL M k (mkLg l (mb c) (fun i => ((c + 1 + i : Nat) : Int)) (fun i j => ((l.c1 c + sumL l.uL i + j : Nat) : Int)) (fun i => ((l.c2 c + i : Nat) : Int)) (fun i => ((l.c3 c + i : Nat) : Int)) ((l.c4 c : Nat) : Int) l.R.fresh l.R.z))) := HL0.out.put2 hlt (j := 5) (by omega) HG.out hP rfl rfl (fun W hW => ⟨hW.t, hW.u, hW.z, hW.q, hW.d, hW.s, hW.y, hW.nd⟩)
   replace HT : Hid (Touch (allL g n L) w Y5) := HT.out.trans (hP.to.mono (fun x hx => by rw [List.mem_singleton.1 hx]; exact List.mem_cons_self ..))
   clear hP HG HN
   obtain ⟨arr, hb, _, _⟩ := HL0.out.r
   have HG : Hid (Y5.heap[g]? = some (.cells arr 118 (0, 0))) := hb
   have HN : Hid (n * 8 ≤ arr.size) := by obtain ⟨a2, e1, e2, _⟩ := HL0.out.r; rw [hb] at e1; cases e1; exact e2
   clear hb
   go_wp2_with (refine wpList_stA rfl 4 (.tmp 66) (.tmp 63) rfl g (k * 8 + 6) (by simp [Act.eval]) (.bool (mb (l.c4 c + 1))) (by simp [Act.eval, mb_c1]) 1 rfl 118 arr HG.out infoB1 (by have := HN.out; omega) (by simp [Value.cells, Value.oneCell']) ?_)
   intro Y6 hP
   replace HL0 : Hid (Lns Y6 base g n (updL M k (mkLg l (mb c) (fun i => ((c + 1 + i : Nat) : Int)) (fun i j => ((l.c1 c + sumL l.uL i + j : Nat) : Int)) (fun i => ((l.c2 c + i : Nat) : Int)) (fun i => ((l.c3 c + i : Nat) : Int)) ((l.c4 c : Nat) : Int) (mb (l.c4 c + 1)) l.R.z))) := HL0.out.put2 hlt (j := 6) (by omega) HG.out hP rfl rfl (fun W hW => ⟨hW.t, hW.u, hW.z, hW.q, hW.d, hW.s, hW.y, hW.nd⟩)
   replace HT : Hid (Touch (allL g n L) w Y6) := HT.out.trans (hP.to.mono (fun x hx => by rw [List.mem_singleton.1 hx]; exact List.mem_cons_self ..))
   clear hP HG HN
   have c7 : Y6.cell? ⟨g, k * 8 + 7, none⟩ = some (.slice l.R.aS l.R.nS l.R.cS) := HL0.out.cell2 hlt 7 (by omega)
   go_wp2_with fail
   refine (markIss_any l.R.aS l.R.nS l.R.cS (l.c4 c + 2) base l.R.A l.R.L l.R.C l.R.z (blkS l.R.nS l.R.A l.R.L) _ HSk.out.r.s hsZ h5 HSk.out.r.l (fun w' ht => ((HL0.out.own2 hlt).s.touchS ht ((HL0.out.own2 hlt).topsS (fun x hx => (HL0.out.own2 hlt).type2 x (List.mem_append_right _ (List.mem_append_right _ (List.mem_append_right _ (List.mem_append_right _ hx))))))).read) (HL0.out.own2 hlt).y (Lng.dis (HL0.out.own2 hlt).nd).yy (fun i hi x hx => blkS_mem.2 ⟨i, hi, hx⟩)).mono ?_
   rintro e Y7 ⟨rfl, hv, ht⟩
   replace HL0 : Hid (Lns Y7 base g n (updL M k (mkLg l (mb c) (fun i => ((c + 1 + i : Nat) : Int)) (fun i j => ((l.c1 c + sumL l.uL i + j : Nat) : Int)) (fun i => ((l.c2 c + i : Nat) : Int)) (fun i => ((l.c3 c + i : Nat) : Int)) ((l.c4 c : Nat) : Int) (mb (l.c4 c + 1)) (fun i j => ((l.c4 c + 2 + sumL l.R.L i + j : Nat) : Int))))) := HL0.out.mark2 hlt rfl rfl ((HL0.out.own2 hlt).mY hv ht) ht (fun x hx => List.mem_append_right _ (List.mem_append_right _ (List.mem_append_right _ (List.mem_append_right _ hx))))
   replace HT : Hid (Touch (allL g n L) w Y7) := HT.out.trans (ht.mono (fun x hx => HA.out x ((fun x hx => List.mem_append_right _ (List.mem_append_right _ (List.mem_append_right _ (List.mem_append_right _ hx)))) x hx)))
   clear hv ht c7
   have HL1 : Hid (Lns Y7 base g n (marksG m L (k + 1))) := HM.out _ HL0.out
   have HQ1 : Hid (l.c4 c + 2 + sumL l.R.L l.R.nS = m + cntL L (k + 1)) := by
    show _ = m + (sumL (fun i => 3 + (L i).tot) k + (3 + (L k).tot))
    have e0 : c = m + sumL (fun i => 3 + (L i).tot) k := HQ.out
    rw [mark_end, el, e0, Nat.add_assoc]
   clear HL0 HM h1 h2 h3 h4 h5 hsU hsZ hcb
   go_wp2_with fail
   go_roundw
   case rel => exact ⟨k + 1, _, by omega, by go_num, rfl, HQ1, HL1, HT⟩
   case measure => simp [intOf]; omega
  ·
   obtain rfl : k = n := by omega
   go_wp2_with fail
   go_ret
   exact ⟨ret_int (by rw [HQ.out]), HL.out, HT.out⟩
set_option maxRecDepth 10000 in
set_option maxHeartbeats 4000000 in
theorem heldLns_any (g n cap m base : Nat) (L : Nat → Lng) (w : World) (h : Lns w base g n (marksG m L n)) (hn : n ≤ 1048576) (hm : m ≤ 30000000) (hs : cntL L n ≤ 10000000) (hsm : ∀ i, i < n → (L i).Small) :
  Calls Tryz.prog 105 #[.slice (some ⟨g, 0, none⟩) n cap, .int .i64 m] w fun e w' => e = .returned (.int .i64 ((m + cntL L n : Nat) : Int)) ∧ w = w' := by
 have H0 : Hid (Lns w base g n (marksG m L n)) := h
 have HS : Hid (∀ i, i < n → (L i).Small) := hsm
 clear h hsm
 go_enter Tryz.func105, Tryz.ntmps105
 go_wp2_with fail
 go_loop [1, 5] (fun x i => ∃ (k c : Nat), k ≤ n ∧ i = .int .i64 k ∧ x = .int .i64 c ∧ Hid (c = m + cntL L k)) (fun _ i => n - (intOf i).toNat)
 case atStart => exact ⟨0, m, Nat.zero_le _, rfl, rfl, rfl⟩
 case round =>
  obtain ⟨k, c, hk, rfl, rfl, HQ⟩ := hrel
  by_cases hlt : k < n
  ·
   have hlt' : (k : Int) < n := by omega
   have hcn := cntL_le L hlt
   have HsT : Hid ((L k).tot ≤ 10000000) := by rw [Hid]; omega
   have hcb : c + (3 + (L k).tot) ≤ 40000000 := by have := HQ.out; omega
   have HSk : Hid (L k).Small := HS.out k hlt
   obtain ⟨l, el⟩ : ∃ l, L k = l := ⟨_, rfl⟩
   have eK : marksG m L n k = markLg c l := by unfold marksG; rw [if_pos hlt, ← HQ.out, el]
   have HO : Hid (OwnLg w base (markLg c l)) := by rw [Hid, ← eK]; exact H0.out.ls k hlt
   have HC : Hid (∀ j, j < 8 → w.cell? ⟨g, k * 8 + j, none⟩ = (markLg c l).cells[j]?) := fun j hj => by rw [H0.out.cell hlt j hj, eK]
   rw [el] at HSk hcb HsT
   clear hcn eK
   have hto : l.tot = l.nT + sumL l.uL l.nU + (l.R.nQ + l.R.nD + sumL l.R.L l.R.nS) := rfl
   have h1 : c + 1 ≤ 100000000 := by omega
   have h2 : l.c1 c ≤ 50000000 := by unfold Lng.c1; omega
   have h3 : l.c2 c ≤ 100000000 := by unfold Lng.c2 Lng.c1; omega
   have h4 : l.c3 c ≤ 100000000 := by unfold Lng.c3 Lng.c2 Lng.c1; omega
   have h5 : l.c4 c + 2 ≤ 50000000 := by unfold Lng.c4 Lng.c3 Lng.c2 Lng.c1; omega
   have hsU : sumL l.uL l.nU ≤ 10000000 := by have := HsT.out; omega
   have hsZ : sumL l.R.L l.R.nS ≤ 10000000 := by have := HsT.out; omega
   clear hto
   have c0 : w.cell? ⟨g, k * 8, none⟩ = some (.bool (mb c)) := HC.out 0 (by omega)
   have d1 : w.cell? ⟨g, k * 8 + 1, none⟩ = some (.slice l.aT l.nT l.cT) := HC.out 1 (by omega)
   have d2 : w.cell? ⟨g, k * 8 + 2, none⟩ = some (.slice l.aU l.nU l.cU) := HC.out 2 (by omega)
   have d3 : w.cell? ⟨g, k * 8 + 3, none⟩ = some (.slice l.R.aQ l.R.nQ l.R.cQ) := HC.out 3 (by omega)
   have d4 : w.cell? ⟨g, k * 8 + 4, none⟩ = some (.slice l.R.aD l.R.nD l.R.cD) := HC.out 4 (by omega)
   have d5 : w.cell? ⟨g, k * 8 + 5, none⟩ = some (.int .i64 ((l.c4 c : Nat) : Int)) := HC.out 5 (by omega)
   have d6 : w.cell? ⟨g, k * 8 + 6, none⟩ = some (.bool (mb (l.c4 c + 1))) := HC.out 6 (by omega)
   have d7 : w.cell? ⟨g, k * 8 + 7, none⟩ = some (.slice l.R.aS l.R.nS l.R.cS) := HC.out 7 (by omega)
   have e3 := mb_c c
   have hb1 : (mb c != mb c) = false := by simp
   have e6 := mb_c1 (l.c4 c)
   have hb2 : (mb (l.c4 c + 1) != mb (l.c4 c + 1)) = false := by simp
   go_wp2_with fail
   clear e3 hb1
   refine (heldVGI_any l.aT l.nT l.cT (c + 1) base _ HO.out.t HSk.out.t h1).mono ?_
   rintro e w1 ⟨rfl, rfl⟩
   rw [show c + 1 + l.nT = l.c1 c from rfl]
   go_wp2_with fail
   refine (heldIss_any l.aU l.nU l.cU (l.c1 c) base l.uA l.uL l.uC _ HSk.out.u hsU h2 HSk.out.z HO.out.u.read HO.out.z).mono ?_
   rintro e w2 ⟨rfl, rfl⟩
   rw [show l.c1 c + sumL l.uL l.nU = l.c2 c from rfl]
   go_wp2_with fail
   refine (heldVGI_any l.R.aQ l.R.nQ l.R.cQ (l.c2 c) base _ HO.out.q HSk.out.r.q h3).mono ?_
   rintro e w3 ⟨rfl, rfl⟩
   rw [show l.c2 c + l.R.nQ = l.c3 c from rfl]
   go_wp2_with fail
   refine (heldVGI_any l.R.aD l.R.nD l.R.cD (l.c3 c) base _ HO.out.d HSk.out.r.d h4).mono ?_
   rintro e w4 ⟨rfl, rfl⟩
   rw [show l.c3 c + l.R.nD = l.c4 c from rfl]
   have hb5 : (((l.c4 c : Nat) : Int) != ((l.c4 c : Nat) : Int)) = false := by simp
   go_wp2_with fail
   refine (heldIss_any l.R.aS l.R.nS l.R.cS (l.c4 c + 2) base l.R.A l.R.L l.R.C _ HSk.out.r.s hsZ h5 HSk.out.r.l HO.out.s.read HO.out.y).mono ?_
   rintro e w5 ⟨rfl, rfl⟩
   have HQ1 : Hid (l.c4 c + 2 + sumL l.R.L l.R.nS = m + cntL L (k + 1)) := by
    show _ = m + (sumL (fun i => 3 + (L i).tot) k + (3 + (L k).tot))
    have e0 : c = m + sumL (fun i => 3 + (L i).tot) k := HQ.out
    rw [mark_end, el, e0, Nat.add_assoc]
   clear h1 h2 h3 h4 h5 hsU hsZ hcb hb5 e6 hb2 c0 d1 d2 d3 d4 d5 d6 d7
   go_wp2_with fail
   go_round
   case rel => exact ⟨k + 1, _, by omega, by go_num, rfl, HQ1⟩
   case measure => simp [intOf]; omega
  ·
   obtain rfl : k = n := by omega
   go_wp2_with fail
   go_ret
   exact ⟨ret_int (by have := HQ.out; omega), rfl⟩
def markF (m : Nat) (j : Nat) : Value := .int .i64 ((m + j : Nat) : Int)
set_option maxHeartbeats 1000000 in
theorem markEnts_any (g n cap m : Nat) (f : Nat → Value) (w : World) (h : RowTo g 109 (n * 3) f (n * 3) w) (hn : n ≤ 1048576) (hm : m ≤ 100000000) :
  Calls Tryz.prog 98 #[.slice (some ⟨g, 0, none⟩) n cap, .int .i64 m] w fun e w' => e = .returned (.int .i64 ((m + n * 3 : Nat) : Int)) ∧ RowTo g 109 (n * 3) (markF m) (n * 3) w' ∧ Touch [g] w w' := by
 have HM : Hid (RowTo g 109 (n * 3) (markF m) (0 * 3) w) := h.anew
 clear h
 go_enter Tryz.func98, Tryz.ntmps98
 go_wp2_with fail
 go_loopw [1, 5] (fun x i wr => ∃ (k : Nat) (q : Int), k ≤ n ∧ i = .int .i64 k ∧ x = .int .i64 q ∧ q = ((m + k * 3 : Nat) : Int) ∧ RowTo g 109 (n * 3) (markF m) (k * 3) wr ∧ Touch [g] w wr) (fun _ i _ => n - (intOf i).toNat)
 case atStart => exact ⟨0, m, Nat.zero_le _, rfl, rfl, by simp, HM.out, Touch.refl _ _⟩
 case round =>
  obtain ⟨k, q, hk, rfl, rfl, hq, hR, hT⟩ := hrel
  have HQ : Hid (q = ((m + k * 3 : Nat) : Int)) := hq
  by_cases hlt : k < n
  ·
   have hlt' : (k : Int) < n := by omega
   have q0 : 0 ≤ q := by omega
   have q1 : q ≤ 1000000000 := by omega
   have HT : Hid (Touch [g] w wr) := hT
   have e0 : (markF m (k * 3)) = .int .i64 q := by unfold markF; rw [HQ.out]
   have e1 : (markF m (k * 3 + 1)) = .int .i64 (q + 1) := by unfold markF; rw [HQ.out]; congr 1
   have e2 : (markF m (k * 3 + 1 + 1)) = .int .i64 (q + 1 + 1) := by unfold markF; rw [HQ.out]; congr 1
   have R1 := hR.step (by omega)
   rw [e0] at R1
   have R2 := R1.step (by omega)
   rw [e1] at R2
   have R3 := R2.step (by omega)
   rw [e2] at R3
   obtain ⟨v0, c0⟩ := hR.there (k * 3) (by omega)
   obtain ⟨v1, c1⟩ := R1.there (k * 3 + 1) (by omega)
   obtain ⟨v2, c2⟩ := R2.there (k * 3 + 2) (by omega)
   have f0 := hR.free (k * 3)
   have f1 := R1.free (k * 3 + 1)
   have f2 := R2.free (k * 3 + 2)
   have HR3 : Hid (RowTo g 109 (n * 3) (markF m) (k * 3 + 1 + 1 + 1) _) := R3
   clear hq R1 R2 R3 e0 e1 e2 hR hT
   go_wp2_with fail
   go_roundw
   case rel => exact ⟨k + 1, q + 1 + 1 + 1, by omega, by go_num, by go_num, by rw [HQ.out]; omega, by rw [show (k + 1) * 3 = k * 3 + 1 + 1 + 1 by omega]; exact HR3.out, ((HT.out.set (by simp) _ _).set (by simp) _ _).set (by simp) _ _⟩
   case measure => simp [intOf]; omega
  ·
   obtain rfl : k = n := by omega
   go_wp2_with fail
   go_ret
   exact ⟨ret_int HQ.out, hR, hT⟩
set_option maxHeartbeats 1000000 in
theorem heldEnts_any (g n cap m : Nat) (w : World) (h : RowTo g 109 (n * 3) (markF m) (n * 3) w) (hn : n ≤ 1048576) (hm : m ≤ 100000000) :
  Calls Tryz.prog 102 #[.slice (some ⟨g, 0, none⟩) n cap, .int .i64 m] w fun e w' => e = .returned (.int .i64 ((m + n * 3 : Nat) : Int)) ∧ Below w.heap.size w w' := by
 have HM : Hid (RowTo g 109 (n * 3) (markF m) (n * 3) w) := h
 clear h
 go_enter Tryz.func102, Tryz.ntmps102
 go_wp2_with fail
 go_loopw [1, 5] (fun x i wr => ∃ (k : Nat) (q : Int), k ≤ n ∧ i = .int .i64 k ∧ x = .int .i64 q ∧ q = ((m + k * 3 : Nat) : Int) ∧ Same w wr) (fun _ i _ => n - (intOf i).toNat)
 case atStart => exact ⟨0, m, Nat.zero_le _, rfl, rfl, by simp, Same.refl _⟩
 case round =>
  obtain ⟨k, q, hk, rfl, rfl, hq, hS⟩ := hrel
  have HQ : Hid (q = ((m + k * 3 : Nat) : Int)) := hq
  by_cases hlt : k < n
  ·
   have hlt' : (k : Int) < n := by omega
   have q0 : 0 ≤ q := by omega
   have q1 : q ≤ 1000000000 := by omega
   have HS : Hid (Same w wr) := hS
   have c0 : wr.cell? ⟨g, k * 3, none⟩ = some (.int .i64 q) := by
    rw [hS.cell, HM.out.at _ (by omega)]; unfold markF; rw [HQ.out]
   have c1 : wr.cell? ⟨g, k * 3 + 1, none⟩ = some (.int .i64 (q + 1)) := by
    rw [hS.cell, HM.out.at _ (by omega)]; unfold markF; rw [HQ.out]; congr 2
   have c2 : wr.cell? ⟨g, k * 3 + 2, none⟩ = some (.int .i64 (q + 1 + 1)) := by
    rw [hS.cell, HM.out.at _ (by omega)]; unfold markF; rw [HQ.out]; congr 2
   clear hq hS
   go_wp2_with fail
   go_roundw
   case rel => exact ⟨k + 1, q + 1 + 1 + 1, by omega, by go_num, by go_num, by rw [HQ.out]; omega, HS.out⟩
   case measure => simp [intOf]; omega
  ·
   obtain rfl : k = n := by omega
   go_wp2_with fail
   go_ret
   exact ⟨ret_int HQ.out, hS.below _⟩
theorem markEnts0 (a : Option Addr) (cap m : Nat) (w : World) : Calls Tryz.prog 98 #[.slice a 0 cap, .int .i64 m] w fun e w' => e = .returned (.int .i64 m) ∧ w = w' := by
 go_enter Tryz.func98, Tryz.ntmps98
 go_wp2_with fail
 go_loop [1, 5] (fun x i => x = .int .i64 m ∧ i = .int .i64 0) (fun _ _ => 0)
 case atStart => exact ⟨rfl, rfl⟩
 case round =>
  obtain ⟨rfl, rfl⟩ := hrel
  go_wp2_with fail
  go_ret
  exact ⟨rfl, rfl⟩
theorem heldEnts0 (a : Option Addr) (cap m : Nat) (w : World) : Calls Tryz.prog 102 #[.slice a 0 cap, .int .i64 m] w fun e w' => e = .returned (.int .i64 m) ∧ w = w' := by
 go_enter Tryz.func102, Tryz.ntmps102
 go_wp2_with fail
 go_loop [1, 5] (fun x i => x = .int .i64 m ∧ i = .int .i64 0) (fun _ _ => 0)
 case atStart => exact ⟨rfl, rfl⟩
 case round =>
  obtain ⟨rfl, rfl⟩ := hrel
  go_wp2_with fail
  go_ret
  exact ⟨rfl, rfl⟩
theorem markPks0 (a : Option Addr) (cap m : Nat) (w : World) : Calls Tryz.prog 100 #[.slice a 0 cap, .int .i64 m] w fun e w' => e = .returned (.int .i64 m) ∧ w = w' := by
 go_enter Tryz.func100, Tryz.ntmps100
 go_wp2_with fail
 go_loop [1, 5] (fun x i => x = .int .i64 m ∧ i = .int .i64 0) (fun _ _ => 0)
 case atStart => exact ⟨rfl, rfl⟩
 case round =>
  obtain ⟨rfl, rfl⟩ := hrel
  go_wp2_with fail
  go_ret
  exact ⟨rfl, rfl⟩
theorem heldPks0 (a : Option Addr) (cap m : Nat) (w : World) : Calls Tryz.prog 104 #[.slice a 0 cap, .int .i64 m] w fun e w' => e = .returned (.int .i64 m) ∧ w = w' := by
 go_enter Tryz.func104, Tryz.ntmps104
 go_wp2_with fail
 go_loop [1, 5] (fun x i => x = .int .i64 m ∧ i = .int .i64 0) (fun _ _ => 0)
 case atStart => exact ⟨rfl, rfl⟩
 case round =>
  obtain ⟨rfl, rfl⟩ := hrel
  go_wp2_with fail
  go_ret
  exact ⟨rfl, rfl⟩
theorem markLns0 (a : Option Addr) (cap m : Nat) (w : World) : Calls Tryz.prog 101 #[.slice a 0 cap, .int .i64 m] w fun e w' => e = .returned (.int .i64 m) ∧ w = w' := by
 go_enter Tryz.func101, Tryz.ntmps101
 go_wp2_with fail
 go_loop [1, 5] (fun x i => x = .int .i64 m ∧ i = .int .i64 0) (fun _ _ => 0)
 case atStart => exact ⟨rfl, rfl⟩
 case round =>
  obtain ⟨rfl, rfl⟩ := hrel
  go_wp2_with fail
  go_ret
  exact ⟨rfl, rfl⟩
theorem heldLns0 (a : Option Addr) (cap m : Nat) (w : World) : Calls Tryz.prog 105 #[.slice a 0 cap, .int .i64 m] w fun e w' => e = .returned (.int .i64 m) ∧ w = w' := by
 go_enter Tryz.func105, Tryz.ntmps105
 go_wp2_with fail
 go_loop [1, 5] (fun x i => x = .int .i64 m ∧ i = .int .i64 0) (fun _ _ => 0)
 case atStart => exact ⟨rfl, rfl⟩
 case round =>
  obtain ⟨rfl, rfl⟩ := hrel
  go_wp2_with fail
  go_ret
  exact ⟨rfl, rfl⟩
theorem markVE_any (a : Option Addr) (n cap m base : Nat) (F : Nat → Value) (w : World) (h : VT 109 w base a (n * 3) F) (hn : n ≤ 1048576) (hm : m ≤ 100000000) :
  Calls Tryz.prog 98 #[.slice a n cap, .int .i64 m] w fun e w' => e = .returned (.int .i64 ((m + n * 3 : Nat) : Int)) ∧ VT 109 w' base a (n * 3) (markF m) ∧ Touch (blkV a (n * 3)) w w' := by
 by_cases h0 : n = 0
 ·
  subst h0
  refine (markEnts0 a cap m w).mono ?_
  rintro e w' ⟨rfl, rfl⟩
  exact ⟨by simp, .inl rfl, Touch.refl _ _⟩
 rcases h with h | ⟨g, rfl, hg, hr⟩
 ·
  omega
 ·
  refine (markEnts_any g n cap m _ w hr hn hm).mono ?_
  rintro e w' ⟨rfl, h1, h2⟩
  refine ⟨rfl, .inr ⟨g, rfl, hg, h1⟩, ?_⟩
  unfold blkV
  rw [if_neg (by omega)]
  exact h2
theorem heldVE_any (a : Option Addr) (n cap m base : Nat) (w : World) (h : VT 109 w base a (n * 3) (markF m)) (hn : n ≤ 1048576) (hm : m ≤ 100000000) :
  Calls Tryz.prog 102 #[.slice a n cap, .int .i64 m] w fun e w' => e = .returned (.int .i64 ((m + n * 3 : Nat) : Int)) ∧ Below w.heap.size w w' := by
 by_cases h0 : n = 0
 ·
  subst h0
  refine (heldEnts0 a cap m w).mono ?_
  rintro e w' ⟨rfl, rfl⟩
  exact ⟨by simp, Below.refl _ _⟩
 rcases h with h | ⟨g, rfl, hg, hr⟩
 ·
  omega
 ·
  exact heldEnts_any g n cap m w hr hn hm
theorem markVK_any (a : Option Addr) (n cap m base : Nat) (F : Nat → Value) (w : World) (h : VT 112 w base a (n * 8) F) (hn : n ≤ 1048576) (hm : m ≤ 50000000) :
  Calls Tryz.prog 100 #[.slice a n cap, .int .i64 m] w fun e w' => e = .returned (.int .i64 ((m + n * 8 : Nat) : Int)) ∧ VT 112 w' base a (n * 8) (markK m) ∧ Touch (blkV a (n * 8)) w w' := by
 by_cases h0 : n = 0
 ·
  subst h0
  refine (markPks0 a cap m w).mono ?_
  rintro e w' ⟨rfl, rfl⟩
  exact ⟨by simp, .inl rfl, Touch.refl _ _⟩
 rcases h with h | ⟨g, rfl, hg, hr⟩
 ·
  omega
 ·
  refine (markPks_any g n cap m _ w hr hn hm).mono ?_
  rintro e w' ⟨rfl, h1, h2⟩
  refine ⟨rfl, .inr ⟨g, rfl, hg, h1⟩, ?_⟩
  unfold blkV
  rw [if_neg (by omega)]
  exact h2
theorem heldVK_any (a : Option Addr) (n cap m base : Nat) (w : World) (h : VT 112 w base a (n * 8) (markK m)) (hn : n ≤ 1048576) (hm : m ≤ 50000000) :
  Calls Tryz.prog 104 #[.slice a n cap, .int .i64 m] w fun e w' => e = .returned (.int .i64 ((m + n * 8 : Nat) : Int)) ∧ Below w.heap.size w w' := by
 by_cases h0 : n = 0
 ·
  subst h0
  refine (heldPks0 a cap m w).mono ?_
  rintro e w' ⟨rfl, rfl⟩
  exact ⟨by simp, Below.refl _ _⟩
 rcases h with h | ⟨g, rfl, hg, hr⟩
 ·
  omega
 ·
  exact heldPks_any g n cap m w hr hn hm
def VL (w : World) (base : Nat) (a : Option Addr) (n : Nat) (L : Nat → Lng) : Prop := n = 0 ∨ ∃ g, a = some ⟨g, 0, none⟩ ∧ base ≤ g ∧ Lns w base g n L
def allV (a : Option Addr) (n : Nat) (L : Nat → Lng) : List Nat := blkV a (n * 8) ++ (List.range n).flatMap fun i => (L i).blks
theorem markVL_any (a : Option Addr) (n cap m base : Nat) (L : Nat → Lng) (w : World) (h : VL w base a n L) (hn : n ≤ 1048576) (hm : m ≤ 30000000) (hs : cntL L n ≤ 10000000) (hsm : ∀ i, i < n → (L i).Small) :
  Calls Tryz.prog 101 #[.slice a n cap, .int .i64 m] w fun e w' => e = .returned (.int .i64 ((m + cntL L n : Nat) : Int)) ∧ VL w' base a n (marksG m L n) ∧ Touch (allV a n L) w w' := by
 by_cases h0 : n = 0
 ·
  subst h0
  refine (markLns0 a cap m w).mono ?_
  rintro e w' ⟨rfl, rfl⟩
  exact ⟨rfl, .inl rfl, Touch.refl _ _⟩
 rcases h with h | ⟨g, rfl, hg, hr⟩
 ·
  omega
 ·
  refine (markLns_any g n cap m base L w hr hn hm hs hsm).mono ?_
  rintro e w' ⟨rfl, h1, h2⟩
  refine ⟨rfl, .inr ⟨g, rfl, hg, h1⟩, ?_⟩
  have e : allV (some ⟨g, 0, none⟩) n L = allL g n L := by
   unfold allV allL blkV
   rw [if_neg (by omega)]
   rfl
  rw [e]
  exact h2
theorem heldVL_any (a : Option Addr) (n cap m base : Nat) (L : Nat → Lng) (w : World) (h : VL w base a n (marksG m L n)) (hn : n ≤ 1048576) (hm : m ≤ 30000000) (hs : cntL L n ≤ 10000000) (hsm : ∀ i, i < n → (L i).Small) :
  Calls Tryz.prog 105 #[.slice a n cap, .int .i64 m] w fun e w' => e = .returned (.int .i64 ((m + cntL L n : Nat) : Int)) ∧ w = w' := by
 by_cases h0 : n = 0
 ·
  subst h0
  refine (heldLns0 a cap m w).mono ?_
  rintro e w' ⟨rfl, rfl⟩
  exact ⟨rfl, rfl⟩
 rcases h with h | ⟨g, rfl, hg, hr⟩
 ·
  omega
 ·
  exact heldLns_any g n cap m base L w hr hn hm hs hsm
section
variable {w w' : World} {base g n : Nat} {L : Nat → Lng} {S : List Nat}
theorem VT.farT {t t' : TypeId} {a : Option Addr} {f : Nat → Value} (h : VT t w base a n f) (ht : Touch S w w') (hS : ∀ x ∈ S, ∃ cs, w.heap[x]? = some (.cells cs t' (0, 0))) (hne : t ≠ t') : VT t w' base a n f :=
 h.touchS ht (fun x hx hy => by
  obtain ⟨cs, e1⟩ := h.type x hx
  obtain ⟨cs', e2⟩ := hS x hy
  rw [e1] at e2
  simp at e2
  exact hne e2.2)
theorem OwnLg.farT {l : Lng} {t' : TypeId} (h : OwnLg w base l) (ht : Touch S w w') (hS : ∀ x ∈ S, ∃ cs, w.heap[x]? = some (.cells cs t' (0, 0))) (h2 : 2 ≠ t') (h3 : 25 ≠ t') : OwnLg w' base l := by
 have no : ∀ {a : Option Addr} {n : Nat} {f : Nat → Value} {t : TypeId}, VG t w base a n f → t ≠ t' → VG t w' base a n f := fun hv hne => hv.touchS ht (fun x hx hy => by
  obtain ⟨cs, e1⟩ := hv.type x hx
  obtain ⟨cs', e2⟩ := hS x hy
  rw [e1] at e2
  simp at e2
  exact hne e2.2)
 exact ⟨no h.t h2, no h.u h3, fun i hi => no (h.z i hi) h2, no h.q h2, no h.d h2, no h.s h3, fun i hi => no (h.y i hi) h2, h.nd⟩
theorem Lns.row2 (h : Lns w base g n L) {x : Nat} {cs : Array Value} {t' : TypeId} (hx : w.heap[x]? = some (.cells cs t' (0, 0))) (hne : 118 ≠ t') : g ≠ x := fun e => by
 obtain ⟨arr, e1, _⟩ := h.r
 rw [e, hx] at e1
 simp at e1
 exact hne e1.2.symm
theorem Lns.farT {t' : TypeId} (h : Lns w base g n L) (ht : Touch S w w') (hS : ∀ x ∈ S, ∃ cs, w.heap[x]? = some (.cells cs t' (0, 0))) (h1 : 118 ≠ t') (h2 : 2 ≠ t') (h3 : 25 ≠ t') : Lns w' base g n L :=
 ⟨h.r.keep (ht.block g h.r.lt (fun hx => by obtain ⟨cs, e⟩ := hS g hx; exact h.row2 e h1 rfl)), fun i hi => (h.ls i hi).farT ht hS h2 h3, h.ap⟩
theorem Lns.far2 (h : Lns w base g n L) (ht : Touch S w w') (hS : ∀ x ∈ S, ∃ cs, w.heap[x]? = some (.cells cs 2 (0, 0))) (hd : ∀ i, i < n → ∀ x ∈ (L i).blks, x ∉ S) : Lns w' base g n L :=
 ⟨h.r.keep (ht.block g h.r.lt (fun hx => by obtain ⟨cs, e⟩ := hS g hx; exact h.row2 e (by decide) rfl)), fun i hi => (h.ls i hi).far ht hS (hd i hi), h.ap⟩
end
theorem VL.imp {w w' : World} {base : Nat} {a : Option Addr} {n : Nat} {L L' : Nat → Lng} (h : VL w base a n L) (f : ∀ g, Lns w base g n L → Lns w' base g n L') : VL w' base a n L' := Or.imp id (by rintro ⟨g, ha, hg, hl⟩; exact ⟨g, ha, hg, f g hl⟩) h
def Swg.m1 (S : Swg) (m : Nat) : Nat := m + S.nE * 3
def Swg.m2 (S : Swg) (m : Nat) : Nat := S.m1 m + S.N.nU
def Swg.m3 (S : Swg) (m : Nat) : Nat := S.m2 m + S.N.nP
def Swg.m4 (S : Swg) (m : Nat) : Nat := S.m3 m + S.nK * 8
def Swg.mEnd (S : Swg) (m : Nat) : Nat := S.m4 m + cntL S.L S.nL
structure MkdS (w : World) (base m : Nat) (S : Swg) : Prop where
 e : VT 109 w base S.aE (S.nE * 3) (markF m)
 u : VT 2 w base S.N.aU S.N.nU fun i => .int .i64 ((S.m1 m + i : Nat) : Int)
 p : VT 4 w base S.N.aP S.N.nP fun i => .bool (mb (S.m2 m + i))
 k : VT 112 w base S.aK (S.nK * 8) (markK (S.m3 m))
 l : VL w base S.aL S.nL (marksG (S.m4 m) S.L S.nL)
theorem OwnLg.upL {w w' : World} {base g n : Nat} {L : Nat → Lng} (h : Lns w base g n L) (hb : Below w.heap.size w w') : Lns w' base g n L := ⟨h.r.keep (hb.block _ h.r.lt), fun i hi => (h.ls i hi).up hb, h.ap⟩
theorem MkdS.up {w w' : World} {base m : Nat} {S : Swg} (h : MkdS w base m S) (hb : Below w.heap.size w w') : MkdS w' base m S := ⟨h.e.up hb, h.u.up hb, h.p.up hb, h.k.up hb, h.l.imp (fun g hl => OwnLg.upL hl hb)⟩
def Swg.all (S : Swg) : List Nat := blkV S.aE (S.nE * 3) ++ (blkV S.N.aU S.N.nU ++ (blkV S.N.aP S.N.nP ++ (blkV S.aK (S.nK * 8) ++ allV S.aL S.nL S.L)))
theorem OwnSg.all {w : World} {base : Nat} {S : Swg} (h : OwnSg w base S) : ∀ x ∈ S.all, base ≤ x ∧ x < w.heap.size := by
 intro x hx
 unfold Swg.all allV at hx
 simp only [List.mem_append, List.mem_flatMap, List.mem_range] at hx
 rcases hx with hx | hx | hx | hx | hx | ⟨i, hi, hx⟩
 ·
  exact h.e.blk x hx
 ·
  exact h.u.blk x hx
 ·
  exact h.p.blk x hx
 ·
  exact h.k.blk x hx
 ·
  exact h.l.blk x hx
 ·
  exact (h.ls i hi).blk x hx
theorem OwnSg.vl {w : World} {base : Nat} {S : Swg} (h : OwnSg w base S) : VL w base S.aL S.nL S.L := by
 rcases h.l with h0 | ⟨g, ha, hg, hr⟩
 ·
  exact .inl (by omega)
 ·
  exact .inr ⟨g, ha, hg, hr, h.ls, flat_dis _ (List.nodup_append.1 h.nd).2.1⟩
theorem OwnSg.un {w : World} {base : Nat} {S : Swg} (h : OwnSg w base S) : ∀ i, i < S.nL → ∀ x ∈ (S.L i).blks, x ∉ blkV S.N.aU S.N.nU := fun i hi x hx hy =>
 (List.nodup_append.1 h.nd).2.2 x hy x (by simp only [List.mem_flatMap, List.mem_range]; exact ⟨i, hi, hx⟩) rfl
theorem sumL_add3 (f : Nat → Nat) : ∀ n, sumL (fun i => 3 + f i) n = 3 * n + sumL f n := by
 intro n
 induction n with
 | zero => rfl
 | succ n ih =>
  show sumL (fun i => 3 + f i) n + (3 + f n) = 3 * (n + 1) + (sumL f n + f n)
  rw [ih]
  omega
theorem cnt_le {S : Swg} (h : S.tot ≤ 2000000) : cntL S.L S.nL ≤ 6000000 := by
 unfold Swg.tot at h
 unfold cntL
 rw [sumL_add3]
 omega
theorem markCnt_any (N : Cnt) (m base : Nat) (w : World) (hu : VT 2 w base N.aU N.nU fun i => .int .i64 (N.u i)) (hp : VT 4 w base N.aP N.nP fun i => .bool (N.p i)) (hs : N.Small) (hm : m ≤ 50000000) :
  Calls Tryz.prog 99 #[.agg N.cells, .int .i64 m] w fun e w' => e = .returned (.int .i64 ((m + N.nU + N.nP : Nat) : Int)) ∧ (∃ w1, Touch (blkV N.aU N.nU) w w1 ∧ VT 2 w1 base N.aU N.nU (fun i => .int .i64 ((m + i : Nat) : Int)) ∧ VT 4 w' base N.aP N.nP (fun i => .bool (mb (m + N.nU + i))) ∧ Touch (blkV N.aP N.nP) w1 w' ∧ ∀ x ∈ blkV N.aP N.nP, ∃ cs, w1.heap[x]? = some (.cells cs 4 (0, 0))) := by
 have HU : Hid (VT 2 w base N.aU N.nU fun i => .int .i64 (N.u i)) := hu
 have HP : Hid (VT 4 w base N.aP N.nP fun i => .bool (N.p i)) := hp
 have HS : Hid N.Small := hs
 obtain ⟨W, eW⟩ : ∃ W, w.alloc (.cells N.cells 41) = W := ⟨_, rfl⟩
 have HB : Hid (Below (w.heap.size + 1) (w.alloc (.cells N.cells 41)) W) := by rw [eW]; exact Below.refl _ _
 have c0 : W.cell? ⟨w.heap.size, 0, none⟩ = some (.slice N.aU N.nU N.cU) := boxed HB.out 0
 have hW : Below w.heap.size w W := under HB.out
 have HW : Hid (Below w.heap.size w W) := hW
 have hbx : w.heap.size < W.heap.size := by have := upper HB.out; omega
 clear hu hp hs hW
 go_enter Tryz.func99, Tryz.ntmps99
 go_wp2_with fail
 clear eW c0
 refine (markVInts_any N.aU N.nU N.cU m base _ _ (HU.out.up HW.out) HS.out.u (by omega)).mono ?_
 rintro e w1 ⟨rfl, hv1, ht1⟩
 have hg1 : w.heap.size ∉ blkV N.aU N.nU := fun hx => by have := (HU.out.blk _ hx).2; omega
 have c2 : w1.cell? ⟨w.heap.size, 2, none⟩ = some (.slice N.aP N.nP N.cP) := by
  rw [World.cell?_of_block (w := W) (a := ⟨w.heap.size, 2, none⟩) (ht1.block _ hbx hg1)]
  exact boxed HB.out 2
 have HV1 : Hid (VT 2 w1 base N.aU N.nU (fun i => .int .i64 ((m + i : Nat) : Int)) ∧ Touch (blkV N.aU N.nU) W w1) := ⟨hv1, ht1⟩
 have HP1 : Hid (VT 4 w1 base N.aP N.nP fun i => .bool (N.p i)) := (HP.out.up HW.out).farT ht1 (HU.out.up HW.out).type (by decide)
 clear hv1 ht1 hg1
 go_wp2_with fail
 refine (markVBools_any N.aP N.nP N.cP (m + N.nU) base _ _ HP1.out HS.out.p (by have := HS.out.u; omega)).mono ?_
 rintro e w2 ⟨rfl, hv2, ht2⟩
 have HF : Hid (∃ w1, Touch (blkV N.aU N.nU) w w1 ∧ VT 2 w1 base N.aU N.nU (fun i => .int .i64 ((m + i : Nat) : Int)) ∧ VT 4 w2 base N.aP N.nP (fun i => .bool (mb (m + N.nU + i))) ∧ Touch (blkV N.aP N.nP) w1 w2 ∧ ∀ x ∈ blkV N.aP N.nP, ∃ cs, w1.heap[x]? = some (.cells cs 4 (0, 0))) := ⟨w1, (Touch.ofBelow HW.out).trans HV1.out.2, HV1.out.1, hv2, ht2, HP1.out.type⟩
 clear hv2 ht2 c2
 go_wp2_with fail
 go_ret
 exact ⟨rfl, HF.out⟩
theorem heldCnt_any (N : Cnt) (m base : Nat) (w : World) (hu : VT 2 w base N.aU N.nU fun i => .int .i64 ((m + i : Nat) : Int)) (hp : VT 4 w base N.aP N.nP fun i => .bool (mb (m + N.nU + i))) (hs : N.Small) (hm : m ≤ 50000000) :
  Calls Tryz.prog 103 #[.agg N.cells, .int .i64 m] w fun e w' => e = .returned (.int .i64 ((m + N.nU + N.nP : Nat) : Int)) ∧ Below w.heap.size w w' := by
 have HU : Hid (VT 2 w base N.aU N.nU fun i => .int .i64 ((m + i : Nat) : Int)) := hu
 have HP : Hid (VT 4 w base N.aP N.nP fun i => .bool (mb (m + N.nU + i))) := hp
 have HS : Hid N.Small := hs
 obtain ⟨W, eW⟩ : ∃ W, w.alloc (.cells N.cells 41) = W := ⟨_, rfl⟩
 have HB : Hid (Below (w.heap.size + 1) (w.alloc (.cells N.cells 41)) W) := by rw [eW]; exact Below.refl _ _
 have c0 : W.cell? ⟨w.heap.size, 0, none⟩ = some (.slice N.aU N.nU N.cU) := boxed HB.out 0
 have c2 : W.cell? ⟨w.heap.size, 2, none⟩ = some (.slice N.aP N.nP N.cP) := boxed HB.out 2
 have HW : Hid (Below w.heap.size w W) := under HB.out
 clear hu hp hs
 go_enter Tryz.func103, Tryz.ntmps103
 go_wp2_with fail
 clear eW
 refine (heldVInts_any N.aU N.nU N.cU m base _ (HU.out.up HW.out) HS.out.u (by omega)).mono ?_
 rintro e w1 ⟨rfl, rfl⟩
 go_wp2_with fail
 refine (heldVBools_any N.aP N.nP N.cP (m + N.nU) base _ (HP.out.up HW.out) HS.out.p (by have := HS.out.u; omega)).mono ?_
 rintro e w2 ⟨rfl, rfl⟩
 go_wp2_with fail
 go_ret
 exact ⟨rfl, HW.out⟩
set_option maxHeartbeats 2000000 in
theorem markSw_any (S : Swg) (base : Nat) (w : World) (h : OwnSg w base S) (hs : S.Small) (ht : S.tot ≤ 2000000) :
  Calls Tryz.prog 44 #[.agg S.cells, .int .i64 1] w fun e w' => e = .returned (.int .i64 ((S.mEnd 1 : Nat) : Int)) ∧ MkdS w' base 1 S ∧ Touch S.all w w' := by
 have HO : Hid (OwnSg w base S) := h
 have HS : Hid S.Small := hs
 have HC : Hid (cntL S.L S.nL ≤ 6000000) := cnt_le ht
 have hb : S.nE ≤ 2000000 ∧ S.N.nU ≤ 2000000 ∧ S.N.nP ≤ 2000000 ∧ S.nK ≤ 2000000 := by unfold Swg.tot at ht; omega
 have HN : Hid (S.nE ≤ 2000000 ∧ S.N.nU ≤ 2000000 ∧ S.N.nP ≤ 2000000 ∧ S.nK ≤ 2000000 ∧ S.nE + S.N.nU + S.N.nP + S.nK ≤ 2000000) := by unfold Swg.tot at ht; rw [Hid]; omega
 obtain ⟨W, eW⟩ : ∃ W, w.alloc (.cells S.cells 45) = W := ⟨_, rfl⟩
 have HB : Hid (Below (w.heap.size + 1) (w.alloc (.cells S.cells 45)) W) := by rw [eW]; exact Below.refl _ _
 have HW : Hid (Below w.heap.size w W) := under HB.out
 have HK : Hid (W.heap[w.heap.size]? = some (.cells S.cells 45 (0, 0))) := by rw [← eW]; exact blk_new _ _
 have Hno : Hid (w.heap.size ∉ S.all) := fun hx => by have := (h.all _ hx).2; omega
 have HA : Hid ((∀ x ∈ blkV S.aE (S.nE * 3), x ∈ S.all) ∧ (∀ x ∈ blkV S.N.aU S.N.nU, x ∈ S.all) ∧ (∀ x ∈ blkV S.N.aP S.N.nP, x ∈ S.all) ∧ (∀ x ∈ blkV S.aK (S.nK * 8), x ∈ S.all) ∧ ∀ x ∈ allV S.aL S.nL S.L, x ∈ S.all) := ⟨fun x hx => List.mem_append_left _ hx, fun x hx => List.mem_append_right _ (List.mem_append_left _ hx), fun x hx => List.mem_append_right _ (List.mem_append_right _ (List.mem_append_left _ hx)), fun x hx => List.mem_append_right _ (List.mem_append_right _ (List.mem_append_right _ (List.mem_append_left _ hx))), fun x hx => List.mem_append_right _ (List.mem_append_right _ (List.mem_append_right _ (List.mem_append_right _ hx)))⟩
 have c9 : W.cell? ⟨w.heap.size, 9, none⟩ = some (.slice S.aE S.nE S.cE) := blk_cell HK.out 9
 have Q0 : OwnSg W base S := h.up HW.out
 have HQ0 : Hid (OwnSg W base S) := Q0
 have HL0 : Hid (VL W base S.aL S.nL S.L) := Q0.vl
 clear h hs ht Q0 hb
 go_enter Tryz.func44, Tryz.ntmps44
 go_wp2_with fail
 clear eW c9
 refine (markVE_any S.aE S.nE S.cE 1 base _ _ HQ0.out.e HS.out.e (by omega)).mono ?_
 rintro e w1 ⟨rfl, hv, ht⟩
 rw [show 1 + S.nE * 3 = S.m1 1 from rfl]
 have hty := HQ0.out.e.type
 have HE : Hid (VT 109 w1 base S.aE (S.nE * 3) (markF 1)) := hv
 have HU : Hid (VT 2 w1 base S.N.aU S.N.nU fun i => .int .i64 (S.N.u i)) := HQ0.out.u.farT ht hty (by decide)
 have HP : Hid (VT 4 w1 base S.N.aP S.N.nP fun i => .bool (S.N.p i)) := HQ0.out.p.farT ht hty (by decide)
 have HKk : Hid (VT 112 w1 base S.aK (S.nK * 8) (flatK S.K)) := HQ0.out.k.farT ht hty (by decide)
 replace HL0 : Hid (VL w1 base S.aL S.nL S.L) := HL0.out.imp (fun g hl => hl.farT ht hty (by decide) (by decide) (by decide))
 replace HK : Hid (w1.heap[w.heap.size]? = some (.cells S.cells 45 (0, 0))) := (ht.block _ (blk_lt HK.out) (fun hx => Hno.out (HA.out.1 _ hx))).trans HK.out
 have HT : Hid (Touch S.all w w1) := (Touch.ofBelow HW.out).trans (ht.mono HA.out.1)
 have c10 : w1.cell? ⟨w.heap.size, 10, none⟩ = some (.slice S.N.aU S.N.nU S.N.cU) := blk_cell HK.out 10
 have c11 : w1.cell? ⟨w.heap.size, 11, none⟩ = some (.int .i64 S.N.lo) := blk_cell HK.out 11
 have c12 : w1.cell? ⟨w.heap.size, 12, none⟩ = some (.slice S.N.aP S.N.nP S.N.cP) := blk_cell HK.out 12
 clear hv ht hty
 go_wp2_with fail
 clear c10 c11 c12
 refine (markCnt_any S.N (S.m1 1) base _ HU.out HP.out HS.out.n (by have := HN.out; unfold Swg.m1; omega)).mono ?_
 rintro e w3 ⟨rfl, w2, t1, hv1, hv2, t2, ty4⟩
 rw [show S.m1 1 + S.N.nU + S.N.nP = S.m3 1 from rfl]
 have ty2 := HU.out.type
 have HE3 : Hid (VT 109 w3 base S.aE (S.nE * 3) (markF 1)) := (HE.out.farT t1 ty2 (by decide)).farT t2 ty4 (by decide)
 have HU3 : Hid (VT 2 w3 base S.N.aU S.N.nU fun i => .int .i64 ((S.m1 1 + i : Nat) : Int)) := hv1.farT t2 ty4 (by decide)
 have HP3 : Hid (VT 4 w3 base S.N.aP S.N.nP fun i => .bool (mb (S.m2 1 + i))) := hv2
 have HK3 : Hid (VT 112 w3 base S.aK (S.nK * 8) (flatK S.K)) := (HKk.out.farT t1 ty2 (by decide)).farT t2 ty4 (by decide)
 replace HL0 : Hid (VL w3 base S.aL S.nL S.L) := (HL0.out.imp (fun g hl => hl.far2 t1 ty2 HO.out.un)).imp (fun g hl => hl.farT t2 ty4 (by decide) (by decide) (by decide))
 replace HK : Hid (w3.heap[w.heap.size]? = some (.cells S.cells 45 (0, 0))) := by
  have q1 := (t1.block _ (blk_lt HK.out) (fun hx => Hno.out (HA.out.2.1 _ hx))).trans HK.out
  exact (t2.block _ (blk_lt q1) (fun hx => Hno.out (HA.out.2.2.1 _ hx))).trans q1
 replace HT : Hid (Touch S.all w w3) := (HT.out.trans (t1.mono HA.out.2.1)).trans (t2.mono HA.out.2.2.1)
 have c13 : w3.cell? ⟨w.heap.size, 13, none⟩ = some (.slice S.aK S.nK S.cK) := blk_cell HK.out 13
 clear HE HU HP HKk t1 hv1 hv2 t2 ty4 ty2
 go_wp2_with fail
 clear c13
 refine (markVK_any S.aK S.nK S.cK (S.m3 1) base _ _ HK3.out HS.out.k (by have := HN.out; unfold Swg.m3 Swg.m2 Swg.m1; omega)).mono ?_
 rintro e w4 ⟨rfl, hv, ht⟩
 rw [show S.m3 1 + S.nK * 8 = S.m4 1 from rfl]
 have hty := HK3.out.type
 have HE4 : Hid (VT 109 w4 base S.aE (S.nE * 3) (markF 1)) := HE3.out.farT ht hty (by decide)
 have HU4 : Hid (VT 2 w4 base S.N.aU S.N.nU fun i => .int .i64 ((S.m1 1 + i : Nat) : Int)) := HU3.out.farT ht hty (by decide)
 have HP4 : Hid (VT 4 w4 base S.N.aP S.N.nP fun i => .bool (mb (S.m2 1 + i))) := HP3.out.farT ht hty (by decide)
 have HK4 : Hid (VT 112 w4 base S.aK (S.nK * 8) (markK (S.m3 1))) := hv
 replace HL0 : Hid (VL w4 base S.aL S.nL S.L) := HL0.out.imp (fun g hl => hl.farT ht hty (by decide) (by decide) (by decide))
 replace HK : Hid (w4.heap[w.heap.size]? = some (.cells S.cells 45 (0, 0))) := (ht.block _ (blk_lt HK.out) (fun hx => Hno.out (HA.out.2.2.2.1 _ hx))).trans HK.out
 replace HT : Hid (Touch S.all w w4) := HT.out.trans (ht.mono HA.out.2.2.2.1)
 have c14 : w4.cell? ⟨w.heap.size, 14, none⟩ = some (.slice S.aL S.nL S.cL) := blk_cell HK.out 14
 clear HE3 HU3 HP3 HK3 hv ht hty
 go_wp2_with fail
 clear c14
 refine (markVL_any S.aL S.nL S.cL (S.m4 1) base S.L _ HL0.out HS.out.l (by have := HN.out; unfold Swg.m4 Swg.m3 Swg.m2 Swg.m1; omega) (by have := HC.out; omega) HS.out.ls).mono ?_
 rintro e w5 ⟨rfl, hv, ht⟩
 rw [show S.m4 1 + cntL S.L S.nL = S.mEnd 1 from rfl]
 have HF : Hid (MkdS w5 base 1 S ∧ Touch S.all w w5) := by
  have hne : ∀ {t : TypeId} {a : Option Addr} {n : Nat} {f : Nat → Value}, VT t w4 base a n f → t ≠ 2 → t ≠ 118 → VT t w5 base a n f := fun hx h2 h3 => hx.touchS ht (fun x hx1 hy => by
   obtain ⟨cs, e1⟩ := hx.type x hx1
   rcases HL0.out with h0 | ⟨g, ea, hg, hl⟩
   ·
    rw [h0] at hy; simp [allV, blkV] at hy
   ·
    rcases List.mem_append.1 hy with hy | hy
    ·
     rw [ea] at hy
     rw [blkV_at hy] at e1
     exact hl.row2 e1 (fun e => h3 e.symm) rfl
    ·
     simp only [List.mem_flatMap, List.mem_range] at hy
     obtain ⟨i, hi, hy⟩ := hy
     obtain ⟨cs', e2⟩ := (hl.ls i hi).type2 x hy
     rw [e1] at e2
     simp at e2
     exact h2 e2.2)
  have hu : VT 2 w5 base S.N.aU S.N.nU fun i => .int .i64 ((S.m1 1 + i : Nat) : Int) := HU4.out.touchS ht (fun x hx hy => by
   rcases List.mem_append.1 hy with hy | hy
   ·
    obtain ⟨cs, e1⟩ := HU4.out.type x hx
    rcases HL0.out with h0 | ⟨g, ea, hg, hl⟩
    ·
     rw [h0] at hy; simp [blkV] at hy
    ·
     rw [ea] at hy
     rw [blkV_at hy] at e1
     exact hl.row2 e1 (by decide) rfl
   ·
    simp only [List.mem_flatMap, List.mem_range] at hy
    obtain ⟨i, hi, hy⟩ := hy
    exact HO.out.un i hi x hy hx)
  exact ⟨⟨hne HE4.out (by decide) (by decide), hu, hne HP4.out (by decide) (by decide), hne HK4.out (by decide) (by decide), hv⟩, HT.out.trans (ht.mono HA.out.2.2.2.2)⟩
 clear hv ht
 go_wp2_with fail
 go_ret
 exact ⟨rfl, HF.out⟩
set_option maxHeartbeats 2000000 in
theorem heldSw_any (S : Swg) (base : Nat) (w : World) (h : MkdS w base 1 S) (hs : S.Small) (ht : S.tot ≤ 2000000) :
  Calls Tryz.prog 47 #[.agg S.cells, .int .i64 1] w fun e w' => e = .returned (.int .i64 ((S.mEnd 1 : Nat) : Int)) ∧ Below w.heap.size w w' := by
 have HO : Hid (MkdS w base 1 S) := h
 have HS : Hid S.Small := hs
 have HC : Hid (cntL S.L S.nL ≤ 6000000) := cnt_le ht
 have HN : Hid (S.nE + S.N.nU + S.N.nP + S.nK ≤ 2000000) := by unfold Swg.tot at ht; rw [Hid]; omega
 obtain ⟨W, eW⟩ : ∃ W, w.alloc (.cells S.cells 45) = W := ⟨_, rfl⟩
 have HB : Hid (Below (w.heap.size + 1) (w.alloc (.cells S.cells 45)) W) := by rw [eW]; exact Below.refl _ _
 have c9 : W.cell? ⟨w.heap.size, 9, none⟩ = some (.slice S.aE S.nE S.cE) := boxed HB.out 9
 clear h hs ht
 go_enter Tryz.func47, Tryz.ntmps47
 go_wp2_with fail
 clear eW c9
 refine (heldVE_any S.aE S.nE S.cE 1 base _ (HO.out.e.up (under HB.out)) HS.out.e (by omega)).mono ?_
 rintro e w1 ⟨rfl, hb⟩
 rw [show 1 + S.nE * 3 = S.m1 1 from rfl]
 replace HB : Hid (Below (w.heap.size + 1) (w.alloc (.cells S.cells 45)) w1) := next HB.out hb
 have c10 : w1.cell? ⟨w.heap.size, 10, none⟩ = some (.slice S.N.aU S.N.nU S.N.cU) := boxed HB.out 10
 have c11 : w1.cell? ⟨w.heap.size, 11, none⟩ = some (.int .i64 S.N.lo) := boxed HB.out 11
 have c12 : w1.cell? ⟨w.heap.size, 12, none⟩ = some (.slice S.N.aP S.N.nP S.N.cP) := boxed HB.out 12
 clear hb
 go_wp2_with fail
 clear c10 c11 c12
 refine (heldCnt_any S.N (S.m1 1) base _ (HO.out.u.up (under HB.out)) (HO.out.p.up (under HB.out)) HS.out.n (by have := HN.out; unfold Swg.m1; omega)).mono ?_
 rintro e w2 ⟨rfl, hb⟩
 rw [show S.m1 1 + S.N.nU + S.N.nP = S.m3 1 from rfl]
 replace HB : Hid (Below (w.heap.size + 1) (w.alloc (.cells S.cells 45)) w2) := next HB.out hb
 have c13 : w2.cell? ⟨w.heap.size, 13, none⟩ = some (.slice S.aK S.nK S.cK) := boxed HB.out 13
 clear hb
 go_wp2_with fail
 clear c13
 refine (heldVK_any S.aK S.nK S.cK (S.m3 1) base _ (HO.out.k.up (under HB.out)) HS.out.k (by have := HN.out; unfold Swg.m3 Swg.m2 Swg.m1; omega)).mono ?_
 rintro e w3 ⟨rfl, hb⟩
 rw [show S.m3 1 + S.nK * 8 = S.m4 1 from rfl]
 replace HB : Hid (Below (w.heap.size + 1) (w.alloc (.cells S.cells 45)) w3) := next HB.out hb
 have c14 : w3.cell? ⟨w.heap.size, 14, none⟩ = some (.slice S.aL S.nL S.cL) := boxed HB.out 14
 clear hb
 go_wp2_with fail
 clear c14
 refine (heldVL_any S.aL S.nL S.cL (S.m4 1) base S.L _ ((HO.out.up (under HB.out)).l) HS.out.l (by have := HN.out; unfold Swg.m4 Swg.m3 Swg.m2 Swg.m1; omega) (by have := HC.out; omega) HS.out.ls).mono ?_
 rintro e w4 ⟨rfl, rfl⟩
 rw [show S.m4 1 + cntL S.L S.nL = S.mEnd 1 from rfl]
 have B9 := under HB.out
 go_wp2_with fail
 go_ret
 exact ⟨rfl, B9⟩
end Go.Proofs.YtfkpncopkgidfaaGreat
