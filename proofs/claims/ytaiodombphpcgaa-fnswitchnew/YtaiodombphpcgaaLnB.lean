/- Lanes that own what they hold: what a store, a mark and a call leave of them. -/
import Derived.Test.YtaiodombphpcgaaLnA
namespace Go.Proofs.Ytaiodombphpcgaa
open Go.RowKit
set_option linter.unusedVariables false
set_option linter.unusedSimpArgs false

theorem RowTo.put {g n i : Nat} {t : TypeId} {f : Nat → Value} {w : World} (h : RowTo g t n f n w) (v : Value) : RowTo g t n (fun j => if j = i then v else f j) n (w.setCell ⟨g, i, none⟩ v) := by
  obtain ⟨arr, hb, hn, hc⟩ := h
  refine ⟨_, blk_set hb _, by simpa using hn, fun j hj => ?_⟩
  dsimp only
  by_cases e : j = i
  · subst e
    rw [if_pos rfl, Array.getElem?_setIfInBounds_self_of_lt (by omega)]
  · rw [if_neg e, Array.getElem?_setIfInBounds_ne (by omega)]
    exact hc j hj
theorem OwnRn.off {w w' : World} {base : Nat} {R : Rnd} {S : List Nat} (h : OwnRn w base R) (hl : ∀ j, R.L j = 0) (ht : Touch S w w') (hq : ∀ x ∈ blkI R.aQ R.nQ, x ∉ S) (hd : ∀ x ∈ blkI R.aD R.nD, x ∉ S)
    (hS : ∀ g arr, w.heap[g]? = some (.cells arr 28 (0, 0)) → g ∉ S) : OwnRn w' base R :=
  ⟨h.q.touchS ht hq, h.d.touchS ht hd, h.s.touchI ht hS, fun i hi => .inl (hl i), h.qd, h.qz, h.dz, h.zz⟩
/-- n lanes in the row at g; what each holds lies from b i up to b (i + 1) -/
structure Lanes (w : World) (n : Nat) (b : Nat → Nat) (g : Nat) (L : Nat → Ln) : Prop where
  row : RowTo g 51 (n * 8) (flatL L) (n * 8) w
  own : ∀ i, i < n → OwnRn w (b i) (L i).R
  sh : ∀ i, i < n → (L i).R.nQ = 2 ∧ (L i).R.nD = 2 ∧ (L i).R.nS = 2 ∧ ∀ j, (L i).R.L j = 0
  u : ∀ i, i < n → VS w (b i) (L i).aU 2 fun _ => .slice none 0 0
  hq : ∀ i, i < n → ∀ x ∈ blkI (L i).R.aQ (L i).R.nQ, x < b (i + 1)
  hd : ∀ i, i < n → ∀ x ∈ blkI (L i).R.aD (L i).R.nD, x < b (i + 1)
  bm : ∀ i, i < n → b i ≤ b (i + 1)
  gb : b 0 ≤ g
theorem Lanes.mono {w : World} {n : Nat} {b : Nat → Nat} {g : Nat} {L : Nat → Ln} (h : Lanes w n b g L) {i j : Nat} (hij : i ≤ j) (hj : j ≤ n) : b i ≤ b j := by
  induction j with
  | zero => obtain rfl : i = 0 := by omega
            exact Nat.le_refl _
  | succ j ih =>
    by_cases e : i = j + 1
    · subst e; exact Nat.le_refl _
    · exact Nat.le_trans (ih (by omega) (by omega)) (h.bm j (by omega))
/-- where a lane's numbers lie -/
def Ln.blks (l : Ln) : List Nat := blkI l.R.aQ l.R.nQ ++ blkI l.R.aD l.R.nD
theorem Lanes.blk {w : World} {n : Nat} {b : Nat → Nat} {g : Nat} {L : Nat → Ln} (h : Lanes w n b g L) {i : Nat} (hi : i < n) : ∀ x ∈ (L i).blks, b i ≤ x ∧ x < b (i + 1) := by
  intro x hx
  rcases List.mem_append.1 hx with hx | hx
  · exact ⟨((h.own i hi).q.blk x hx).1, h.hq i hi x hx⟩
  · exact ⟨((h.own i hi).d.blk x hx).1, h.hd i hi x hx⟩
theorem Lanes.apart {w : World} {n : Nat} {b : Nat → Nat} {g : Nat} {L : Nat → Ln} (h : Lanes w n b g L) {i k : Nat} (hi : i < n) (hk : k < n) (hne : i ≠ k) : ∀ x ∈ (L i).blks, x ∉ (L k).blks := by
  intro x hx hy
  have h1 := h.blk hi x hx
  have h2 := h.blk hk x hy
  by_cases e : i < k
  · have := h.mono (i := i + 1) (j := k) (by omega) (by omega)
    omega
  · have := h.mono (i := k + 1) (j := i) (by omega) (by omega)
    omega
theorem Lanes.notRow {w : World} {n : Nat} {b : Nat → Nat} {g : Nat} {L : Nat → Ln} (h : Lanes w n b g L) {i : Nat} (hi : i < n) : g ∉ (L i).blks := by
  obtain ⟨arr, hb, _⟩ := h.row
  intro hx
  rcases List.mem_append.1 hx with hx | hx
  · exact notInI (h.own i hi).q (by decide) hb hx
  · exact notInI (h.own i hi).d (by decide) hb hx
theorem Lanes.notS {w : World} {n : Nat} {b : Nat → Nat} {g : Nat} {L : Nat → Ln} (h : Lanes w n b g L) {i : Nat} (hi : i < n) {x : Nat} {arr : Array Value} (hb : w.heap[x]? = some (.cells arr 28 (0, 0))) : x ∉ (L i).blks := by
  intro hx
  rcases List.mem_append.1 hx with hx | hx
  · exact notInI (h.own i hi).q (by decide) hb hx
  · exact notInI (h.own i hi).d (by decide) hb hx
theorem Lanes.touch {w w' : World} {n : Nat} {b : Nat → Nat} {g : Nat} {L : Nat → Ln} {S : List Nat} (h : Lanes w n b g L) (ht : Touch S w w') (hg : g ∉ S) (hB : ∀ i, i < n → ∀ x ∈ (L i).blks, x ∉ S)
    (hS : ∀ g arr, w.heap[g]? = some (.cells arr 28 (0, 0)) → g ∉ S) : Lanes w' n b g L :=
  ⟨h.row.keep (ht.block g h.row.lt hg), fun i hi => (h.own i hi).off (h.sh i hi).2.2.2 ht (fun x hx => hB i hi x (List.mem_append_left _ hx)) (fun x hx => hB i hi x (List.mem_append_right _ hx)) hS, h.sh, fun i hi => (h.u i hi).touchI ht hS, h.hq, h.hd, h.bm, h.gb⟩
theorem Lanes.touchLo {w w' : World} {n : Nat} {b : Nat → Nat} {g : Nat} {L : Nat → Ln} {S : List Nat} (h : Lanes w n b g L) (ht : Touch S w w') (hS : ∀ x ∈ S, x < b 0) : Lanes w' n b g L :=
  have hb : ∀ i, i < n → ∀ x ∈ S, x < b i := fun i hi x hx => by
    have := hS x hx
    have := h.mono (i := 0) (j := i) (by omega) (by omega)
    omega
  ⟨h.row.keep (ht.block g h.row.lt (fun hx => by have := hS g hx; have := h.gb; omega)), fun i hi => (h.own i hi).touch ht (hb i hi), h.sh, fun i hi => (h.u i hi).imp id (by
    rintro ⟨g', ha, hg, hr⟩
    exact ⟨g', ha, hg, hr.keep (ht.block g' hr.lt (fun hx => by have := hb i hi g' hx; omega))⟩), h.hq, h.hd, h.bm, h.gb⟩
theorem Lanes.up {w w' : World} {n : Nat} {b : Nat → Nat} {g : Nat} {L : Nat → Ln} (h : Lanes w n b g L) (hb : Below w.heap.size w w') : Lanes w' n b g L :=
  h.touch (S := []) (Touch.ofBelow hb) (by simp) (fun _ _ _ _ => by simp) (fun _ _ _ => by simp)
def upd (L : Nat → Ln) (k : Nat) (l : Ln) (i : Nat) : Ln := if i = k then l else L i
theorem upd_self (L : Nat → Ln) (k : Nat) (l : Ln) : upd L k l k = l := if_pos rfl
theorem upd_ne (L : Nat → Ln) (k : Nat) (l : Ln) {i : Nat} (h : i ≠ k) : upd L k l i = L i := if_neg h
theorem upd_all {L : Nat → Ln} {k : Nat} {l : Ln} {n : Nat} {p : Nat → Ln → Prop} (h : ∀ i, i < n → i ≠ k → p i (L i)) (hk : p k l) : ∀ i, i < n → p i (upd L k l i) := by
  intro i hi
  by_cases e : i = k
  · subst e; rw [upd_self]; exact hk
  · rw [upd_ne _ _ _ e]; exact h i hi e
theorem flat_set {L : Nat → Ln} {k jj : Nat} {l' : Ln} {v : Value} (hj : jj < 8) (hv : l'.cells[jj]? = some v) (ho : ∀ r, r < 8 → r ≠ jj → l'.cells[r]? = (L k).cells[r]?) (j : Nat) : (if j = k * 8 + jj then v else flatL L j) = flatL (upd L k l') j := by
  have hr : j % 8 < 8 := Nat.mod_lt _ (by omega)
  unfold flatL
  by_cases e : j = k * 8 + jj
  · rw [if_pos e, show j / 8 = k by omega, show j % 8 = jj by omega, upd_self, hv]; rfl
  · rw [if_neg e]
    by_cases e2 : j / 8 = k
    · rw [e2, upd_self, ho _ hr (by omega)]
    · rw [upd_ne _ _ _ e2]
theorem flat_same {L : Nat → Ln} {k : Nat} {l' : Ln} (ho : l'.cells = (L k).cells) (j : Nat) : flatL L j = flatL (upd L k l') j := by
  unfold flatL
  by_cases e2 : j / 8 = k
  · rw [e2, upd_self, ho]
  · rw [upd_ne _ _ _ e2]
/-- a store into a lane's flag or number -/
theorem Lanes.set {w : World} {n : Nat} {b : Nat → Nat} {g : Nat} {L : Nat → Ln} (h : Lanes w n b g L) {k jj : Nat} (hk : k < n) (hj : jj < 8) (v : Value) (l' : Ln) (hv : l'.cells[jj]? = some v) (ho : ∀ r, r < 8 → r ≠ jj → l'.cells[r]? = (L k).cells[r]?)
    (hR : ∀ w0 base, OwnRn w0 base (L k).R → OwnRn w0 base l'.R) (hU : l'.aU = (L k).aU) (e1 : l'.R.aQ = (L k).R.aQ) (e2 : l'.R.nQ = (L k).R.nQ) (e3 : l'.R.aD = (L k).R.aD) (e4 : l'.R.nD = (L k).R.nD) (e5 : l'.R.nS = (L k).R.nS) (e6 : l'.R.L = (L k).R.L) :
    Lanes (w.setCell ⟨g, k * 8 + jj, none⟩ v) n b g (upd L k l') := by
  have ht : Touch [g] w (w.setCell ⟨g, k * 8 + jj, none⟩ v) := (Touch.refl _ _).set (by simp) _ _
  obtain ⟨arr, hb, _⟩ := h.row
  have hS : ∀ g' arr', w.heap[g']? = some (.cells arr' 28 (0, 0)) → g' ∉ [g] := by
    intro g' arr' hg' hm
    simp at hm
    subst hm
    rw [hb] at hg'
    simp at hg'
  have hO : ∀ i, i < n → OwnRn (w.setCell ⟨g, k * 8 + jj, none⟩ v) (b i) (L i).R := fun i hi => (h.own i hi).off (h.sh i hi).2.2.2 ht (fun x hx hm => by
      simp at hm; subst hm; exact h.notRow hi (List.mem_append_left _ hx)) (fun x hx hm => by
      simp at hm; subst hm; exact h.notRow hi (List.mem_append_right _ hx)) hS
  refine ⟨(h.row.put v).ext (fun j _ => flat_set hj hv ho j), upd_all (p := fun i l => OwnRn _ (b i) l.R) (fun i hi _ => hO i hi) (hR _ _ (hO k hk)), upd_all (p := fun i l => l.R.nQ = 2 ∧ l.R.nD = 2 ∧ l.R.nS = 2 ∧ ∀ j, l.R.L j = 0) (fun i hi _ => h.sh i hi) (by rw [e2, e4, e5, e6]; exact h.sh k hk),
    upd_all (p := fun i l => VS _ (b i) l.aU 2 fun _ => .slice none 0 0) (fun i hi _ => (h.u i hi).touchI ht hS) (by rw [hU]; exact (h.u k hk).touchI ht hS), upd_all (p := fun i l => ∀ x ∈ blkI l.R.aQ l.R.nQ, x < b (i + 1)) (fun i hi _ => h.hq i hi) (by rw [e1, e2]; exact h.hq k hk), upd_all (p := fun i l => ∀ x ∈ blkI l.R.aD l.R.nD, x < b (i + 1)) (fun i hi _ => h.hd i hi) (by rw [e3, e4]; exact h.hd k hk), h.bm, h.gb⟩
theorem Lanes.stop {w : World} {n : Nat} {b : Nat → Nat} {g : Nat} {L : Nat → Ln} (h : Lanes w n b g L) {k : Nat} (hk : k < n) (s : Bool) : Lanes (w.setCell ⟨g, k * 8, none⟩ (.bool s)) n b g (upd L k { L k with st := s }) :=
  h.set (jj := 0) hk (by omega) (.bool s) { L k with st := s } rfl (fun r h8 hr => by
    match r, h8, hr with
    | 0, _, hr => omega
    | 1, _, _ => rfl
    | 2, _, _ => rfl
    | 3, _, _ => rfl
    | 4, _, _ => rfl
    | 5, _, _ => rfl
    | 6, _, _ => rfl
    | 7, _, _ => rfl
    | r + 8, h8, _ => omega) (fun _ _ h => h) rfl rfl rfl rfl rfl rfl rfl
theorem Lanes.turn {w : World} {n : Nat} {b : Nat → Nat} {g : Nat} {L : Nat → Ln} (h : Lanes w n b g L) {k : Nat} (hk : k < n) (s : Int) : Lanes (w.setCell ⟨g, k * 8 + 5, none⟩ (.int .i64 s)) n b g (upd L k { L k with R := { (L k).R with turn := s } }) :=
  h.set (jj := 5) hk (by omega) (.int .i64 s) { L k with R := { (L k).R with turn := s } } rfl (fun r h8 hr => by
    match r, h8, hr with
    | 0, _, _ => rfl
    | 1, _, _ => rfl
    | 2, _, _ => rfl
    | 3, _, _ => rfl
    | 4, _, _ => rfl
    | 5, _, hr => omega
    | 6, _, _ => rfl
    | 7, _, _ => rfl
    | r + 8, h8, _ => omega) (fun _ _ h => ⟨h.q, h.d, h.s, h.z, h.qd, h.qz, h.dz, h.zz⟩) rfl rfl rfl rfl rfl rfl rfl
theorem Lanes.fresh {w : World} {n : Nat} {b : Nat → Nat} {g : Nat} {L : Nat → Ln} (h : Lanes w n b g L) {k : Nat} (hk : k < n) (s : Bool) : Lanes (w.setCell ⟨g, k * 8 + 6, none⟩ (.bool s)) n b g (upd L k { L k with R := { (L k).R with fresh := s } }) :=
  h.set (jj := 6) hk (by omega) (.bool s) { L k with R := { (L k).R with fresh := s } } rfl (fun r h8 hr => by
    match r, h8, hr with
    | 0, _, _ => rfl
    | 1, _, _ => rfl
    | 2, _, _ => rfl
    | 3, _, _ => rfl
    | 4, _, _ => rfl
    | 5, _, _ => rfl
    | 6, _, hr => omega
    | 7, _, _ => rfl
    | r + 8, h8, _ => omega) (fun _ _ h => ⟨h.q, h.d, h.s, h.z, h.qd, h.qz, h.dz, h.zz⟩) rfl rfl rfl rfl rfl rfl rfl
theorem Lanes.markQ {w w' : World} {n : Nat} {b : Nat → Nat} {g : Nat} {L : Nat → Ln} (h : Lanes w n b g L) {k : Nat} (hk : k < n) {f : Nat → Int} (hv : VI w' (b k) (L k).R.aQ (L k).R.nQ f) (ht : Touch (blkI (L k).R.aQ (L k).R.nQ) w w') :
    Lanes w' n b g (upd L k { L k with R := { (L k).R with q := f } }) :=
  have hg : g ∉ blkI (L k).R.aQ (L k).R.nQ := fun hx => h.notRow hk (List.mem_append_left _ hx)
  have hS : ∀ x arr, w.heap[x]? = some (.cells arr 28 (0, 0)) → x ∉ blkI (L k).R.aQ (L k).R.nQ := fun x arr hb hx => h.notS hk hb (List.mem_append_left _ hx)
  ⟨(h.row.keep (ht.block g h.row.lt hg)).ext (fun j _ => flat_same (l' := { L k with R := { (L k).R with q := f } }) rfl j), upd_all (p := fun i l => OwnRn w' (b i) l.R) (fun i hi hne => (h.own i hi).off (h.sh i hi).2.2.2 ht (fun x hx hm => h.apart hi hk hne x (List.mem_append_left _ hx) (List.mem_append_left _ hm)) (fun x hx hm => h.apart hi hk hne x (List.mem_append_right _ hx) (List.mem_append_left _ hm)) hS) ((h.own k hk).marksQ hv ht),
    upd_all (p := fun i l => l.R.nQ = 2 ∧ l.R.nD = 2 ∧ l.R.nS = 2 ∧ ∀ j, l.R.L j = 0) (fun i hi _ => h.sh i hi) (h.sh k hk), upd_all (p := fun i l => VS w' (b i) l.aU 2 fun _ => .slice none 0 0) (fun i hi _ => (h.u i hi).touchI ht hS) ((h.u k hk).touchI ht hS), upd_all (p := fun i l => ∀ x ∈ blkI l.R.aQ l.R.nQ, x < b (i + 1)) (fun i hi _ => h.hq i hi) (h.hq k hk), upd_all (p := fun i l => ∀ x ∈ blkI l.R.aD l.R.nD, x < b (i + 1)) (fun i hi _ => h.hd i hi) (h.hd k hk), h.bm, h.gb⟩
theorem Lanes.markD {w w' : World} {n : Nat} {b : Nat → Nat} {g : Nat} {L : Nat → Ln} (h : Lanes w n b g L) {k : Nat} (hk : k < n) {f : Nat → Int} (hv : VI w' (b k) (L k).R.aD (L k).R.nD f) (ht : Touch (blkI (L k).R.aD (L k).R.nD) w w') :
    Lanes w' n b g (upd L k { L k with R := { (L k).R with d := f } }) :=
  have hg : g ∉ blkI (L k).R.aD (L k).R.nD := fun hx => h.notRow hk (List.mem_append_right _ hx)
  have hS : ∀ x arr, w.heap[x]? = some (.cells arr 28 (0, 0)) → x ∉ blkI (L k).R.aD (L k).R.nD := fun x arr hb hx => h.notS hk hb (List.mem_append_right _ hx)
  ⟨(h.row.keep (ht.block g h.row.lt hg)).ext (fun j _ => flat_same (l' := { L k with R := { (L k).R with d := f } }) rfl j), upd_all (p := fun i l => OwnRn w' (b i) l.R) (fun i hi hne => (h.own i hi).off (h.sh i hi).2.2.2 ht (fun x hx hm => h.apart hi hk hne x (List.mem_append_left _ hx) (List.mem_append_right _ hm)) (fun x hx hm => h.apart hi hk hne x (List.mem_append_right _ hx) (List.mem_append_right _ hm)) hS) ((h.own k hk).marksD hv ht),
    upd_all (p := fun i l => l.R.nQ = 2 ∧ l.R.nD = 2 ∧ l.R.nS = 2 ∧ ∀ j, l.R.L j = 0) (fun i hi _ => h.sh i hi) (h.sh k hk), upd_all (p := fun i l => VS w' (b i) l.aU 2 fun _ => .slice none 0 0) (fun i hi _ => (h.u i hi).touchI ht hS) ((h.u k hk).touchI ht hS), upd_all (p := fun i l => ∀ x ∈ blkI l.R.aQ l.R.nQ, x < b (i + 1)) (fun i hi _ => h.hq i hi) (h.hq k hk), upd_all (p := fun i l => ∀ x ∈ blkI l.R.aD l.R.nD, x < b (i + 1)) (fun i hi _ => h.hd i hi) (h.hd k hk), h.bm, h.gb⟩
theorem Lanes.cell {w : World} {n : Nat} {b : Nat → Nat} {g : Nat} {L : Nat → Ln} (h : Lanes w n b g L) {k : Nat} (hk : k < n) (j : Nat) (hj : j < 8) : w.cell? ⟨g, k * 8 + j, none⟩ = (L k).cells[j]? := by
  rw [h.row.at (k * 8 + j) (by omega), flatL_at L k j hj]
end Go.Proofs.Ytaiodombphpcgaa
