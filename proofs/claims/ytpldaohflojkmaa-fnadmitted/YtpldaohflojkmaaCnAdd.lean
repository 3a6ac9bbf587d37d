/- What is asked of a change of counts; the limits' changes. -/
import Derived.Test.YtpldaohflojkmaaCnCp
import Derived.Test.YtpldaohflojkmaaCnF
namespace Go.Proofs.Ytpldaohflojkmaa
open Go.RowKit
set_option linter.unusedVariables false
set_option linter.unusedSimpArgs false

structure formP (C : Cfg) (N : Cnt) (port prio cells : Int) : Prop where
  ok : Cnt.Ok C N
  port : 0 ≤ port ∧ port ≤ C.p - 1
  prio : 0 ≤ prio ∧ prio ≤ 2
  cells : 1 ≤ cells ∧ cells ≤ 5
theorem isSizeC_any (n : Int) (w : World) :
    Calls Try.prog 43 #[.int .i64 n] w fun e w' => e = .returned (.bool (decide (1 ≤ n ∧ n ≤ 5))) ∧ w' = w := by
  by_cases h1 : 1 ≤ n
  · go_enter Try.func43, Try.ntmps43
    go_wp2
    go_ret
    exact ⟨by simp [h1], rfl⟩
  · go_enter Try.func43, Try.ntmps43
    go_wp2
    go_ret
    exact ⟨by simp; omega, rfl⟩
set_option maxHeartbeats 2000000 in
theorem sForm_any (C : Cfg) (N : Cnt) (port prio cells : Int) (w : World) (hf : N.Fit) (h : RdCnt w N) (ok : Bool) (hok : ok = true ↔ formP C N port prio cells) :
    Calls Try.prog 27 #[.agg C.cells, .agg N.cells, .int .i64 port, .int .i64 prio, .int .i64 cells] w fun e w' => e = .returned (.bool ok) ∧ Below w.heap.size w w' := by
  obtain ⟨b, hb⟩ := ok_decC (Cnt.Ok C N)
  have HO : Hid (ok = true ↔ formP C N port prio cells) := hok
  have HR : Hid (RdCnt w N) := h
  have HF : Hid N.Fit := hf
  have HCb : Hid (b = true ↔ Cnt.Ok C N) := hb
  have HB0 : Hid (Below (w.heap.size + 2) ((w.alloc (.cells #[.int .i64 C.p, .int .i64 C.c, .int .i64 C.xo, .int .i64 C.xn, .int .i64 C.hd, .int .i64 C.lo, .int .i64 C.dl] 25)).alloc (.cells #[.slice N.aU N.nU N.cU, .int .i64 N.lo, .slice N.aP N.nP N.cP] 29)) ((w.alloc (.cells #[.int .i64 C.p, .int .i64 C.c, .int .i64 C.xo, .int .i64 C.xn, .int .i64 C.hd, .int .i64 C.lo, .int .i64 C.dl] 25)).alloc (.cells #[.slice N.aU N.nU N.cU, .int .i64 N.lo, .slice N.aP N.nP N.cP] 29))) := Below.refl _ _
  clear hok h hf hb
  unfold Cfg.cells Cnt.cells
  go_enter Try.func27, Try.ntmps27
  go_wp2_with fail
  refine (sCountsOk_any C N _ HF.out (HR.out.up (under2 HB0.out)) b HCb.out).mono ?_
  rintro e w1 ⟨rfl, hb1⟩
  have hB := next2 HB0.out hb1
  have cb := (boxed2 hB).1
  have cn := (boxed2 hB).2
  clear hb1
  cases b
  · have HE : Hid (ok = false) := by
      show ok = false
      rw [Bool.eq_false_iff]
      intro e
      have := HCb.out.2 (HO.out.1 e).ok
      cases this
    have B := under2 hB
    go_wp2_with fail
    go_ret
    exact ⟨ret_bool HE.out.symm, B⟩
  have HC : Hid (Cnt.Ok C N) := HCb.out.1 rfl
  clear HCb
  have hp1 : 2 ≤ C.p := HC.out.c.num.p.1
  have hp2 : C.p ≤ 4 := HC.out.c.num.p.2
  go_wp2_with fail
  refine (l1In_any _ _ _ _).mono ?_
  rintro e w' ⟨rfl, hw⟩
  rw [hw]
  clear hw w'
  by_cases h_port : 0 ≤ port ∧ port ≤ C.p - 1
  rotate_left
  · have HE : Hid (ok = false) := by
      show ok = false
      rw [Bool.eq_false_iff]
      intro e
      exact h_port (HO.out.1 e).port
    have B := under2 hB
    rw [decide_eq_false h_port]
    clear h_port
    go_wp2_with fail
    go_ret
    exact ⟨ret_bool HE.out.symm, B⟩
  rw [decide_eq_true h_port]
  have H_port : Hid (0 ≤ port ∧ port ≤ C.p - 1) := h_port
  clear h_port
  go_wp2_with fail
  refine (l1In_any _ _ _ _).mono ?_
  rintro e w' ⟨rfl, hw⟩
  rw [hw]
  clear hw w'
  by_cases h_prio : 0 ≤ prio ∧ prio ≤ 2
  rotate_left
  · have HE : Hid (ok = false) := by
      show ok = false
      rw [Bool.eq_false_iff]
      intro e
      exact h_prio (HO.out.1 e).prio
    have B := under2 hB
    rw [decide_eq_false h_prio]
    clear h_prio
    go_wp2_with fail
    go_ret
    exact ⟨ret_bool HE.out.symm, B⟩
  rw [decide_eq_true h_prio]
  have H_prio : Hid (0 ≤ prio ∧ prio ≤ 2) := h_prio
  clear h_prio
  go_wp2_with fail
  refine (l1In_any _ _ _ _).mono ?_
  rintro e w' ⟨rfl, hw⟩
  rw [hw]
  clear hw w'
  by_cases h_cells : 1 ≤ cells ∧ cells ≤ 5
  rotate_left
  · have HE : Hid (ok = false) := by
      show ok = false
      rw [Bool.eq_false_iff]
      intro e
      exact h_cells (HO.out.1 e).cells
    have B := under2 hB
    rw [decide_eq_false h_cells]
    clear h_cells
    go_wp2_with fail
    go_ret
    exact ⟨ret_bool HE.out.symm, B⟩
  rw [decide_eq_true h_cells]
  have H_cells : Hid (1 ≤ cells ∧ cells ≤ 5) := h_cells
  clear h_cells
  have HT : Hid (ok = true) := HO.out.2 ⟨HC.out, H_port.out, H_prio.out, H_cells.out⟩
  have B := under2 hB
  go_wp2_with fail
  go_ret
  exact ⟨ret_bool HT.out.symm, B⟩
set_option maxHeartbeats 2000000 in
theorem iForm_any (C : Cfg) (N : Cnt) (port prio cells : Int) (w : World) (hf : N.Fit) (h : RdCnt w N) (ok : Bool) (hok : ok = true ↔ formP C N port prio cells) :
    Calls Try.prog 24 #[.agg C.cells, .agg N.cells, .int .i64 port, .int .i64 prio, .int .i64 cells] w fun e w' => e = .returned (.bool ok) ∧ Below w.heap.size w w' := by
  obtain ⟨b, hb⟩ := ok_decC (Cnt.Ok C N)
  have HO : Hid (ok = true ↔ formP C N port prio cells) := hok
  have HR : Hid (RdCnt w N) := h
  have HF : Hid N.Fit := hf
  have HCb : Hid (b = true ↔ Cnt.Ok C N) := hb
  have HB0 : Hid (Below (w.heap.size + 2) ((w.alloc (.cells #[.int .i64 C.p, .int .i64 C.c, .int .i64 C.xo, .int .i64 C.xn, .int .i64 C.hd, .int .i64 C.lo, .int .i64 C.dl] 25)).alloc (.cells #[.slice N.aU N.nU N.cU, .int .i64 N.lo, .slice N.aP N.nP N.cP] 29)) ((w.alloc (.cells #[.int .i64 C.p, .int .i64 C.c, .int .i64 C.xo, .int .i64 C.xn, .int .i64 C.hd, .int .i64 C.lo, .int .i64 C.dl] 25)).alloc (.cells #[.slice N.aU N.nU N.cU, .int .i64 N.lo, .slice N.aP N.nP N.cP] 29))) := Below.refl _ _
  clear hok h hf hb
  unfold Cfg.cells Cnt.cells
  go_enter Try.func24, Try.ntmps24
  go_wp2_with fail
  refine (iCountsOk_any C N _ HF.out (HR.out.up (under2 HB0.out)) b HCb.out).mono ?_
  rintro e w1 ⟨rfl, hb1⟩
  have hB := next2 HB0.out hb1
  have cb := (boxed2 hB).1
  have cn := (boxed2 hB).2
  clear hb1
  cases b
  · have HE : Hid (ok = false) := by
      show ok = false
      rw [Bool.eq_false_iff]
      intro e
      have := HCb.out.2 (HO.out.1 e).ok
      cases this
    have B := under2 hB
    go_wp2_with fail
    go_ret
    exact ⟨ret_bool HE.out.symm, B⟩
  have HC : Hid (Cnt.Ok C N) := HCb.out.1 rfl
  clear HCb
  have hp1 : 2 ≤ C.p := HC.out.c.num.p.1
  have hp2 : C.p ≤ 4 := HC.out.c.num.p.2
  go_wp2_with fail
  refine (isWithin_any _ _ _ _).mono ?_
  rintro e w' ⟨rfl, hw⟩
  rw [hw]
  clear hw w'
  by_cases h_port : 0 ≤ port ∧ port ≤ C.p - 1
  rotate_left
  · have HE : Hid (ok = false) := by
      show ok = false
      rw [Bool.eq_false_iff]
      intro e
      exact h_port (HO.out.1 e).port
    have B := under2 hB
    rw [decide_eq_false h_port]
    clear h_port
    go_wp2_with fail
    go_ret
    exact ⟨ret_bool HE.out.symm, B⟩
  rw [decide_eq_true h_port]
  have H_port : Hid (0 ≤ port ∧ port ≤ C.p - 1) := h_port
  clear h_port
  go_wp2_with fail
  refine (isWithin_any _ _ _ _).mono ?_
  rintro e w' ⟨rfl, hw⟩
  rw [hw]
  clear hw w'
  by_cases h_prio : 0 ≤ prio ∧ prio ≤ 2
  rotate_left
  · have HE : Hid (ok = false) := by
      show ok = false
      rw [Bool.eq_false_iff]
      intro e
      exact h_prio (HO.out.1 e).prio
    have B := under2 hB
    rw [decide_eq_false h_prio]
    clear h_prio
    go_wp2_with fail
    go_ret
    exact ⟨ret_bool HE.out.symm, B⟩
  rw [decide_eq_true h_prio]
  have H_prio : Hid (0 ≤ prio ∧ prio ≤ 2) := h_prio
  clear h_prio
  go_wp2_with fail
  refine (isSizeC_any _ _).mono ?_
  rintro e w' ⟨rfl, hw⟩
  rw [hw]
  clear hw w'
  by_cases h_cells : 1 ≤ cells ∧ cells ≤ 5
  rotate_left
  · have HE : Hid (ok = false) := by
      show ok = false
      rw [Bool.eq_false_iff]
      intro e
      exact h_cells (HO.out.1 e).cells
    have B := under2 hB
    rw [decide_eq_false h_cells]
    clear h_cells
    go_wp2_with fail
    go_ret
    exact ⟨ret_bool HE.out.symm, B⟩
  rw [decide_eq_true h_cells]
  have H_cells : Hid (1 ≤ cells ∧ cells ≤ 5) := h_cells
  clear h_cells
  have HT : Hid (ok = true) := HO.out.2 ⟨HC.out, H_port.out, H_prio.out, H_cells.out⟩
  have B := under2 hB
  go_wp2_with fail
  go_ret
  exact ⟨ret_bool HT.out.symm, B⟩
theorem limitFor_port (port : Int) (w : World) : Calls Try.prog 26 #[.int .i64 port, .int .i64 2] w fun e w' => e = .returned (.iface 72 (.agg #[.int .i64 port])) ∧ w' = w := by
  go_enter Try.func26, Try.ntmps26
  go_wp2_with fail
  go_ret
  exact ⟨rfl, rfl⟩
theorem limitFor_lossy (port prio : Int) (w : World) (h : prio ≠ 2) : Calls Try.prog 26 #[.int .i64 port, .int .i64 prio] w fun e w' => e = .returned (.iface 74 (.agg #[])) ∧ w' = w := by
  have h' : (prio == 2) = false := by simpa using h
  clear h
  go_enter Try.func26, Try.ntmps26
  go_wp2_with fail
  go_ret
  exact ⟨rfl, rfl⟩
theorem RowTo.setAtC {g n : Nat} {t : TypeId} {f : Nat → Value} {w : World} (h : RowTo g t n f n w) (j : Nat) (v : Value) (hj : j < n) : RowTo g t n (fun i => if i = j then v else f i) n (w.setCell ⟨g, j, none⟩ v) := by
  obtain ⟨arr, hb, hn, hc⟩ := h
  refine ⟨_, blk_set hb _, by simpa using hn, fun i hi => ?_⟩
  by_cases e : i = j
  · subst e
    rw [Array.getElem?_setIfInBounds_self_of_lt (by omega)]; simp
  · rw [Array.getElem?_setIfInBounds_ne (by omega)]
    simp only [if_neg e]
    exact hc i hi
theorem RowTo.extC {g n : Nat} {t : TypeId} {f f' : Nat → Value} {w : World} (h : RowTo g t n f n w) (e : ∀ i, i < n → f i = f' i) : RowTo g t n f' n w := by
  obtain ⟨arr, hb, hn, hc⟩ := h
  exact ⟨arr, hb, hn, fun i hi => by rw [← e i hi]; exact hc i hi⟩
def addU (u : Nat → Int) (i : Nat) (y : Int) : Nat → Int := fun k => if k = i then u k + y else u k
theorem lossyChange_any (g : Nat) (v0 v2 : Value) (lo y : Int) (w : World) (k : w.heap[g]? = some (.cells #[v0, .int .i64 lo, v2] 29 (0, 0))) (h1 : -10000 ≤ lo + y) (h2 : lo + y ≤ 10000) :
    Calls Try.prog 69 #[.agg #[], .pointer (some ⟨g, 0, none⟩), .int .i64 y] w fun e w' => e = .returned (.tuple #[]) ∧ w'.heap[g]? = some (.cells #[v0, .int .i64 (lo + y), v2] 29 (0, 0)) ∧ Touch [g] w w' := by
  have e1 : IntKind.i64.wrap (lo + y) = lo + y := wrapC _ (by omega) (by omega)
  have hb : Below w.heap.size w (w.alloc (.cells #[] 74)) := (Below.refl _ _).alloc (Nat.le_refl _) _
  have k1 := (hb.block _ (blk_lt k)).trans k
  have HK : Hid (((w.alloc (.cells #[] 74)).setCell ⟨g, 1, none⟩ (.int .i64 (lo + y))).heap[g]? = some (.cells #[v0, .int .i64 (lo + y), v2] 29 (0, 0))) := blk_set k1 _
  have HT : Hid (Touch [g] w ((w.alloc (.cells #[] 74)).setCell ⟨g, 1, none⟩ (.int .i64 (lo + y)))) := (Touch.ofBelow hb).set (by simp) 1 _
  have c1 := blk_cell k1
  have f1 := blk_free k1
  clear k k1 hb h1 h2
  go_enter Try.func69, Try.ntmps69
  go_wp2_with fail
  go_returns
  exact ⟨rfl, HK.out, HT.out⟩
set_option maxHeartbeats 1000000 in
theorem portChange_any (g gU nU cU i : Nat) (v1 v2 : Value) (u : Nat → Int) (y : Int) (w : World) (hi : i < nU) (hm : nU ≤ 1048576) (k : w.heap[g]? = some (.cells #[.slice (some ⟨gU, 0, none⟩) nU cU, v1, v2] 29 (0, 0))) (hr : RowTo gU 2 nU (fun i => .int .i64 (u i)) nU w) (h1 : -10000 ≤ u i + y) (h2 : u i + y ≤ 10000) :
    Calls Try.prog 66 #[.agg #[.int .i64 i], .pointer (some ⟨g, 0, none⟩), .int .i64 y] w fun e w' => e = .returned (.tuple #[]) ∧ RowTo gU 2 nU (fun k => .int .i64 (addU u i y k)) nU w' ∧ Touch [gU] w w' := by
  have e1 : IntKind.i64.wrap (u i + y) = u i + y := wrapC _ (by omega) (by omega)
  have hi2 : (i : Int) < nU := by omega
  have hm2 : (nU : Int) ≤ 1048576 := by omega
  have hb : Below w.heap.size w (w.alloc (.cells #[.int .i64 i] 72)).drew := ((Below.refl _ _).alloc (Nat.le_refl _) _).drew
  have k1 := (hb.block _ (blk_lt k)).trans k
  have kl : (w.alloc (.cells #[.int .i64 i] 72)).drew.heap[w.heap.size]? = some (.cells #[.int .i64 i] 72 (0, 0)) := blk_new w _
  have r1 := hr.keep (hb.block _ hr.lt)
  have hgU : gU ≠ g := by
    rintro rfl
    obtain ⟨arr, hk, _⟩ := hr
    rw [k] at hk
    simp at hk
  have hgl : gU ≠ w.heap.size := by have := hr.lt; omega
  have c0 := r1.at i hi
  have f0 := r1.free i
  have S0 : (∀ o, (w.alloc (.cells #[.int .i64 i] 72)).drew.cell? ⟨g, o, none⟩ = (#[.slice (some ⟨gU, 0, none⟩) nU cU, v1, v2] : Array Value)[o]?) ∧ (∀ o, (w.alloc (.cells #[.int .i64 i] 72)).drew.cell? ⟨w.heap.size, o, none⟩ = (#[.int .i64 i] : Array Value)[o]?) := ⟨blk_cell k1, blk_cell kl⟩
  have S1 : (∀ o, ((w.alloc (.cells #[.int .i64 i] 72)).drew.setCell ⟨gU, i, none⟩ (.int .i64 (u i + y))).cell? ⟨g, o, none⟩ = (#[.slice (some ⟨gU, 0, none⟩) nU cU, v1, v2] : Array Value)[o]?) ∧ (∀ o, ((w.alloc (.cells #[.int .i64 i] 72)).drew.setCell ⟨gU, i, none⟩ (.int .i64 (u i + y))).cell? ⟨w.heap.size, o, none⟩ = (#[.int .i64 i] : Array Value)[o]?) := ⟨blk_cell ((blk_set_ne (fun e => hgU e.symm) _).trans k1), blk_cell ((blk_set_ne (fun e => hgl e.symm) _).trans kl)⟩
  have HR : Hid (RowTo gU 2 nU (fun k => .int .i64 (addU u i y k)) nU ((w.alloc (.cells #[.int .i64 i] 72)).drew.setCell ⟨gU, i, none⟩ (.int .i64 (u i + y)))) := (r1.setAtC i (.int .i64 (u i + y)) hi).extC (fun j _ => by
    unfold addU
    by_cases e : j = i
    · subst e; simp
    · simp [e])
  have HT : Hid (Touch [gU] w ((w.alloc (.cells #[.int .i64 i] 72)).drew.setCell ⟨gU, i, none⟩ (.int .i64 (u i + y)))) := (Touch.ofBelow hb).set (by simp) i _
  clear k k1 kl hb hr r1 h1 h2 hgU hgl
  go_enter Try.func66, Try.ntmps66
  go_wp2_with fail
  refine wp_region_held_drew (S := fun w' => (∀ o, w'.cell? ⟨g, o, none⟩ = (#[.slice (some ⟨gU, 0, none⟩) nU cU, v1, v2] : Array Value)[o]?) ∧ (∀ o, w'.cell? ⟨w.heap.size, o, none⟩ = (#[.int .i64 i] : Array Value)[o]?)) (by kernel_rfl) S0 (fun hHeld => ?_)
  refine takeD (i := 0) (some 6) (v := ?_) rfl rfl (by kernel_rfl) (by kernel_rfl) (by kernel_rfl) (fun _ _ _ h => h) (by kernel_rfl) ?_ (by assumption) ?_
  rotate_left
  · intro wx hSw
    obtain ⟨hS1, hS2⟩ := hSw
    go_simp
    try (with_reducible rfl)
  try simp only [Act.put, List.setIfInBounds_toArray, List.set_cons_zero, List.set_cons_succ]
  refine takeD (i := 1) (some 7) (v := ?_) rfl rfl (by kernel_rfl) (by kernel_rfl) (by kernel_rfl) (fun _ _ _ h => h) (by kernel_rfl) ?_ (by assumption) ?_
  rotate_left
  · intro wx hSw
    obtain ⟨hS1, hS2⟩ := hSw
    go_simp
    try (with_reducible rfl)
  try simp only [Act.put, List.setIfInBounds_toArray, List.set_cons_zero, List.set_cons_succ]
  refine takeD (i := 2) (some 8) (v := ?_) rfl rfl (by kernel_rfl) (by kernel_rfl) (by kernel_rfl) (fun _ _ _ h => h) (by kernel_rfl) ?_ (by assumption) ?_
  rotate_left
  · intro wx hSw
    obtain ⟨hS1, hS2⟩ := hSw
    go_simp
    try (with_reducible rfl)
  try simp only [Act.put, List.setIfInBounds_toArray, List.set_cons_zero, List.set_cons_succ]
  refine takeD (i := 3) (some 9) (v := ?_) rfl rfl (by kernel_rfl) (by kernel_rfl) (by kernel_rfl) (fun _ _ _ h => h) (by kernel_rfl) ?_ (by assumption) ?_
  rotate_left
  · intro wx hSw
    obtain ⟨hS1, hS2⟩ := hSw
    go_simp
    try (with_reducible rfl)
  try simp only [Act.put, List.setIfInBounds_toArray, List.set_cons_zero, List.set_cons_succ]
  refine takeD (i := 4) (some 10) (v := ?_) rfl rfl (by kernel_rfl) (by kernel_rfl) (by kernel_rfl) (fun _ _ _ h => h) (by kernel_rfl) ?_ (by assumption) ?_
  rotate_left
  · intro wx hSw
    obtain ⟨hS1, hS2⟩ := hSw
    go_simp
    try (with_reducible rfl)
  try simp only [Act.put, List.setIfInBounds_toArray, List.set_cons_zero, List.set_cons_succ]
  refine takeD (i := 5) (some 11) (v := ?_) rfl rfl (by kernel_rfl) (by kernel_rfl) (by kernel_rfl) (fun _ _ _ h => h) (by kernel_rfl) ?_ (by assumption) ?_
  rotate_left
  · intro wx hSw
    obtain ⟨hS1, hS2⟩ := hSw
    go_simp
    try (with_reducible rfl)
  try simp only [Act.put, List.setIfInBounds_toArray, List.set_cons_zero, List.set_cons_succ]
  refine takeD (i := 6) (some 12) (v := ?_) rfl rfl (by kernel_rfl) (by kernel_rfl) (by kernel_rfl) (fun _ _ _ h => h) (by kernel_rfl) ?_ (by assumption) ?_
  rotate_left
  · intro wx hSw
    obtain ⟨hS1, hS2⟩ := hSw
    go_simp
    try (with_reducible rfl)
  try simp only [Act.put, List.setIfInBounds_toArray, List.set_cons_zero, List.set_cons_succ]
  refine takeD (i := 8) (some 14) (v := ?_) rfl rfl (by kernel_rfl) (by kernel_rfl) (by kernel_rfl) (fun _ _ _ h => h) (by kernel_rfl) ?_ (by assumption) ?_
  rotate_left
  · intro wx hSw
    obtain ⟨hS1, hS2⟩ := hSw
    go_simp
    try (with_reducible rfl)
  try simp only [Act.put, List.setIfInBounds_toArray, List.set_cons_zero, List.set_cons_succ]
  refine wpAnyH_ready (rs := [7]) (by kernel_rfl) (by simp) ?_
  refine AllReadyH.cons rfl (fun K hK => ?_) AllReadyH.nil
  go_simp
  refine hK.out _ _ S0 (fun hHeld => ?_)
  clear hK K
  try simp only [Act.put, List.setIfInBounds_toArray, List.set_cons_zero, List.set_cons_succ]
  refine takeD (i := 9) (some 15) (v := ?_) rfl rfl (by kernel_rfl) (by kernel_rfl) (by kernel_rfl) (fun _ _ _ h => h) (by kernel_rfl) ?_ (by assumption) ?_
  rotate_left
  · intro wx hSw
    obtain ⟨hS1, hS2⟩ := hSw
    go_simp
    try (with_reducible rfl)
  try simp only [Act.put, List.setIfInBounds_toArray, List.set_cons_zero, List.set_cons_succ]
  refine takeD (i := 10) (some 16) (v := ?_) rfl rfl (by kernel_rfl) (by kernel_rfl) (by kernel_rfl) (fun _ _ _ h => h) (by kernel_rfl) ?_ (by assumption) ?_
  rotate_left
  · intro wx hSw
    obtain ⟨hS1, hS2⟩ := hSw
    go_simp
    try (with_reducible rfl)
  try simp only [Act.put, List.setIfInBounds_toArray, List.set_cons_zero, List.set_cons_succ]
  refine wpAnyH_ready (rs := [11]) (by kernel_rfl) (by simp) ?_
  refine AllReadyH.cons rfl (fun K hK => ?_) AllReadyH.nil
  go_simp
  refine hK.out _ _ S1 (fun hHeld => ?_)
  clear hK K
  try simp only [Act.put, List.setIfInBounds_toArray, List.set_cons_zero, List.set_cons_succ]
  refine wpAnyH_done (by kernel_rfl) ?_ _
  go_wp2_with fail
  go_returns
  exact ⟨rfl, HR.out, HT.out⟩
end Go.Proofs.Ytpldaohflojkmaa
