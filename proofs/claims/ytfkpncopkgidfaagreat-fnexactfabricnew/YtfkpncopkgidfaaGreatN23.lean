import Derived.Test.YtfkpncopkgidfaaGreatN02
import Derived.Test.YtfkpncopkgidfaaGreatN04
import Derived.Test.YtfkpncopkgidfaaGreatN05
import Derived.Test.YtfkpncopkgidfaaGreatN06
import Derived.Test.YtfkpncopkgidfaaGreatN09
import Derived.Test.YtfkpncopkgidfaaGreatN12
import Derived.Deep.MidRow
import Derived.Lib.AppendZeros
import Derived.Maps.AppendAt
import Derived.Room.AppendFits
namespace Go.Proofs.YtfkpncopkgidfaaGreat
open Go.RowKit
set_option linter.unusedVariables false
theorem szFrame_any (k d s p left : Int) (b : ByteArray) (w : World) (hb : b.size ≤ maxLen) (h0 : 0 ≤ left) (h1 : left ≤ 1048576) :
  Calls Tryz.prog 87 #[.agg #[.int .i64 k, .int .i64 d, .int .i64 s, .int .i64 p, .string b], .int .i64 left] w fun e w' => e = .returned (.int .i64 (if left < b.size then -1 else left - b.size)) ∧ Below w.heap.size w w' := by
 unfold maxLen at hb
 by_cases h : left < b.size
 ·
  go_enter Tryz.func87, Tryz.ntmps87
  go_wp2
  go_ret
  exact ⟨rfl, (Below.refl _ _).alloc (Nat.le_refl _) _⟩
 ·
  go_enter Tryz.func87, Tryz.ntmps87
  go_wp2
  go_ret
  exact ⟨rfl, (Below.refl _ _).alloc (Nat.le_refl _) _⟩
theorem toFrame_any (k d s p : Int) (b : ByteArray) (w : World) :
  Calls Tryz.prog 90 #[.agg #[.int .i64 k, .int .i64 d, .int .i64 s, .int .i64 p, .string b]] w fun e w' => e = .returned (.agg #[.int .i64 k, .int .i64 d, .int .i64 s, .int .i64 p, .string b]) ∧ Below w.heap.size w w' := by
 go_enter Tryz.func90, Tryz.ntmps90
 go_wp2
 exact bodyPost_ret (v := .agg #[.int .i64 k, .int .i64 d, .int .i64 s, .int .i64 p, .string b]) (by simp [results, Tryz.results90, go_sem]) rfl ⟨rfl, (((Below.refl _ _).alloc (Nat.le_refl _) _).alloc (by simp) _).alloc (by simp; omega) _⟩
set_option linter.unusedSimpArgs false
theorem eqEntry_any (m p t : Int) (w : World) :
  Calls Tryz.prog 129 #[.agg #[.int .i64 m, .int .i64 p, .int .i64 t], .agg #[.int .i64 m, .int .i64 p, .int .i64 t]] w fun e w' => e = .returned (.bool true) ∧ Below w.heap.size w w' := by
 go_enter Tryz.func129, Tryz.ntmps129
 go_wp2_with fail
 go_ret
 exact ⟨rfl, ((Below.refl _ _).alloc (Nat.le_refl _) _).alloc (by simp) _⟩
set_option maxHeartbeats 1000000 in
theorem eqEnts_any (a1 a2 : Option Addr) (n c1 c2 : Nat) (f : Nat → Ent) (w : World) (hn : n ≤ 1048576) (h1 : RdEnt w a1 n f) (h2 : RdEnt w a2 n f) :
  Calls Tryz.prog 81 #[.slice a1 n c1, .slice a2 n c2] w fun e w' => e = .returned (.bool true) ∧ Below w.heap.size w w' := by
 have H1 : Hid (RdEnt w a1 n f) := h1
 have H2 : Hid (RdEnt w a2 n f) := h2
 clear h1 h2
 go_enter Tryz.func81, Tryz.ntmps81
 go_wp2_with fail
 go_loopw [5] (fun i wr => ∃ k : Nat, k ≤ n ∧ i = .int .i64 k ∧ Below w.heap.size w wr) (fun i _ => n - (intOf i).toNat)
 case atStart => exact ⟨0, Nat.zero_le _, rfl, Below.refl _ _⟩
 case round =>
  obtain ⟨k, hk, rfl, hB⟩ := hrel
  by_cases hlt : k < n
  ·
   have hlt' : (k : Int) < n := by omega
   obtain ⟨g, o, rfl, c1, c2, c3⟩ := (H1.out.up hB) k hlt
   obtain ⟨g2, o2, rfl, d1, d2, d3⟩ := (H2.out.up hB) k hlt
   go_wp2_with fail
   refine wp_region_held_drew (S := fun w' => w'.cell? ⟨g, o + k * 3, none⟩ = some (.int .i64 (f k).m) ∧ w'.cell? ⟨g, o + k * 3 + 1, none⟩ = some (.int .i64 (f k).p) ∧ w'.cell? ⟨g, o + k * 3 + 2, none⟩ = some (.int .i64 (f k).t) ∧ w'.cell? ⟨g2, o2 + k * 3, none⟩ = some (.int .i64 (f k).m) ∧ w'.cell? ⟨g2, o2 + k * 3 + 1, none⟩ = some (.int .i64 (f k).p) ∧ w'.cell? ⟨g2, o2 + k * 3 + 2, none⟩ = some (.int .i64 (f k).t)) (by kernel_rfl) ⟨c1, c2, c3, d1, d2, d3⟩ (fun hHeld => ?_)
   refine tC 0 17 (v := ?_) ?_ ?_
   rotate_left
   ·
    intro wx hSw
    obtain ⟨hS1, hS2, hS3, hS4, hS5, hS6⟩ := hSw
    go_simp
    try with_reducible rfl
   try simp only [Act.put, PZ]
   refine tC 1 18 (v := ?_) ?_ ?_
   rotate_left
   ·
    intro wx hSw
    obtain ⟨hS1, hS2, hS3, hS4, hS5, hS6⟩ := hSw
    go_simp
    try with_reducible rfl
   try simp only [Act.put, PZ]
   refine tC 2 19 (v := ?_) ?_ ?_
   rotate_left
   ·
    intro wx hSw
    obtain ⟨hS1, hS2, hS3, hS4, hS5, hS6⟩ := hSw
    go_simp
    try with_reducible rfl
   try simp only [Act.put, PZ]
   refine tC 3 20 (v := ?_) ?_ ?_
   rotate_left
   ·
    intro wx hSw
    obtain ⟨hS1, hS2, hS3, hS4, hS5, hS6⟩ := hSw
    go_simp
    try with_reducible rfl
   try simp only [Act.put, PZ]
   refine tC 4 21 (v := ?_) ?_ ?_
   rotate_left
   ·
    intro wx hSw
    obtain ⟨hS1, hS2, hS3, hS4, hS5, hS6⟩ := hSw
    go_simp
    try with_reducible rfl
   try simp only [Act.put, PZ]
   refine tC 5 22 (v := ?_) ?_ ?_
   rotate_left
   ·
    intro wx hSw
    obtain ⟨hS1, hS2, hS3, hS4, hS5, hS6⟩ := hSw
    go_simp
    try with_reducible rfl
   try simp only [Act.put, PZ]
   refine tC 6 23 (v := ?_) ?_ ?_
   rotate_left
   ·
    intro wx hSw
    obtain ⟨hS1, hS2, hS3, hS4, hS5, hS6⟩ := hSw
    go_simp
    try with_reducible rfl
   try simp only [Act.put, PZ]
   refine tC 7 24 (v := ?_) ?_ ?_
   rotate_left
   ·
    intro wx hSw
    obtain ⟨hS1, hS2, hS3, hS4, hS5, hS6⟩ := hSw
    go_simp
    try with_reducible rfl
   try simp only [Act.put, PZ]
   refine r1 8 (fun K hK => ?_)
   go_simp
   refine (eqEntry_any _ _ _ _).mono ?_
   rintro e w1 ⟨rfl, hb1⟩
   have b1 : Below wr.heap.size wr w1 := (Below.refl _ _).drew.trans hb1
   have c1 := (b1.cell (p := ⟨g, o + k * 3, none⟩) (cellLt c1)).trans c1
   have c2 := (b1.cell (p := ⟨g, o + k * 3 + 1, none⟩) (cellLt c2)).trans c2
   have c3 := (b1.cell (p := ⟨g, o + k * 3 + 2, none⟩) (cellLt c3)).trans c3
   have d1 := (b1.cell (p := ⟨g2, o2 + k * 3, none⟩) (cellLt d1)).trans d1
   have d2 := (b1.cell (p := ⟨g2, o2 + k * 3 + 1, none⟩) (cellLt d2)).trans d2
   have d3 := (b1.cell (p := ⟨g2, o2 + k * 3 + 2, none⟩) (cellLt d3)).trans d3
   go_wp2_with fail
   refine hK.out _ _ ⟨c1, c2, c3, d1, d2, d3⟩ (fun hHeld => ?_)
   clear hK K
   try simp only [Act.put, PZ]
   refine tC 9 26 (v := ?_) ?_ ?_
   rotate_left
   ·
    intro wx hSw
    obtain ⟨hS1, hS2, hS3, hS4, hS5, hS6⟩ := hSw
    go_simp
    try with_reducible rfl
   try simp only [Act.put, PZ]
   refine dn ?_
   have HB : Hid (Below w.heap.size w w1) := hB.trans (b1.mono hB.size)
   clear b1 hb1 hB c1 c2 c3 d1 d2 d3 hHeld
   go_wp2_with fail
   go_roundw
   case rel => exact ⟨k + 1, by omega, by go_num, HB.out⟩
   case measure => simp [intOf]; omega
  ·
   obtain rfl : k = n := by omega
   go_wp2_with fail
   go_ret
   exact ⟨rfl, hB⟩
theorem three_laidR {w w1 : World} {A B C : Obj} (h : Below (((w.alloc A).alloc B).alloc C).heap.size (((w.alloc A).alloc B).alloc C) w1) :
  w1.heap[w.heap.size]? = some A ∧ w1.heap[w.heap.size + 1]? = some B ∧ w1.heap[w.heap.size + 1 + 1]? = some C ∧ Below w.heap.size w w1 ∧ w.heap.size + 3 ≤ w1.heap.size := by
 have e1 : (w.alloc A).heap.size = w.heap.size + 1 := by simp
 have e2 : ((w.alloc A).alloc B).heap.size = w.heap.size + 1 + 1 := by simp
 have e3 : (((w.alloc A).alloc B).alloc C).heap.size = w.heap.size + 1 + 1 + 1 := by simp
 rw [e3] at h
 have b1 := blk_new w A
 have b2 := blk_new (w.alloc A) B
 rw [e1] at b2
 have b3 := blk_new ((w.alloc A).alloc B) C
 rw [e2] at b3
 refine ⟨?_, ?_, ?_, ?_, ?_⟩
 ·
  rw [h.block _ (by omega), blk_old _ (by rw [e2]; omega), blk_old _ (by rw [e1]; omega)]; exact b1
 ·
  rw [h.block _ (by omega), blk_old _ (by rw [e2]; omega)]; exact b2
 ·
  rw [h.block _ (by omega)]; exact b3
 ·
  exact ((((Below.refl _ _).alloc (Nat.le_refl _) _).alloc (by rw [e1]; omega) _).alloc (by rw [e2]; omega) _).trans (h.mono (by omega))
 ·
  have := h.size
  omega
set_option maxHeartbeats 1000000 in
theorem eqRound_any (R1 R2 : Rnd) (w : World) (hs : R1.Small) (h1 : RdRnd w R1) (h2 : RdRnd w R2) (eQ : R2.nQ = R1.nQ) (eq : R2.q = R1.q) (eD : R2.nD = R1.nD) (ed : R2.d = R1.d) (et : R2.turn = R1.turn) (ef : R2.fresh = R1.fresh) (eS : R2.nS = R1.nS) (eL : R2.L = R1.L) (ez : R2.z = R1.z) :
  Calls Tryz.prog 164 #[.agg R1.cells, .agg R2.cells] w fun e w' => e = .returned (.bool true) ∧ Below w.heap.size w w' := by
 obtain ⟨aQ, nQ, cQ, q, aD, nD, cD, d, turn, fresh, aS, nS, cS, A, L, C, z⟩ := R1
 obtain ⟨aQ2, nQ2, cQ2, q2, aD2, nD2, cD2, d2, turn2, fresh2, aS2, nS2, cS2, A2, L2, C2, z2⟩ := R2
 dsimp only at eQ eq eD ed et ef eS eL ez
 subst eQ eq eD ed et ef eS eL ez
 have H1 : Hid (RdRnd w ⟨aQ, _, cQ, _, aD, _, cD, _, _, _, aS, _, cS, A, _, C, _⟩) := h1
 have H2 : Hid (RdRnd w ⟨aQ2, _, cQ2, _, aD2, _, cD2, _, _, _, aS2, _, cS2, A2, _, C2, _⟩) := h2
 have HS : Hid (Rnd.Small ⟨aQ, _, cQ, _, aD, _, cD, _, _, _, aS, _, cS, A, _, C, _⟩) := hs
 clear h1 h2 hs
 have HA : Hid (∀ o1 o2, Below w.heap.size w ((w.alloc o1).alloc o2)) := fun o1 o2 => (((Below.refl _ _).alloc (Nat.le_refl _) _).alloc (by simp) _)
 unfold Rnd.cells
 go_enter Tryz.func164, Tryz.ntmps164
 go_wp2_with fail
 refine (eqInts_any _ _ _ _ _ _ _ HS.out.q (H1.out.q.up (HA.out _ _)) (H2.out.q.up (HA.out _ _))).mono ?_
 rintro e w1 ⟨rfl, hS1⟩
 have c1 := fun (b : Nat) (i : Nat) => hS1.cell ⟨b, i, none⟩
 have b1 := (HA.out _ _).trans (hS1.below _)
 go_wp2_with fail
 refine (eqInts_any _ _ _ _ _ _ _ HS.out.d (H1.out.d.up b1) (H2.out.d.up b1)).mono ?_
 rintro e w2 ⟨rfl, hS2⟩
 have c2 := fun (b : Nat) (i : Nat) => hS2.cell ⟨b, i, none⟩
 have b2 := b1.trans (hS2.below _)
 go_wp2_with fail
 refine (eqIntss_any _ _ _ _ _ _ _ _ _ _ _ _ HS.out.s HS.out.l (H1.out.s.up b2) (H2.out.s.up b2) (fun i hi => (H1.out.z i hi).up b2) (fun i hi => (H2.out.z i hi).up b2)).mono ?_
 rintro e w3 ⟨rfl, hS3⟩
 have c3 := fun (b : Nat) (i : Nat) => hS3.cell ⟨b, i, none⟩
 have b3 := b2.trans (hS3.below _)
 go_wp2_with fail
 go_ret
 exact ⟨rfl, b3⟩
def VI (w : World) (base : Nat) (a : Option Addr) (n : Nat) (f : Nat → Int) : Prop := n = 0 ∨ ∃ g, a = some ⟨g, 0, none⟩ ∧ base ≤ g ∧ RowTo g 2 n (fun i => .int .i64 (f i)) n w
def blkI (a : Option Addr) (n : Nat) : List Nat := if n = 0 then [] else (a.map (·.block)).toList
def apartI (a : Option Addr) (n : Nat) (a' : Option Addr) (n' : Nat) : Prop := ∀ x ∈ blkI a n, x ∉ blkI a' n'
theorem VI.read {w : World} {base : Nat} {a : Option Addr} {n : Nat} {f : Nat → Int} (h : VI w base a n f) : RdRow w a n fun i => .int .i64 (f i) := by
 rcases h with rfl | ⟨g, rfl, _, hr⟩
 ·
  exact RdRow.nil _ _ _
 ·
  exact hr.read
theorem VI.up {w w' : World} {base : Nat} {a : Option Addr} {n : Nat} {f : Nat → Int} (h : VI w base a n f) (hb : Below w.heap.size w w') : VI w' base a n f :=
 h.imp id (by rintro ⟨g, ha, hg, hr⟩; exact ⟨g, ha, hg, hr.keep (hb.block _ hr.lt)⟩)
theorem VI.mono {w : World} {base base' : Nat} {a : Option Addr} {n : Nat} {f : Nat → Int} (h : VI w base a n f) (hb : base' ≤ base) : VI w base' a n f :=
 h.imp id (by rintro ⟨g, ha, hg, hr⟩; exact ⟨g, ha, by omega, hr⟩)
theorem blkI_mem {g n : Nat} (h : n ≠ 0) : g ∈ blkI (some ⟨g, 0, none⟩) n := by unfold blkI; rw [if_neg h]; simp
theorem VI.touchS {w w' : World} {base : Nat} {a : Option Addr} {n : Nat} {f : Nat → Int} {S : List Nat} (h : VI w base a n f) (ht : Touch S w w') (hp : ∀ x ∈ blkI a n, x ∉ S) : VI w' base a n f := by
 rcases h with h | ⟨g, rfl, hg, hr⟩
 ·
  exact .inl h
 ·
  by_cases h0 : n = 0
  ·
   exact .inl h0
  exact .inr ⟨g, rfl, hg, hr.keep (ht.block g hr.lt (hp g (blkI_mem h0)))⟩
theorem VI.blk {w : World} {base : Nat} {a : Option Addr} {n : Nat} {f : Nat → Int} (h : VI w base a n f) : ∀ x ∈ blkI a n, base ≤ x ∧ x < w.heap.size := by
 intro x hx
 unfold blkI at hx
 split at hx
 ·
  simp at hx
 ·
  rcases h with h | ⟨g, rfl, hg, hr⟩
  ·
   contradiction
  ·
   simp at hx; subst hx; exact ⟨hg, hr.lt⟩
theorem markEmpty_any (a : Option Addr) (cap m : Nat) (w : World) : Calls Tryz.prog 143 #[.slice a 0 cap, .int .i64 m] w fun e w' => e = .returned (.int .i64 m) ∧ w = w' := by
 go_enter Tryz.func143, Tryz.ntmps143
 go_wp2_with fail
 go_loop [1, 5] (fun x i => x = .int .i64 m ∧ i = .int .i64 0) (fun _ _ => 0)
 case atStart => exact ⟨rfl, rfl⟩
 case round =>
  obtain ⟨rfl, rfl⟩ := hrel
  go_wp2_with fail
  go_ret
  exact ⟨rfl, rfl⟩
theorem heldEmpty_any (a : Option Addr) (cap m : Nat) (w : World) : Calls Tryz.prog 146 #[.slice a 0 cap, .int .i64 m] w fun e w' => e = .returned (.int .i64 m) ∧ w = w' := by
 go_enter Tryz.func146, Tryz.ntmps146
 go_wp2_with fail
 go_loop [1, 5] (fun x i => x = .int .i64 m ∧ i = .int .i64 0) (fun _ _ => 0)
 case atStart => exact ⟨rfl, rfl⟩
 case round =>
  obtain ⟨rfl, rfl⟩ := hrel
  go_wp2_with fail
  go_ret
  exact ⟨rfl, rfl⟩
def sumL (L : Nat → Nat) : Nat → Nat
 | 0 => 0
 | k + 1 => sumL L k + L k
theorem sumL_le (L : Nat → Nat) {i k : Nat} (h : i ≤ k) : sumL L i ≤ sumL L k := by
 induction k with
 | zero =>
      obtain rfl : i = 0 := by omega
      exact Nat.le_refl _
 | succ k ih =>
  by_cases e : i = k + 1
  ·
   rw [e]; exact Nat.le_refl _
  ·
   have := ih (by omega)
   show sumL L i ≤ sumL L k + L k
   omega
def intsV (n : Nat) (f : Nat → Int) : List Value := (List.range n).map fun i => .int .i64 (f i)
theorem intsV_len (n : Nat) (f : Nat → Int) : (intsV n f).length = n := by simp [intsV]
theorem intsV_get {n : Nat} {f : Nat → Int} {j : Nat} {u : Value} (h : (intsV n f)[j]? = some u) : j < n ∧ u = .int .i64 (f j) := by
 have hj : j < n := by
  have := (List.getElem?_eq_some_iff.1 h).1
  rwa [intsV_len] at this
 refine ⟨hj, ?_⟩
 simp [intsV, hj] at h
 exact h.symm
theorem intsV_at {n : Nat} {f : Nat → Int} {j : Nat} (h : j < n) : (intsV n f)[j]? = some (.int .i64 (f j)) := by simp [intsV, h]
theorem own_vi {w : World} {base n : Nat} {v : Value} {f : Nat → Int} (h : w.ownsRow base 2 1 v n (intsV n f)) : ∃ a c, v = .slice a n c ∧ VI w base a n f := by
 rcases h.2 with ⟨rfl, rfl⟩ | ⟨g, cap, cur, rfl, hb, hg, hnc, hcm, hcs, htake⟩
 ·
  exact ⟨none, 0, rfl, .inl rfl⟩
 ·
  refine ⟨_, cap, rfl, .inr ⟨g, rfl, hb, cur, hg, by omega, fun i hi => ?_⟩⟩
  have e : (cur.toList.take (n * 1))[i]? = some (.int .i64 (f i)) := by rw [htake]; exact intsV_at hi
  rw [List.getElem?_take_of_lt (by omega)] at e
  simpa using e
theorem appendV {W : World} {base : Nat} {v : Value} {g q n c : Nat} {f : Nat → Int} (h : W.ownsRow base 2 1 v 0 []) (hb : base ≤ W.heap.size) (hn : n ≤ 1048576) (hc : ∀ i, i < n → W.cell? ⟨g, q + i, none⟩ = some (.int .i64 (f i))) :
  ∃ a' c' W', (Builtin.append_ #[25, 25] 25 #[v, .slice (some ⟨g, q, none⟩) n c]).run Tryz.prog W = .ok (.slice a' n c') W' ∧ VI W' base a' n f ∧ W.grownBy W' v.ownBlock ∧ (∀ x ∈ blkI a' n, some x = v.ownBlock ∨ x = W.heap.size) := by
 obtain ⟨i0, hi, hz0, hz1, hz2⟩ := info_parts info2
 obtain ⟨v', w', hr, h2, h3, h4, h5⟩ := run_append_own_at (P := Tryz.prog) W base 25 25 2 i0 (.int .i64 0) 1 8 Tryz.underlying25 hi hz0 hz1 hz2 rfl (by decide) v 0 [] h ⟨g, q, none⟩ n c (intsV n f) (by rw [intsV_len]; omega) (fun j u hj => by
  obtain ⟨hjn, rfl⟩ := intsV_get hj
  have e : (⟨g, q, none⟩ : Addr).add j = ⟨g, q + j, none⟩ := by unfold Addr.add; split <;> simp_all
  rw [e]; exact hc j hjn) (fun u hu => by
  obtain ⟨j, _, rfl⟩ := List.mem_map.1 hu
  rfl) (by unfold maxLen; omega) (by omega) hb
 rw [Nat.zero_add, List.nil_append] at h2
 obtain ⟨a', c', rfl, hv⟩ := own_vi h2
 refine ⟨a', c', w', hr, hv, h3, fun x hx => ?_⟩
 unfold blkI at hx
 split at hx
 ·
  simp at hx
 ·
  rename_i hn0
  rcases hv with h0 | ⟨g', rfl, _, _⟩
  ·
   exact absurd h0 hn0
  ·
   simp at hx
   subst hx
   rcases h5 with h5 | h5
   ·
    exact .inl h5
   ·
    right
    simpa [Value.ownBlock] using h5
theorem copyOf_any (g q n cap : Nat) (f : Nat → Int) (w : World) (hn : n ≤ 1048576) (h : RdRow w (some ⟨g, q, none⟩) n fun i => .int .i64 (f i)) :
  Calls Tryz.prog 165 #[.slice (some ⟨g, q, none⟩) n cap] w fun e w' => ∃ a' c', e = .returned (.slice a' n c') ∧ VI w' w.heap.size a' n f ∧ Below w.heap.size w w' := by
 obtain ⟨a', c', W', hr, hv, hg, hp⟩ := appendV (W := w) (base := w.heap.size) (v := .slice none 0 0) (g := g) (q := q) (c := cap) (f := f) (World.ownsRow_nil _ _ _ _) (Nat.le_refl _) hn (fun i hi => by
  obtain ⟨g', o', e, hc⟩ := h i hi
  cases e
  exact hc)
 have hB : Below w.heap.size w W' := (Below.refl _ _).grown hg (Nat.le_refl _) (fun k e => by simp [Value.ownBlock] at e)
 have HV : Hid (VI W' w.heap.size a' n f) := hv
 clear hv hg hp h
 go_enter Tryz.func165, Tryz.ntmps165
 go_wp2_with (at_builtin; refine Lib.wpList_append_run _ rfl _ _ _ _ rfl _ _ rfl rfl _ _ hr ?_)
 go_ret
 exact ⟨_, _, rfl, HV.out, hB⟩
def VS (w : World) (base : Nat) (a : Option Addr) (n : Nat) (F : Nat → Value) : Prop := n = 0 ∨ ∃ g, a = some ⟨g, 0, none⟩ ∧ base ≤ g ∧ RowTo g 25 n F n w
theorem VS.up {w w' : World} {base : Nat} {a : Option Addr} {n : Nat} {F : Nat → Value} (h : VS w base a n F) (hb : Below w.heap.size w w') : VS w' base a n F :=
 h.imp id (by rintro ⟨g, ha, hg, hr⟩; exact ⟨g, ha, hg, hr.keep (hb.block _ hr.lt)⟩)
theorem VS.mono {w : World} {base base' : Nat} {a : Option Addr} {n : Nat} {F : Nat → Value} (h : VS w base a n F) (hb : base' ≤ base) : VS w base' a n F :=
 h.imp id (by rintro ⟨g, ha, hg, hr⟩; exact ⟨g, ha, by omega, hr⟩)
theorem VS.read {w : World} {base : Nat} {a : Option Addr} {n : Nat} {F : Nat → Value} (h : VS w base a n F) : RdRow w a n F := by
 rcases h with rfl | ⟨g, rfl, _, hr⟩
 ·
  exact RdRow.nil _ _ _
 ·
  exact hr.read
def zRound : Array Value := #[.slice none 0 0, .slice none 0 0, .int .i64 0, .bool false, .slice none 0 0]
structure Mk (n : Nat) (f : Nat → Int) (w W : World) (E : Option Nat) (Q : Option (Option Addr)) (D S B : Option Nat) : Prop where
 below : Below w.heap.size w W
 e : ∀ g, E = some g → w.heap.size ≤ g ∧ W.heap[g]? = some (.cells #[] 2 (0, 0))
 q : ∀ a, Q = some a → VI W w.heap.size a n f
 d : ∀ g, D = some g → VI W w.heap.size (some ⟨g, 0, none⟩) n (fun _ => 0)
 s : ∀ g, S = some g → VS W w.heap.size (some ⟨g, 0, none⟩) n (fun _ => .slice none 0 0)
 b : ∀ g, B = some g → w.heap.size ≤ g ∧ W.heap[g]? = some (.cells zRound 116 (0, 0))
 qd : ∀ a g, Q = some a → D = some g → apartI a n (some ⟨g, 0, none⟩) n
theorem Mk.start {n : Nat} {f : Nat → Int} {w W : World} (h : Below w.heap.size w W) : Mk n f w W none none none none none :=
 ⟨h, fun _ e => by simp at e, fun _ e => by simp at e, fun _ e => by simp at e, fun _ e => by simp at e, fun _ e => by simp at e, fun _ _ e => by simp at e⟩
theorem Mk.up {n : Nat} {f : Nat → Int} {w W W' : World} {E : Option Nat} {Q : Option (Option Addr)} {D S B : Option Nat} (h : Mk n f w W E Q D S B) (hb : Below W.heap.size W W') : Mk n f w W' E Q D S B where
 below := h.below.trans (hb.mono h.below.size)
 e := fun g e => ⟨(h.e g e).1, (hb.block _ (blk_lt (h.e g e).2)).trans (h.e g e).2⟩
 q := fun a e => (h.q a e).up hb
 d := fun g e => (h.d g e).up hb
 s := fun g e => (h.s g e).up hb
 b := fun g e => ⟨(h.b g e).1, (hb.block _ (blk_lt (h.b g e).2)).trans (h.b g e).2⟩
 qd := h.qd
theorem apart_new {W : World} {base : Nat} {a : Option Addr} {n g : Nat} {f : Nat → Int} (h : VI W base a n f) (hg : W.heap.size ≤ g) : apartI a n (some ⟨g, 0, none⟩) n := by
 intro x hx hy
 have h1 := (h.blk x hx).2
 unfold blkI at hy
 split at hy
 ·
  simp at hy
 ·
  simp at hy; omega
theorem Mk.mkE {n : Nat} {f : Nat → Int} {w W : World} {Q : Option (Option Addr)} {D S B : Option Nat} (h : Mk n f w W none Q D S B) : Mk n f w (W.alloc (.cells #[] 2)) (some W.heap.size) Q D S B := by
 have h' := h.up (W' := W.alloc (.cells #[] 2)) ((Below.refl _ _).alloc (Nat.le_refl _) _)
 exact ⟨h'.below, fun g e => by cases e; exact ⟨h.below.size, blk_new _ _⟩, h'.q, h'.d, h'.s, h'.b, h'.qd⟩
theorem Mk.mkB {n : Nat} {f : Nat → Int} {w W : World} {E : Option Nat} {Q : Option (Option Addr)} {D S : Option Nat} (h : Mk n f w W E Q D S none) : Mk n f w (W.alloc (.cells zRound 116)) E Q D S (some W.heap.size) := by
 have h' := h.up (W' := W.alloc (.cells zRound 116)) ((Below.refl _ _).alloc (Nat.le_refl _) _)
 exact ⟨h'.below, h'.e, h'.q, h'.d, h'.s, fun g e => by cases e; exact ⟨h.below.size, blk_new _ _⟩, h'.qd⟩
theorem Mk.mkD {n : Nat} {f : Nat → Int} {w W : World} {E : Option Nat} {Q : Option (Option Addr)} {S B : Option Nat} (h : Mk n f w W E Q none S B) : Mk n f w (W.alloc (.cells (zInts n) 2)) E Q (some W.heap.size) S B := by
 have h' := h.up (W' := W.alloc (.cells (zInts n) 2)) ((Below.refl _ _).alloc (Nat.le_refl _) _)
 exact ⟨h'.below, h'.e, h'.q, fun g e => by cases e; exact .inr ⟨_, rfl, h.below.size, zInts_row (blk_new _ _)⟩, h'.s, h'.b, fun a g e1 e2 => by cases e2; exact apart_new (h.q a e1) (Nat.le_refl _)⟩
theorem Mk.mkS {n : Nat} {f : Nat → Int} {w W : World} {E : Option Nat} {Q : Option (Option Addr)} {D B : Option Nat} (h : Mk n f w W E Q D none B) : Mk n f w (W.alloc (.cells (zSls n) 25)) E Q D (some W.heap.size) B := by
 have h' := h.up (W' := W.alloc (.cells (zSls n) 25)) ((Below.refl _ _).alloc (Nat.le_refl _) _)
 exact ⟨h'.below, h'.e, h'.q, h'.d, fun g e => by cases e; exact .inr ⟨_, rfl, h.below.size, zSls_row (blk_new _ _)⟩, h'.b, h'.qd⟩
theorem Mk.mkQ {n : Nat} {f : Nat → Int} {w W W' : World} {E D S B : Option Nat} {a : Option Addr} (h : Mk n f w W E none D S B) (hv : VI W' W.heap.size a n f) (hb : Below W.heap.size W W') : Mk n f w W' E (some a) D S B := by
 have h' := h.up hb
 exact ⟨h'.below, h'.e, fun a' e => by cases e; exact hv.mono h.below.size, h'.d, h'.s, h'.b, fun a' g e1 e2 => by
  cases e1
  intro x hx hy
  have h1 := (hv.blk x hx).1
  have h2 := ((h.d g e2).blk x hy).2
  omega⟩
theorem Mk.mkEQ {n : Nat} {f : Nat → Int} {w W W' : World} {D S B : Option Nat} {a : Option Addr} {gE : Nat} (h : Mk n f w W (some gE) none D S B) (hv : VI W' w.heap.size a n f) (hg : W.grownBy W' (some gE)) (hp : ∀ x ∈ blkI a n, some x = some gE ∨ x = W.heap.size) : Mk n f w W' none (some a) D S B := by
 have hE := h.e gE rfl
 have hd : ∀ g, D = some g → n ≠ 0 → g ≠ gE := fun g e h0 e2 => by
  subst e2
  rcases h.d g e with h1 | ⟨g', e3, _, arr, h2, h3, _⟩
  ·
   exact h0 h1
  ·
   cases e3
   rw [hE.2] at h2
   cases h2
   simp at h3
   exact h0 h3
 have hs : ∀ g, S = some g → n ≠ 0 → g ≠ gE := fun g e h0 e2 => by
  subst e2
  rcases h.s g e with h1 | ⟨g', e3, _, arr, h2, h3, _⟩
  ·
   exact h0 h1
  ·
   cases e3
   rw [hE.2] at h2
   cases h2
 have hbk : ∀ k, k < W.heap.size → k ≠ gE → W'.heap[k]? = W.heap[k]? := fun k hk hne => hg.block k hk (by simpa using hne)
 refine ⟨h.below.grown hg h.below.size (fun k e => by cases e; exact hE.1), fun _ e => by simp at e, fun a' e => by cases e; exact hv, fun g e => ?_, fun g e => ?_, fun g e => ?_, fun a' g e1 e2 => ?_⟩
 ·
  by_cases h0 : n = 0
  ·
   exact .inl h0
  ·
   rcases h.d g e with h1 | ⟨g', e3, hg2, hr⟩
   ·
    exact absurd h1 h0
   ·
    cases e3
    exact .inr ⟨g, rfl, hg2, hr.keep (hbk g hr.lt (hd g e h0))⟩
 ·
  by_cases h0 : n = 0
  ·
   exact .inl h0
  ·
   rcases h.s g e with h1 | ⟨g', e3, hg2, hr⟩
   ·
    exact absurd h1 h0
   ·
    cases e3
    exact .inr ⟨g, rfl, hg2, hr.keep (hbk g hr.lt (hs g e h0))⟩
 ·
  have hb := h.b g e
  refine ⟨hb.1, (hbk g (blk_lt hb.2) ?_).trans hb.2⟩
  rintro rfl
  rw [hE.2] at hb
  have := hb.2
  simp at this
 ·
  cases e1
  intro x hx hy
  have h2 := ((h.d g e2).blk x hy).2
  have h0 : n ≠ 0 := by
   intro h0
   subst h0
   simp [blkI] at hx
  have h3 : x = g := by
   unfold blkI at hy
   rw [if_neg h0] at hy
   simpa using hy
  rcases hp x hx with e | e
  ·
   have e' : x = gE := by simpa using e
   exact hd g e2 h0 (h3 ▸ e')
  ·
   omega
theorem wp_appD {o : Oper} {a : Act} {K : Act → World → Prop} {Q : Exit → Act → World → Prop} {W W' : World} {c : Prop} [Decidable c] {E : Prop} (hc : c) (d : Option Tmp) (s x : Operand) (t : TypeId) (vs vx v : Value) (hd : o.dst = d)
  (ho : o.op = .call { callee := .builtin .append, args := #[s, x], argTypes := #[t, t] }) (hty : o.type = t) (hs : a.eval s = vs) (hx : a.eval x = vx)
  (hr : (Builtin.append_ #[t, t] t #[vs, vx]).run Tryz.prog W = .ok v W') (h : K (a.put d v) W') : if c then o.wp Tryz.prog a W K Q else E := by
 subst hd
 exact wp_appR hc s x t vs vx v ho hty hs hx hr h
theorem wp_makeD {o : Oper} {a : Act} {K : Act → World → Prop} {Q : Exit → Act → World → Prop} {W W' : World} {c : Prop} [Decidable c] {E : Prop} (hc : c) (d : Option Tmp) (l : Operand) (t : TypeId) (vl v : Value) (hd : o.dst = d)
  (ho : o.op = .makeSlice t l l) (hl : a.eval l = vl) (hr : (Instr.makeSlice t vl vl).run Tryz.prog W = .ok v W') (h : K (a.put d v) W') : if c then o.wp Tryz.prog a W K Q else E := by
 subst hd
 rw [if_pos hc]
 unfold Oper.wp execOp
 simp only [ho, Sem.run_bind, Sem.run_pure, Result.andThen_ok, hl]
 simp only [hr, Result.andThen_ok]
 exact h
theorem Mk.runD {n : Nat} {f : Nat → Int} {w W : World} {E : Option Nat} {Q : Option (Option Addr)} {S B : Option Nat} (h : Mk n f w W E Q none S B) (hn : n ≤ 1048576) :
  ∃ gD W', (Instr.makeSlice 25 (.int .i64 (n : Int)) (.int .i64 (n : Int))).run Tryz.prog W = .ok (.slice (some ⟨gD, 0, none⟩) n n) W' ∧ Mk n f w W' E Q (some gD) S B := ⟨_, _, make_ints n hn W, h.mkD⟩
theorem Mk.runS {n : Nat} {f : Nat → Int} {w W : World} {E : Option Nat} {Q : Option (Option Addr)} {D B : Option Nat} (h : Mk n f w W E Q D none B) (hn : n ≤ 1048576) :
  ∃ gS W', (Instr.makeSlice 114 (.int .i64 (n : Int)) (.int .i64 (n : Int))).run Tryz.prog W = .ok (.slice (some ⟨gS, 0, none⟩) n n) W' ∧ Mk n f w W' E Q D (some gS) B := ⟨_, _, make_sls n hn W, h.mkS⟩
theorem Mk.runB {n : Nat} {f : Nat → Int} {w W : World} {E : Option Nat} {Q : Option (Option Addr)} {D S : Option Nat} (h : Mk n f w W E Q D S none) :
  ∃ gB W', gB = W.heap.size ∧ W' = W.alloc (.cells #[.slice none 0 0, .slice none 0 0, .int .i64 0, .bool false, .slice none 0 0] 116) ∧ Mk n f w W' E Q D S (some gB) := ⟨_, _, rfl, rfl, h.mkB⟩
theorem Mk.runE {n : Nat} {f : Nat → Int} {w W : World} {Q : Option (Option Addr)} {D S B : Option Nat} (h : Mk n f w W none Q D S B) :
  ∃ gE W', gE = W.heap.size ∧ W' = W.alloc (.cells #[] 2) ∧ Mk n f w W' (some gE) Q D S B := ⟨_, _, rfl, rfl, h.mkE⟩
theorem own_empty {W : World} {base g : Nat} (hb : base ≤ g) (h : W.heap[g]? = some (.cells #[] 2 (0, 0))) : W.ownsRow base 2 1 (.slice (some ⟨g, 0, none⟩) 0 0) 0 [] :=
 ⟨rfl, .inr ⟨g, 0, #[], rfl, hb, h, Nat.le_refl _, by unfold maxLen; omega, rfl, rfl⟩⟩
theorem Mk.runEQ {n : Nat} {f : Nat → Int} {w W : World} {D S B : Option Nat} {gE g q : Nat} (c : Nat) (h : Mk n f w W (some gE) none D S B) (hn : n ≤ 1048576) (hr : RdRow W (some ⟨g, q, none⟩) n fun i => .int .i64 (f i)) :
  ∃ aQ cQ W', (Builtin.append_ #[25, 25] 25 #[.slice (some ⟨gE, 0, none⟩) 0 0, .slice (some ⟨g, q, none⟩) n c]).run Tryz.prog W = .ok (.slice aQ n cQ) W' ∧ Mk n f w W' none (some aQ) D S B := by
 have hE := h.e gE rfl
 obtain ⟨a', c', W', h1, h2, h3, h4⟩ := appendV (c := c) (own_empty hE.1 hE.2) h.below.size hn (fun i hi => by
  obtain ⟨g', o', e, hc⟩ := hr i hi
  cases e
  exact hc)
 exact ⟨a', c', W', h1, h.mkEQ h2 h3 h4⟩
structure OwnRn (w : World) (base : Nat) (R : Rnd) : Prop where
 q : VI w base R.aQ R.nQ R.q
 d : VI w base R.aD R.nD R.d
 s : VS w base R.aS R.nS fun i => .slice (R.A i) (R.L i) (R.C i)
 z : ∀ i, i < R.nS → VI w base (R.A i) (R.L i) (R.z i)
 qd : apartI R.aQ R.nQ R.aD R.nD
 qz : ∀ i, i < R.nS → apartI R.aQ R.nQ (R.A i) (R.L i)
 dz : ∀ i, i < R.nS → apartI R.aD R.nD (R.A i) (R.L i)
 zz : ∀ i j, i < R.nS → j < R.nS → i ≠ j → apartI (R.A i) (R.L i) (R.A j) (R.L j)
theorem OwnRn.rd {w : World} {base : Nat} {R : Rnd} (h : OwnRn w base R) : RdRnd w R := ⟨h.q.read, h.d.read, h.s.read, fun i hi => (h.z i hi).read⟩
theorem OwnRn.up {w w' : World} {base : Nat} {R : Rnd} (h : OwnRn w base R) (hb : Below w.heap.size w w') : OwnRn w' base R :=
 ⟨h.q.up hb, h.d.up hb, h.s.up hb, fun i hi => (h.z i hi).up hb, h.qd, h.qz, h.dz, h.zz⟩
theorem OwnRn.mono {w : World} {base base' : Nat} {R : Rnd} (h : OwnRn w base R) (hb : base' ≤ base) : OwnRn w base' R :=
 ⟨h.q.mono hb, h.d.mono hb, h.s.mono hb, fun i hi => (h.z i hi).mono hb, h.qd, h.qz, h.dz, h.zz⟩
theorem OwnRn.touch {w w' : World} {base : Nat} {R : Rnd} {S : List Nat} (h : OwnRn w base R) (ht : Touch S w w') (hS : ∀ x ∈ S, x < base) : OwnRn w' base R :=
 have key : ∀ {a : Option Addr} {n : Nat} {f : Nat → Int}, VI w base a n f → VI w' base a n f := fun hv => hv.touchS ht (fun x hx hx2 => by
  have h1 := (hv.blk x hx).1
  have h2 := hS x hx2
  omega)
 ⟨key h.q, key h.d, h.s.imp id (by
  rintro ⟨g, ha, hg, hr⟩
  exact ⟨g, ha, hg, hr.keep (ht.block g hr.lt (fun hx => by have := hS g hx; omega))⟩), fun i hi => key (h.z i hi), h.qd, h.qz, h.dz, h.zz⟩
def newR (n : Nat) (f : Nat → Int) (aQ : Option Addr) (cQ gD gS : Nat) : Rnd :=
 ⟨aQ, n, cQ, f, some ⟨gD, 0, none⟩, n, n, fun _ => 0, 0, true, some ⟨gS, 0, none⟩, n, n, fun _ => none, fun _ => 0, fun _ => 0, fun _ _ => 0⟩
def zR : Rnd := ⟨none, 0, 0, fun _ => 0, none, 0, 0, fun _ => 0, 0, false, none, 0, 0, fun _ => none, fun _ => 0, fun _ => 0, fun _ _ => 0⟩
theorem zR_own (w : World) (base : Nat) : OwnRn w base zR :=
 ⟨.inl rfl, .inl rfl, .inl rfl, fun i hi => .inl rfl, fun x hx => by simp [blkI, zR] at hx, fun i _ x hx => by simp [blkI, zR] at hx, fun i _ x hx => by simp [blkI, zR] at hx, fun i j _ _ _ x hx => by simp [blkI, zR] at hx⟩
theorem newR_ok {n : Nat} {f : Nat → Int} {aQ aQ' : Option Addr} {cQ gD gS cQ' gD' gS' : Nat} : (newR n f aQ cQ gD gS).Ok ↔ (newR n f aQ' cQ' gD' gS').Ok := ⟨fun h => ⟨h.n, h.d, h.s, h.t, h.c⟩, fun h => ⟨h.n, h.d, h.s, h.t, h.c⟩⟩
theorem newR_fit {n : Nat} {f : Nat → Int} {aQ : Option Addr} {cQ gD gS : Nat} (hn : n ≤ 1048576) : (newR n f aQ cQ gD gS).Fit :=
 have h : n ≤ maxLen := by unfold maxLen; omega
 ⟨h, h, h, fun i hi => Nat.zero_le _⟩
structure Alike (R1 R2 : Rnd) : Prop where
 nQ : R2.nQ = R1.nQ
 q : R2.q = R1.q
 nD : R2.nD = R1.nD
 d : R2.d = R1.d
 t : R2.turn = R1.turn
 f : R2.fresh = R1.fresh
 nS : R2.nS = R1.nS
 l : R2.L = R1.L
 z : R2.z = R1.z
theorem Alike.refl (R : Rnd) : Alike R R := ⟨rfl, rfl, rfl, rfl, rfl, rfl, rfl, rfl, rfl⟩
theorem Alike.symm {A B : Rnd} (h : Alike A B) : Alike B A := ⟨h.nQ.symm, h.q.symm, h.nD.symm, h.d.symm, h.t.symm, h.f.symm, h.nS.symm, h.l.symm, h.z.symm⟩
theorem Alike.trans {A B C : Rnd} (h : Alike A B) (k : Alike B C) : Alike A C := ⟨k.nQ.trans h.nQ, k.q.trans h.q, k.nD.trans h.nD, k.d.trans h.d, k.t.trans h.t, k.f.trans h.f, k.nS.trans h.nS, k.l.trans h.l, k.z.trans h.z⟩
def newM (n : Nat) (f : Nat → Int) (ok : Bool) : Rnd := if ok then newR n f none 0 0 0 else zR
def put5 (w : World) (g : Nat) (v0 v1 v2 v3 v4 : Value) : World := ((((w.setCell ⟨g, 0, none⟩ v0).setCell ⟨g, 1, none⟩ v1).setCell ⟨g, 2, none⟩ v2).setCell ⟨g, 3, none⟩ v3).setCell ⟨g, 4, none⟩ v4
theorem put5_touch (w : World) (g : Nat) (v0 v1 v2 v3 v4 : Value) : Touch [g] w (put5 w g v0 v1 v2 v3 v4) :=
 (((((Touch.refl [g] w).set (by simp) 0 v0).set (by simp) 1 v1).set (by simp) 2 v2).set (by simp) 3 v3).set (by simp) 4 v4
theorem put5_blk {w : World} {g : Nat} {x0 x1 x2 x3 x4 : Value} {t : TypeId} (h : w.heap[g]? = some (.cells #[x0, x1, x2, x3, x4] t (0, 0))) (v0 v1 v2 v3 v4 : Value) : (put5 w g v0 v1 v2 v3 v4).heap[g]? = some (.cells #[v0, v1, v2, v3, v4] t (0, 0)) :=
 blk_set (i := 4) (blk_set (i := 3) (blk_set (i := 2) (blk_set (i := 1) (blk_set (i := 0) h v0) v1) v2) v3) v4
structure Made (n : Nat) (f : Nat → Int) (w W : World) (aQ : Option Addr) (cQ gD gS gB : Nat) : Prop where
 below : Below w.heap.size w W
 own : OwnRn W w.heap.size (newR n f aQ cQ gD gS)
 lo : w.heap.size ≤ gB
 b : W.heap[gB]? = some (.cells #[.slice aQ n cQ, .slice (some ⟨gD, 0, none⟩) n n, .int .i64 0, .bool true, .slice (some ⟨gS, 0, none⟩) n n] 116 (0, 0))
theorem Mk.made {n : Nat} {f : Nat → Int} {w W : World} {aQ : Option Addr} {gD gS gB : Nat} (cQ : Nat) (h : Mk n f w W none (some aQ) (some gD) (some gS) (some gB)) :
  Made n f w (put5 W gB (.slice aQ n cQ) (.slice (some ⟨gD, 0, none⟩) n n) (.int .i64 0) (.bool true) (.slice (some ⟨gS, 0, none⟩) n n)) aQ cQ gD gS gB := by
 have hb := h.b gB rfl
 have ht := put5_touch W gB (.slice aQ n cQ) (.slice (some ⟨gD, 0, none⟩) n n) (.int .i64 0) (.bool true) (.slice (some ⟨gS, 0, none⟩) n n)
 have key : ∀ {a : Option Addr} {m : Nat} {z : Nat → Int}, VI W w.heap.size a m z → ∀ x ∈ blkI a m, x ∉ [gB] := by
  intro a m z hv x hx hx2
  simp at hx2
  subst hx2
  unfold blkI at hx
  split at hx
  ·
   simp at hx
  ·
   rename_i h0
   rcases hv with h1 | ⟨g', rfl, _, arr, h2, _⟩
   ·
    exact h0 h1
   ·
    simp at hx
    subst hx
    rw [hb.2] at h2
    simp at h2
 refine ⟨h.below.trans (ht.below h.below.size (fun x hx => by simp at hx; subst hx; exact hb.1)), ⟨(h.q aQ rfl).touchS ht (key (h.q aQ rfl)), (h.d gD rfl).touchS ht (key (h.d gD rfl)), (h.s gS rfl).imp id ?_, fun i _ => .inl rfl, h.qd aQ gD rfl rfl, fun i _ x _ hx => ?_, fun i _ x _ hx => ?_, fun i j _ _ _ x hx => ?_⟩, hb.1, put5_blk hb.2 _ _ _ _ _⟩
 ·
  rintro ⟨g, ha, hg, hr⟩
  refine ⟨g, ha, hg, hr.keep (ht.block g hr.lt ?_)⟩
  intro hx
  simp at hx
  subst hx
  obtain ⟨arr, h2, _⟩ := hr
  rw [hb.2] at h2
  simp at h2
 ·
  simp [blkI, newR] at hx
 ·
  simp [blkI, newR] at hx
 ·
  simp [blkI, newR] at hx
theorem notInI {w : World} {base : Nat} {a : Option Addr} {n : Nat} {f : Nat → Int} (h : VI w base a n f) {g : Nat} {arr : Array Value} {t : TypeId} (ht : t ≠ 2) (hg : w.heap[g]? = some (.cells arr t (0, 0))) : g ∉ blkI a n := by
 intro hx
 unfold blkI at hx
 split at hx
 ·
  simp at hx
 ·
  rename_i h0
  rcases h with h1 | ⟨g', rfl, _, arr', h2, _⟩
  ·
   exact h0 h1
  ·
   simp at hx
   subst hx
   rw [hg] at h2
   simp at h2
   exact ht h2.2
theorem VS.touchI {w w' : World} {base : Nat} {a : Option Addr} {n : Nat} {F : Nat → Value} {S : List Nat} (h : VS w base a n F) (ht : Touch S w w') (hS : ∀ g arr, w.heap[g]? = some (.cells arr 25 (0, 0)) → g ∉ S) : VS w' base a n F :=
 h.imp id (by
  rintro ⟨g, ha, hg, hr⟩
  refine ⟨g, ha, hg, hr.keep (ht.block g hr.lt ?_)⟩
  obtain ⟨arr, h2, _⟩ := hr
  exact hS g arr h2)
theorem wpList_ldT {ops : Array Oper} {rest : List Oper} {o : Oper} {a : Act} {w : World} {Q : Exit → Act → World → Prop} (hg : o.guard = none) (ty : TypeId) (n : Nat) (d : TypeDesc) (hu : Tryz.prog.underlying ty = some d) (hd : d.isRow = true) (hi : (Tryz.prog.info? ty).map (·.size) = some n) (x : Operand) (ho : o.op = .load ty x) (b off : Nat) (hx : a.eval x = .pointer (some ⟨b, off, none⟩))
  (cs : Array Value) (hs : cs.size = n) (hc : ∀ j, j < n → w.cell? ⟨b, off + j, none⟩ = cs[j]?) (h : wpList Tryz.prog ops Q rest (a.put o.dst (.agg cs)) w) : wpList Tryz.prog ops Q (o :: rest) a w :=
 wpList_load_mid hg ty x ho b off hx cs.toList d (fun j v hv => by
  have hj : j < n := by
   have := (List.getElem?_eq_some_iff.1 hv).1
   rw [Array.length_toList] at this
   omega
  rw [hc j hj, ← Array.getElem?_toList]
  exact hv) hu hd (by rw [hi, Array.length_toList, hs]) (by rw [Array.toArray_toList]; exact h)
def Rnd.tot (R : Rnd) : Nat := R.nQ + R.nD + sumL R.L R.nS
def Lng.tot (l : Lng) : Nat := l.nT + sumL l.uL l.nU + l.R.tot
def Swg.tot (S : Swg) : Nat := S.nE + (S.N.nU + S.N.nP) + S.nK + (S.nL + sumL (fun i => (S.L i).tot) S.nL)
def RdT (m : Nat) (w : World) (a : Option Addr) (n : Nat) (c : Nat → Array Value) : Prop := ∀ i, i < n → (c i).size = m ∧ ∃ g o, a = some ⟨g, o, none⟩ ∧ ∀ j, j < m → w.cell? ⟨g, o + i * m + j, none⟩ = (c i)[j]?
theorem RdT.nil (m : Nat) (w : World) (a : Option Addr) (c : Nat → Array Value) : RdT m w a 0 c := fun i hi => by omega
theorem keepT {m : Nat} {w w2 : World} {g o : Nat} {cs : Array Value} (hs : cs.size = m) (hc : ∀ j, j < m → w.cell? ⟨g, o + j, none⟩ = cs[j]?) (hb : Below w.heap.size w w2) : ∀ j, j < m → w2.cell? ⟨g, o + j, none⟩ = cs[j]? := by
 intro j hj
 have h2 := hc j hj
 have h3 : j < cs.size := by omega
 rw [Array.getElem?_eq_getElem h3] at h2
 exact ((hb.cell (p := ⟨g, o + j, none⟩) (cellLt h2)).trans h2).trans (Array.getElem?_eq_getElem h3).symm
theorem RdT.up {m : Nat} {w w2 : World} {a : Option Addr} {n : Nat} {c : Nat → Array Value} (h : RdT m w a n c) (hb : Below w.heap.size w w2) : RdT m w2 a n c := by
 intro i hi
 obtain ⟨hs, g, o, ha, hc⟩ := h i hi
 exact ⟨hs, g, o, ha, keepT hs hc hb⟩
def Pkt.flight (x : Pkt) : Array Value := #[.int .i64 x.id, .int .i64 x.inn, .int .i64 x.k, .int .i64 x.d, .int .i64 x.s, .int .i64 x.p, .string x.b]
def RdF (w : World) (a : Option Addr) (n : Nat) (F : Nat → Pkt) : Prop := RdT 5 w a n fun i => (F i).frame
theorem RdF.up {w w2 : World} {a : Option Addr} {n : Nat} {F : Nat → Pkt} (h : RdF w a n F) (hb : Below w.heap.size w w2) : RdF w2 a n F := RdT.up h hb
theorem RdF.at {w : World} {a : Option Addr} {n : Nat} {F : Nat → Pkt} (h : RdF w a n F) {i : Nat} (hi : i < n) : ∃ g o, a = some ⟨g, o, none⟩ ∧ ∀ j, j < 5 → w.cell? ⟨g, o + i * 5 + j, none⟩ = (F i).frame[j]? := (h i hi).2
def RdV (w : World) (a : Option Addr) (n : Nat) (F : Nat → Pkt) : Prop := RdT 7 w a n fun i => (F i).flight
theorem RdV.up {w w2 : World} {a : Option Addr} {n : Nat} {F : Nat → Pkt} (h : RdV w a n F) (hb : Below w.heap.size w w2) : RdV w2 a n F := RdT.up h hb
theorem RdV.at {w : World} {a : Option Addr} {n : Nat} {F : Nat → Pkt} (h : RdV w a n F) {i : Nat} (hi : i < n) : ∃ g o, a = some ⟨g, o, none⟩ ∧ ∀ j, j < 7 → w.cell? ⟨g, o + i * 7 + j, none⟩ = (F i).flight[j]? := (h i hi).2
structure Hst where
 st : Bool
 aO : Option Addr
 nO : Nat
 cO : Nat
 O : Nat → Pkt
 aG : Option Addr
 nG : Nat
 cG : Nat
 G : Nat → Pkt
def Hst.cells (h : Hst) : Array Value := #[.bool h.st, .slice h.aO h.nO h.cO, .slice h.aG h.nG h.cG]
structure RdHt (w : World) (h : Hst) : Prop where
 o : RdF w h.aO h.nO h.O
 g : RdF w h.aG h.nG h.G
theorem RdHt.up {w w2 : World} {h : Hst} (k : RdHt w h) (hb : Below w.heap.size w w2) : RdHt w2 h := ⟨k.o.up hb, k.g.up hb⟩
def RdHs (w : World) (a : Option Addr) (n : Nat) (H : Nat → Hst) : Prop := RdT 3 w a n fun i => (H i).cells
theorem RdHs.up {w w2 : World} {a : Option Addr} {n : Nat} {H : Nat → Hst} (h : RdHs w a n H) (hb : Below w.heap.size w w2) : RdHs w2 a n H := RdT.up h hb
theorem RdHs.at {w : World} {a : Option Addr} {n : Nat} {H : Nat → Hst} (h : RdHs w a n H) {i : Nat} (hi : i < n) : ∃ g o, a = some ⟨g, o, none⟩ ∧ ∀ j, j < 3 → w.cell? ⟨g, o + i * 3 + j, none⟩ = (H i).cells[j]? := (h i hi).2
structure Hst.Small (h : Hst) : Prop where
 o : h.nO ≤ 1048576
 bo : ∀ i, i < h.nO → (h.O i).b.size ≤ 1048576
 g : h.nG ≤ 1048576
 bg : ∀ i, i < h.nG → (h.G i).b.size ≤ 1048576
structure Fab where
 S : Swg
 aH : Option Addr
 nH : Nat
 cH : Nat
 H : Nat → Hst
 aU : Option Addr
 nU : Nat
 cU : Nat
 U : Nat → Pkt
 aD : Option Addr
 nD : Nat
 cD : Nat
 D : Nat → Pkt
def Fab.cells (F : Fab) : Array Value := #[.int .i64 F.S.C.p, .int .i64 F.S.C.c, .int .i64 F.S.C.xo, .int .i64 F.S.C.xn, .int .i64 F.S.C.hd, .int .i64 F.S.C.lo, .int .i64 F.S.C.dl, .int .i64 F.S.now, .int .i64 F.S.nx, .slice F.S.aE F.S.nE F.S.cE, .slice F.S.N.aU F.S.N.nU F.S.N.cU, .int .i64 F.S.N.lo, .slice F.S.N.aP F.S.N.nP F.S.N.cP, .slice F.S.aK F.S.nK F.S.cK, .slice F.S.aL F.S.nL F.S.cL, .int .i64 F.S.dr, .int .i64 F.S.lst, .slice F.aH F.nH F.cH, .slice F.aU F.nU F.cU, .slice F.aD F.nD F.cD]
theorem Fab.sw (F : Fab) : ∀ j, j < 17 → F.cells[j]? = F.S.cells[j]?
 | 0, _ => rfl | 1, _ => rfl | 2, _ => rfl | 3, _ => rfl | 4, _ => rfl | 5, _ => rfl | 6, _ => rfl | 7, _ => rfl | 8, _ => rfl | 9, _ => rfl | 10, _ => rfl | 11, _ => rfl | 12, _ => rfl | 13, _ => rfl | 14, _ => rfl | 15, _ => rfl | 16, _ => rfl
 | j + 17, h => absurd h (by omega)
structure RdFb (w : World) (F : Fab) : Prop where
 s : RdSg w F.S
 h : RdHs w F.aH F.nH F.H
 hs : ∀ i, i < F.nH → RdHt w (F.H i)
 u : RdV w F.aU F.nU F.U
 d : RdV w F.aD F.nD F.D
theorem RdFb.up {w w2 : World} {F : Fab} (h : RdFb w F) (hb : Below w.heap.size w w2) : RdFb w2 F := ⟨h.s.up hb, h.h.up hb, fun i hi => (h.hs i hi).up hb, h.u.up hb, h.d.up hb⟩
structure Fab.Small (F : Fab) : Prop where
 s : F.S.Small
 h : F.nH ≤ 1048576
 hs : ∀ i, i < F.nH → (F.H i).Small
 u : F.nU ≤ 1048576
 bu : ∀ i, i < F.nU → (F.U i).b.size ≤ 1048576
 d : F.nD ≤ 1048576
 bd : ∀ i, i < F.nD → (F.D i).b.size ≤ 1048576
def Pkt.fOk (x : Pkt) : Prop := frOkB x.k x.d x.s x.p x.b.size = true
structure Hst.Ok (h : Hst) : Prop where
 le : h.nO ≤ 40
 o : ∀ i, i < h.nO → (h.O i).frOk
 g : ∀ i, i < h.nG → (h.G i).frOk
def Pkt.way (p now dl : Int) (x : Pkt) : Prop := (0 ≤ x.id ∧ x.id ≤ p - 1) ∧ (now + 1 ≤ x.inn ∧ x.inn ≤ now + dl)
def Fab.upOk (F : Fab) : Prop := F.nU ≤ 1000 ∧ ∀ i, i < F.nU → (F.U i).way F.S.C.p F.S.now F.S.C.dl ∧ (F.U i).frOk
def Fab.downOk (F : Fab) : Prop := F.nD ≤ 1000 ∧ ∀ i, i < F.nD → (F.D i).way F.S.C.p F.S.now F.S.C.dl ∧ (F.D i).fOk
def Fab.hostsOk (F : Fab) : Prop := (F.nH : Int) = F.S.C.p ∧ ∀ i, i < F.nH → (F.H i).Ok
structure Fab.Ok (F : Fab) : Prop where
 s : F.S.Ok
 h : F.hostsOk
 u : F.upOk
 d : F.downOk
structure AlikeH (a b : Hst) : Prop where
 st : b.st = a.st
 nO : b.nO = a.nO
 O : b.O = a.O
 nG : b.nG = a.nG
 G : b.G = a.G
theorem AlikeH.symm {a b : Hst} (h : AlikeH a b) : AlikeH b a := ⟨h.st.symm, h.nO.symm, h.O.symm, h.nG.symm, h.G.symm⟩
theorem AlikeH.trans {a b c : Hst} (h : AlikeH a b) (k : AlikeH b c) : AlikeH a c := ⟨k.st.trans h.st, k.nO.trans h.nO, k.O.trans h.O, k.nG.trans h.nG, k.G.trans h.G⟩
theorem AlikeH.ok1 {a b : Hst} (h : AlikeH a b) (k : a.Ok) : b.Ok := ⟨by rw [h.nO]; exact k.le, by rw [h.nO, h.O]; exact k.o, by rw [h.nG, h.G]; exact k.g⟩
theorem AlikeH.small {a b : Hst} (h : AlikeH a b) (k : a.Small) : b.Small := ⟨by rw [h.nO]; exact k.o, by rw [h.nO, h.O]; exact k.bo, by rw [h.nG]; exact k.g, by rw [h.nG, h.G]; exact k.bg⟩
theorem infoFr5 : (Tryz.prog.info? 110).map (·.size) = some 5 := by kernel_rfl
theorem infoHt3 : (Tryz.prog.info? 73).map (·.size) = some 3 := by kernel_rfl
theorem infoFl7 : (Tryz.prog.info? 122).map (·.size) = some 7 := by kernel_rfl
theorem infoFb20 : (Tryz.prog.info? 49).map (·.size) = some 20 := by kernel_rfl
theorem Pkt.oneF (x : Pkt) : x.frame.all (·.oneCell') = true := by simp [Pkt.frame, Value.oneCell']
theorem Pkt.oneV (x : Pkt) : x.flight.all (·.oneCell') = true := by simp [Pkt.flight, Value.oneCell']
theorem Hst.oneH (x : Hst) : x.cells.all (·.oneCell') = true := by simp [Hst.cells, Value.oneCell']
theorem blkT {w : World} {g : Nat} {cs : Array Value} {t : TypeId} (h : w.heap[g]? = some (.cells cs t (0, 0))) (m : Nat) : ∀ j, j < m → w.cell? ⟨g, 0 + j, none⟩ = cs[j]? := fun j _ => by
 rw [Nat.zero_add]
 exact blk_cell h j
theorem blkV7 {w : World} {g : Nat} {x : Pkt} {t : TypeId} (h : w.heap[g]? = some (.cells x.flight t (0, 0))) : ∀ j, j < 5 → w.cell? ⟨g, 2 + j, none⟩ = x.frame[j]?
 | 0, _ => blk_cell h 2
 | 1, _ => blk_cell h 3
 | 2, _ => blk_cell h 4
 | 3, _ => blk_cell h 5
 | 4, _ => blk_cell h 6
 | j + 5, q => absurd q (by omega)
theorem blkSw {w : World} {g : Nat} {F : Fab} {t : TypeId} (h : w.heap[g]? = some (.cells F.cells t (0, 0))) : ∀ j, j < 17 → w.cell? ⟨g, 0 + j, none⟩ = F.S.cells[j]? := fun j hj => by
 rw [Nat.zero_add, blk_cell h j]
 exact F.sw j hj
theorem wpList_ldTg {ops : Array Oper} {rest : List Oper} {o : Oper} {a : Act} {w : World} {Q : Exit → Act → World → Prop} (ty : TypeId) (n : Nat) (d : TypeDesc) (hu : Tryz.prog.underlying ty = some d) (hd : d.isRow = true) (hi : (Tryz.prog.info? ty).map (·.size) = some n) (x : Operand) (ho : o.op = .load ty x) (hw : Region.wanted o (yielded ops a.tmps) = true) (b off : Nat) (hx : a.eval x = .pointer (some ⟨b, off, none⟩))
  (cs : Array Value) (hs : cs.size = n) (hc : ∀ j, j < n → w.cell? ⟨b, off + j, none⟩ = cs[j]?) (h : wpList Tryz.prog ops Q rest (a.put o.dst (.agg cs)) w) : wpList Tryz.prog ops Q (o :: rest) a w :=
 wpList_step fun K hK => by
  rw [if_pos hw]
  have hl := run_loadVar_mid (P := Tryz.prog) w b off ty cs.toList d (fun j v hv => by
   have hj : j < n := by
    have := (List.getElem?_eq_some_iff.1 hv).1
    rw [Array.length_toList] at this
    omega
   rw [hc j hj, ← Array.getElem?_toList]
   exact hv) hu hd (by rw [hi, Array.length_toList, hs])
  rw [Array.toArray_toList] at hl
  unfold Oper.wp execOp
  simp only [ho, hx, Instr.loadAt, Instr.sureAddr, Sem.run_bind, Sem.run_pure, Result.andThen_ok, hl]
  exact hK _ _ h
theorem iFrameOk_ok (x : Pkt) (w : World) (hb : x.b.size ≤ maxLen) (ok : Bool) (hok : ok = true ↔ x.fOk) :
  Calls Tryz.prog 33 #[.agg x.frame] w fun e w' => e = .returned (.bool ok) ∧ Below w.heap.size w w' := by
 refine (iFrameOk_any x.k x.d x.s x.p x.b w hb).mono ?_
 rintro e w1 ⟨rfl, h⟩
 refine ⟨ret_bool ?_, h⟩
 rw [Bool.eq_iff_iff, hok]
 rfl
theorem sFrameOk_ok (x : Pkt) (w : World) (hb : x.b.size ≤ maxLen) (ok : Bool) (hok : ok = true ↔ x.fOk) :
  Calls Tryz.prog 59 #[.agg x.frame] w fun e w' => e = .returned (.bool ok) ∧ Below w.heap.size w w' := by
 refine (sFrameOk_any x.k x.d x.s x.p x.b w hb).mono ?_
 rintro e w1 ⟨rfl, h⟩
 refine ⟨ret_bool ?_, h⟩
 rw [Bool.eq_iff_iff, hok]
 rfl
theorem fitOf {n : Nat} (h : n ≤ 1048576) : n ≤ maxLen := by unfold maxLen; omega
set_option maxRecDepth 10000 in
set_option maxHeartbeats 1000000 in
theorem allData_any (a : Option Addr) (n c : Nat) (F : Nat → Pkt) (w : World) (hn : n ≤ 1048576) (hb : ∀ i, i < n → (F i).b.size ≤ 1048576) (hr : RdF w a n F) (ok : Bool) (hok : ok = true ↔ ∀ i, i < n → (F i).frOk) :
  Calls Tryz.prog 76 #[.slice a n c] w fun e w' => e = .returned (.bool ok) ∧ Below w.heap.size w w' := by
 have HO : Hid (ok = true ↔ ∀ i, i < n → (F i).frOk) := hok
 have HR : Hid (RdF w a n F) := hr
 have HZ : Hid (∀ i, i < n → (F i).b.size ≤ 1048576) := hb
 clear hok hr hb
 go_enter Tryz.func76, Tryz.ntmps76
 go_wp2_with fail
 go_loopw [7] (fun i wr => ∃ k : Nat, k ≤ n ∧ i = .int .i64 k ∧ (∀ i, i < k → (F i).frOk) ∧ Below w.heap.size w wr) (fun i _ => n - (intOf i).toNat)
 case atStart => exact ⟨0, Nat.zero_le _, rfl, fun i hi => by omega, Below.refl _ _⟩
 case round =>
  obtain ⟨k, hk, rfl, hall, hB⟩ := hrel
  have HA : Hid (∀ i, i < k → (F i).frOk) := hall
  clear hall
  by_cases hlt : k < n
  ·
   have hlt' : (k : Int) < n := by omega
   obtain ⟨g, o, ea, hc⟩ := (HR.out.up hB).at hlt
   obtain ⟨V, eV⟩ : ∃ V, wr.alloc (.cells (F k).frame 110) = V := ⟨_, rfl⟩
   have hbV : Below wr.heap.size wr V := by rw [← eV]; exact (Below.refl _ _).alloc (Nat.le_refl _) _
   have kV : V.heap[wr.heap.size]? = some (.cells (F k).frame 110 (0, 0)) := by rw [← eV]; exact blk_new _ _
   have hBV : Below w.heap.size w V := hB.trans (hbV.mono hB.size)
   have HkV : Hid (∀ j, j < 5 → V.cell? ⟨wr.heap.size, 0 + j, none⟩ = (F k).frame[j]?) := blkT kV 5
   obtain ⟨lk, hlk⟩ := ok_decS ((F k).frOk)
   have HL : Hid (lk = true ↔ (F k).frOk) := hlk
   have HC : Hid (∀ j, j < 5 → wr.cell? ⟨g, o + k * 5 + j, none⟩ = (F k).frame[j]?) := hc
   rw [ea]
   clear hlk ea kV hbV hc
   go_wp2_with (first | refine wpList_ldT rfl 110 5 _ Tryz.underlying110 rfl infoFr5 (.tmp 9) rfl g (o + k * 5) rfl (F k).frame rfl HC.out ?_ | refine wpList_stNew 110 5 infoFr5 rfl (.tmp 4) (.tmp 10) rfl (F k).frame _ rfl rfl rfl rfl rfl (Pkt.oneF _) (eV ▸ ?_) | refine wpList_ldT rfl 110 5 _ Tryz.underlying110 rfl infoFr5 (.tmp 4) rfl wr.heap.size 0 rfl (F k).frame rfl HkV.out ?_)
   clear HC HkV
   refine (dataFrameOk_any (F k) _ (fitOf (HZ.out k hlt)) lk HL.out).mono ?_
   rintro e w2 ⟨rfl, hb⟩
   have hB2 : Below w.heap.size w w2 := hBV.trans (hb.mono hBV.size)
   clear hb hBV hB eV
   cases lk
   ·
    have HF : Hid (ok = false) := by
     rw [Hid, Bool.eq_false_iff]
     intro e
     exact absurd (HL.out.2 (HO.out.1 e k hlt)) (by simp)
    go_wp2_with fail
    go_ret
    exact ⟨ret_bool HF.out.symm, hB2⟩
   ·
    have HL2 : Hid ((F k).frOk) := HL.out.1 rfl
    clear HL
    go_wp2_with fail
    go_roundw
    case rel => exact ⟨k + 1, by omega, by go_num, fun i hi => by
     by_cases e : i = k
     ·
      subst e; exact HL2.out
     ·
      exact HA.out i (by omega), hB2⟩
    case measure => simp [intOf]; omega
  ·
   obtain rfl : k = n := by omega
   have HT : Hid (ok = true) := HO.out.2 HA.out
   go_wp2_with fail
   go_ret
   exact ⟨ret_bool HT.out.symm, hB⟩
set_option maxRecDepth 100000 in
set_option maxHeartbeats 4000000 in
theorem iHosts_any (F : Fab) (w : World) (hs : F.Small) (hr : RdFb w F) (ok : Bool) (hok : ok = true ↔ F.hostsOk) :
  Calls Tryz.prog 30 #[.agg F.cells] w fun e w' => e = .returned (.bool ok) ∧ Below w.heap.size w w' := by
 have HO : Hid (ok = true ↔ F.hostsOk) := hok
 have HR : Hid (RdFb w F) := hr
 have HSm : Hid F.Small := hs
 have hnH : F.nH ≤ 1048576 := hs.h
 have hB : Below (w.heap.size + 1) (w.alloc (.cells F.cells 49)) (w.alloc (.cells F.cells 49)) := Below.refl _ _
 have c17 : (w.alloc (.cells F.cells 49)).cell? ⟨w.heap.size, 17, none⟩ = some (.slice F.aH F.nH F.cH) := boxed hB 17
 have c0 : (w.alloc (.cells F.cells 49)).cell? ⟨w.heap.size, 0, none⟩ = some (.int .i64 F.S.C.p) := boxed hB 0
 clear hok hr hs
 by_cases hn : (F.nH : Int) = F.S.C.p
 ·
  have hn' : ((F.nH : Int) != F.S.C.p) = false := by simp [hn]
  have HN : Hid ((F.nH : Int) = F.S.C.p) := hn
  clear hn
  go_enter Tryz.func30, Tryz.ntmps30
  go_wp2_with fail
  clear hn' c17 c0
  go_loopw [16] (fun i wr => ∃ k : Nat, k ≤ F.nH ∧ i = .int .i64 k ∧ (∀ i, i < k → (F.H i).Ok) ∧ Below (w.heap.size + 1) (w.alloc (.cells F.cells 49)) wr) (fun i _ => F.nH - (intOf i).toNat)
  case atStart => exact ⟨0, Nat.zero_le _, rfl, fun i hi => by omega, hB⟩
  case round =>
   clear hB
   obtain ⟨k, hk, rfl, hall, hB⟩ := hrel
   have HA : Hid (∀ i, i < k → (F.H i).Ok) := hall
   clear hall
   by_cases hlt : k < F.nH
   ·
    have hlt' : (k : Int) < F.nH := by omega
    obtain ⟨g, o, ea, hc⟩ := (HR.out.up (under hB)).h.at hlt
    obtain ⟨V, eV⟩ : ∃ V, wr.alloc (.cells (F.H k).cells 73) = V := ⟨_, rfl⟩
    have hbV : Below wr.heap.size wr V := by rw [← eV]; exact (Below.refl _ _).alloc (Nat.le_refl _) _
    have kV : V.heap[wr.heap.size]? = some (.cells (F.H k).cells 73 (0, 0)) := by rw [← eV]; exact blk_new _ _
    have hBV := next hB hbV
    have HkV : Hid (V.heap[wr.heap.size]? = some (.cells (F.H k).cells 73 (0, 0))) := kV
    have v1 : V.cell? ⟨wr.heap.size, 1, none⟩ = some (.slice (F.H k).aO (F.H k).nO (F.H k).cO) := blk_cell kV 1
    have HSk : Hid (F.H k).Small := HSm.out.hs k hlt
    have HRk : Hid (RdHt V (F.H k)) := (HR.out.hs k hlt).up (under hBV)
    have HC : Hid (∀ j, j < 3 → wr.cell? ⟨g, o + k * 3 + j, none⟩ = (F.H k).cells[j]?) := hc
    rw [ea]
    clear ea kV hbV hc
    by_cases h40 : (F.H k).nO ≤ 40
    ·
     have h40' : ¬ (40 : Int) < (F.H k).nO := by omega
     have H40 : Hid ((F.H k).nO ≤ 40) := h40
     clear h40
     obtain ⟨lk, hlk⟩ := ok_decS (∀ i, i < (F.H k).nO → ((F.H k).O i).frOk)
     have HL : Hid (lk = true ↔ ∀ i, i < (F.H k).nO → ((F.H k).O i).frOk) := hlk
     obtain ⟨mk, hmk⟩ := ok_decS (∀ i, i < (F.H k).nG → ((F.H k).G i).frOk)
     have HM : Hid (mk = true ↔ ∀ i, i < (F.H k).nG → ((F.H k).G i).frOk) := hmk
     clear hlk hmk
     go_wp2_with (first | refine wpList_ldT rfl 73 3 _ Tryz.underlying73 rfl infoHt3 (.tmp 18) rfl g (o + k * 3) rfl (F.H k).cells rfl HC.out ?_ | refine wpList_stNew 73 3 infoHt3 rfl (.tmp 4) (.tmp 19) rfl (F.H k).cells _ rfl rfl rfl rfl rfl (Hst.oneH _) (eV ▸ ?_))
     clear HC v1
     refine (allData_any (F.H k).aO (F.H k).nO (F.H k).cO (F.H k).O _ HSk.out.o HSk.out.bo HRk.out.o lk HL.out).mono ?_
     rintro e w2 ⟨rfl, hb⟩
     have hB2 := next hBV hb
     replace HkV : Hid (w2.heap[wr.heap.size]? = some (.cells (F.H k).cells 73 (0, 0))) := (hb.block _ (blk_lt HkV.out)).trans HkV.out
     replace HRk : Hid (RdHt w2 (F.H k)) := HRk.out.up hb
     clear hb hBV hB eV
     cases lk
     ·
      have HF : Hid (ok = false) := by
       rw [Hid, Bool.eq_false_iff]
       intro e
       exact absurd (HL.out.2 ((HO.out.1 e).2 k hlt).o) (by simp)
      go_wp2_with fail
      go_ret
      exact ⟨ret_bool HF.out.symm, under hB2⟩
     ·
      have HL2 : Hid (∀ i, i < (F.H k).nO → ((F.H k).O i).frOk) := HL.out.1 rfl
      have v2 : w2.cell? ⟨wr.heap.size, 2, none⟩ = some (.slice (F.H k).aG (F.H k).nG (F.H k).cG) := blk_cell HkV.out 2
      clear HL
      go_wp2_with fail
      clear v2
      refine (allData_any (F.H k).aG (F.H k).nG (F.H k).cG (F.H k).G _ HSk.out.g HSk.out.bg HRk.out.g mk HM.out).mono ?_
      rintro e w3 ⟨rfl, hb⟩
      have hB3 := next hB2 hb
      clear hb hB2 HkV
      cases mk
      ·
       have HF : Hid (ok = false) := by
        rw [Hid, Bool.eq_false_iff]
        intro e
        exact absurd (HM.out.2 ((HO.out.1 e).2 k hlt).g) (by simp)
       go_wp2_with fail
       go_ret
       exact ⟨ret_bool HF.out.symm, under hB3⟩
      ·
       have HM2 : Hid (∀ i, i < (F.H k).nG → ((F.H k).G i).frOk) := HM.out.1 rfl
       clear HM
       go_wp2_with fail
       go_roundw
       case rel => exact ⟨k + 1, by omega, by go_num, fun i hi => by
        by_cases e : i = k
        ·
         subst e; exact ⟨H40.out, HL2.out, HM2.out⟩
        ·
         exact HA.out i (by omega), hB3⟩
       case measure => simp [intOf]; omega
    ·
     have h40' : (40 : Int) < (F.H k).nO := by omega
     have HF : Hid (ok = false) := by
      rw [Hid, Bool.eq_false_iff]
      intro e
      exact h40 ((HO.out.1 e).2 k hlt).le
     clear h40
     go_wp2_with (first | refine wpList_ldT rfl 73 3 _ Tryz.underlying73 rfl infoHt3 (.tmp 18) rfl g (o + k * 3) rfl (F.H k).cells rfl HC.out ?_ | refine wpList_stNew 73 3 infoHt3 rfl (.tmp 4) (.tmp 19) rfl (F.H k).cells _ rfl rfl rfl rfl rfl (Hst.oneH _) (eV ▸ ?_))
     go_ret
     exact ⟨ret_bool HF.out.symm, under hBV⟩
   ·
    obtain rfl : k = F.nH := by omega
    have hge : ¬ ((F.nH : Nat) : Int) < ((F.nH : Nat) : Int) := by omega
    have HT : Hid (ok = true) := HO.out.2 ⟨HN.out, HA.out⟩
    go_wp2_with fail
    go_ret
    exact ⟨ret_bool HT.out.symm, under hB⟩
 ·
  have hn' : ((F.nH : Int) != F.S.C.p) = true := by simp [hn]
  obtain rfl : ok = false := by
   rw [Bool.eq_false_iff]
   intro e
   exact hn (HO.out.1 e).1
  go_enter Tryz.func30, Tryz.ntmps30
  go_wp2_with fail
  go_ret
  exact ⟨rfl, under hB⟩
set_option maxRecDepth 100000 in
set_option maxHeartbeats 4000000 in
theorem flightsUp_any (S : Swg) (a : Option Addr) (n c : Nat) (U : Nat → Pkt) (w : World) (hn : n ≤ 1048576) (hb : ∀ i, i < n → (U i).b.size ≤ 1048576) (h1 : 0 ≤ S.C.p ∧ S.C.p ≤ 1000000) (h2 : 0 ≤ S.now ∧ S.now ≤ 1000000000) (h3 : 0 ≤ S.C.dl ∧ S.C.dl ≤ 1000000) (hr : RdV w a n U) (ok : Bool) (hok : ok = true ↔ n ≤ 1000 ∧ ∀ i, i < n → (U i).way S.C.p S.now S.C.dl ∧ (U i).frOk) :
  Calls Tryz.prog 31 #[.agg S.cells, .slice a n c, .func (.func 32) #[] #[]] w fun e w' => e = .returned (.bool ok) ∧ Below w.heap.size w w' := by
 have HO : Hid (ok = true ↔ n ≤ 1000 ∧ ∀ i, i < n → (U i).way S.C.p S.now S.C.dl ∧ (U i).frOk) := hok
 have HR : Hid (RdV w a n U) := hr
 have HZ : Hid (∀ i, i < n → (U i).b.size ≤ 1048576) := hb
 have hB : Below (w.heap.size + 1) (w.alloc (.cells S.cells 45)) (w.alloc (.cells S.cells 45)) := Below.refl _ _
 clear hok hr hb
 by_cases hle : n ≤ 1000
 ·
  have hle' : ¬ (1000 : Int) < n := by omega
  go_enter Tryz.func31, Tryz.ntmps31
  go_wp2_with fail
  clear hle'
  go_loopw [14] (fun i wr => ∃ k : Nat, k ≤ n ∧ i = .int .i64 k ∧ (∀ i, i < k → (U i).way S.C.p S.now S.C.dl ∧ (U i).frOk) ∧ Below (w.heap.size + 1) (w.alloc (.cells S.cells 45)) wr) (fun i _ => n - (intOf i).toNat)
  case atStart => exact ⟨0, Nat.zero_le _, rfl, fun i hi => by omega, hB⟩
  case round =>
   clear hB
   obtain ⟨k, hk, rfl, hall, hB⟩ := hrel
   have HA : Hid (∀ i, i < k → (U i).way S.C.p S.now S.C.dl ∧ (U i).frOk) := hall
   clear hall
   by_cases hlt : k < n
   ·
    have hlt' : (k : Int) < n := by omega
    obtain ⟨g, o, ea, hc⟩ := (HR.out.up (under hB)).at hlt
    obtain ⟨V, eV⟩ : ∃ V, wr.alloc (.cells (U k).flight 122) = V := ⟨_, rfl⟩
    have hbV : Below wr.heap.size wr V := by rw [← eV]; exact (Below.refl _ _).alloc (Nat.le_refl _) _
    have kV : V.heap[wr.heap.size]? = some (.cells (U k).flight 122 (0, 0)) := by rw [← eV]; exact blk_new _ _
    have hBV := next hB hbV
    have HkV : Hid (V.heap[wr.heap.size]? = some (.cells (U k).flight 122 (0, 0))) := kV
    have v0 : V.cell? ⟨wr.heap.size, 0, none⟩ = some (.int .i64 (U k).id) := blk_cell kV 0
    have HS : Hid (∀ j, j < 17 → V.cell? ⟨w.heap.size, 0 + j, none⟩ = S.cells[j]?) := blkT (kept1 hBV) 17
    have HC : Hid (∀ j, j < 7 → wr.cell? ⟨g, o + k * 7 + j, none⟩ = (U k).flight[j]?) := hc
    rw [ea]
    clear ea kV hbV hc
    go_wp2_with (first | refine wpList_ldT rfl 122 7 _ Tryz.underlying122 rfl infoFl7 (.tmp 16) rfl g (o + k * 7) rfl (U k).flight rfl HC.out ?_ | refine wpList_stNew 122 7 infoFl7 rfl (.tmp 8) (.tmp 17) rfl (U k).flight _ rfl rfl rfl rfl rfl (Pkt.oneV _) (eV ▸ ?_) | refine wpList_ldT rfl 45 17 _ Tryz.underlying45 rfl infoSg (.tmp 3) rfl w.heap.size 0 rfl S.cells rfl HS.out ?_)
    clear HC HS v0
    refine (hasPort_any S (U k).id _ (by omega) (by omega)).mono ?_
    rintro e w2 ⟨rfl, hb⟩
    have hB2 := next hBV hb
    replace HkV : Hid (w2.heap[wr.heap.size]? = some (.cells (U k).flight 122 (0, 0))) := (hb.block _ (blk_lt HkV.out)).trans HkV.out
    clear hb hBV hB eV
    by_cases hp : 0 ≤ (U k).id ∧ (U k).id ≤ S.C.p - 1
    ·
     rw [decide_eq_true hp]
     have HP : Hid (0 ≤ (U k).id ∧ (U k).id ≤ S.C.p - 1) := hp
     have v1 : w2.cell? ⟨wr.heap.size, 1, none⟩ = some (.int .i64 (U k).inn) := blk_cell HkV.out 1
     have s7 : w2.cell? ⟨w.heap.size, 7, none⟩ = some (.int .i64 S.now) := blk_cell (kept1 hB2) 7
     have s6 : w2.cell? ⟨w.heap.size, 6, none⟩ = some (.int .i64 S.C.dl) := blk_cell (kept1 hB2) 6
     clear hp
     go_wp2_with fail
     clear v1 s7 s6
     refine (isWithin_any (U k).inn (S.now + 1) (S.now + S.C.dl) _).mono ?_
     rintro e w3 ⟨rfl, rfl⟩
     by_cases ht : S.now + 1 ≤ (U k).inn ∧ (U k).inn ≤ S.now + S.C.dl
     ·
      rw [decide_eq_true ht]
      have HT : Hid (S.now + 1 ≤ (U k).inn ∧ (U k).inn ≤ S.now + S.C.dl) := ht
      have HFr : Hid (∀ j, j < 5 → w3.cell? ⟨wr.heap.size, 2 + j, none⟩ = (U k).frame[j]?) := blkV7 HkV.out
      clear ht
      obtain ⟨lk, hlk⟩ := ok_decS ((U k).frOk)
      have HL : Hid (lk = true ↔ (U k).frOk) := hlk
      clear hlk
      go_wp2_with (refine wpList_ldTg 110 5 _ Tryz.underlying110 rfl infoFr5 (.tmp 40) rfl (by kernel_rfl) wr.heap.size 2 rfl (U k).frame rfl HFr.out ?_)
      clear HFr
      refine (dataFrameOk_any (U k) _ (fitOf (HZ.out k hlt)) lk HL.out).mono ?_
      rintro e w4 ⟨rfl, hb⟩
      have hB3 := next hB2 hb
      clear hb hB2 HkV
      cases lk
      ·
       have HF : Hid (ok = false) := by
        rw [Hid, Bool.eq_false_iff]
        intro e
        exact absurd (HL.out.2 ((HO.out.1 e).2 k hlt).2) (by simp)
       go_wp2_with fail
       go_ret
       exact ⟨ret_bool HF.out.symm, under hB3⟩
      ·
       have HL2 : Hid ((U k).frOk) := HL.out.1 rfl
       clear HL
       go_wp2_with fail
       go_roundw
       case rel => exact ⟨k + 1, by omega, by go_num, fun i hi => by
        by_cases e : i = k
        ·
         subst e; exact ⟨⟨HP.out, HT.out⟩, HL2.out⟩
        ·
         exact HA.out i (by omega), hB3⟩
       case measure => simp [intOf]; omega
     ·
      rw [decide_eq_false ht]
      have HF : Hid (ok = false) := by
       rw [Hid, Bool.eq_false_iff]
       intro e
       exact ht ((HO.out.1 e).2 k hlt).1.2
      clear ht
      go_wp2_with fail
      go_ret
      exact ⟨ret_bool HF.out.symm, under hB2⟩
    ·
     rw [decide_eq_false hp]
     have HF : Hid (ok = false) := by
      rw [Hid, Bool.eq_false_iff]
      intro e
      exact hp ((HO.out.1 e).2 k hlt).1.1
     clear hp
     go_wp2_with fail
     go_ret
     exact ⟨ret_bool HF.out.symm, under hB2⟩
   ·
    obtain rfl : k = n := by omega
    have HT : Hid (ok = true) := HO.out.2 ⟨hle, HA.out⟩
    go_wp2_with fail
    go_ret
    exact ⟨ret_bool HT.out.symm, under hB⟩
 ·
  have hle' : (1000 : Int) < n := by omega
  obtain rfl : ok = false := by
   rw [Bool.eq_false_iff]
   intro e
   exact hle (HO.out.1 e).1
  go_enter Tryz.func31, Tryz.ntmps31
  go_wp2_with fail
  go_ret
  exact ⟨rfl, under hB⟩
set_option maxRecDepth 100000 in
set_option maxHeartbeats 4000000 in
theorem flightsDown_any (S : Swg) (a : Option Addr) (n c : Nat) (U : Nat → Pkt) (w : World) (hn : n ≤ 1048576) (hb : ∀ i, i < n → (U i).b.size ≤ 1048576) (h1 : 0 ≤ S.C.p ∧ S.C.p ≤ 1000000) (h2 : 0 ≤ S.now ∧ S.now ≤ 1000000000) (h3 : 0 ≤ S.C.dl ∧ S.C.dl ≤ 1000000) (hr : RdV w a n U) (ok : Bool) (hok : ok = true ↔ n ≤ 1000 ∧ ∀ i, i < n → (U i).way S.C.p S.now S.C.dl ∧ (U i).fOk) :
  Calls Tryz.prog 31 #[.agg S.cells, .slice a n c, .func (.func 33) #[] #[]] w fun e w' => e = .returned (.bool ok) ∧ Below w.heap.size w w' := by
 have HO : Hid (ok = true ↔ n ≤ 1000 ∧ ∀ i, i < n → (U i).way S.C.p S.now S.C.dl ∧ (U i).fOk) := hok
 have HR : Hid (RdV w a n U) := hr
 have HZ : Hid (∀ i, i < n → (U i).b.size ≤ 1048576) := hb
 have hB : Below (w.heap.size + 1) (w.alloc (.cells S.cells 45)) (w.alloc (.cells S.cells 45)) := Below.refl _ _
 clear hok hr hb
 by_cases hle : n ≤ 1000
 ·
  have hle' : ¬ (1000 : Int) < n := by omega
  go_enter Tryz.func31, Tryz.ntmps31
  go_wp2_with fail
  clear hle'
  go_loopw [14] (fun i wr => ∃ k : Nat, k ≤ n ∧ i = .int .i64 k ∧ (∀ i, i < k → (U i).way S.C.p S.now S.C.dl ∧ (U i).fOk) ∧ Below (w.heap.size + 1) (w.alloc (.cells S.cells 45)) wr) (fun i _ => n - (intOf i).toNat)
  case atStart => exact ⟨0, Nat.zero_le _, rfl, fun i hi => by omega, hB⟩
  case round =>
   clear hB
   obtain ⟨k, hk, rfl, hall, hB⟩ := hrel
   have HA : Hid (∀ i, i < k → (U i).way S.C.p S.now S.C.dl ∧ (U i).fOk) := hall
   clear hall
   by_cases hlt : k < n
   ·
    have hlt' : (k : Int) < n := by omega
    obtain ⟨g, o, ea, hc⟩ := (HR.out.up (under hB)).at hlt
    obtain ⟨V, eV⟩ : ∃ V, wr.alloc (.cells (U k).flight 122) = V := ⟨_, rfl⟩
    have hbV : Below wr.heap.size wr V := by rw [← eV]; exact (Below.refl _ _).alloc (Nat.le_refl _) _
    have kV : V.heap[wr.heap.size]? = some (.cells (U k).flight 122 (0, 0)) := by rw [← eV]; exact blk_new _ _
    have hBV := next hB hbV
    have HkV : Hid (V.heap[wr.heap.size]? = some (.cells (U k).flight 122 (0, 0))) := kV
    have v0 : V.cell? ⟨wr.heap.size, 0, none⟩ = some (.int .i64 (U k).id) := blk_cell kV 0
    have HS : Hid (∀ j, j < 17 → V.cell? ⟨w.heap.size, 0 + j, none⟩ = S.cells[j]?) := blkT (kept1 hBV) 17
    have HC : Hid (∀ j, j < 7 → wr.cell? ⟨g, o + k * 7 + j, none⟩ = (U k).flight[j]?) := hc
    rw [ea]
    clear ea kV hbV hc
    go_wp2_with (first | refine wpList_ldT rfl 122 7 _ Tryz.underlying122 rfl infoFl7 (.tmp 16) rfl g (o + k * 7) rfl (U k).flight rfl HC.out ?_ | refine wpList_stNew 122 7 infoFl7 rfl (.tmp 8) (.tmp 17) rfl (U k).flight _ rfl rfl rfl rfl rfl (Pkt.oneV _) (eV ▸ ?_) | refine wpList_ldT rfl 45 17 _ Tryz.underlying45 rfl infoSg (.tmp 3) rfl w.heap.size 0 rfl S.cells rfl HS.out ?_)
    clear HC HS v0
    refine (hasPort_any S (U k).id _ (by omega) (by omega)).mono ?_
    rintro e w2 ⟨rfl, hb⟩
    have hB2 := next hBV hb
    replace HkV : Hid (w2.heap[wr.heap.size]? = some (.cells (U k).flight 122 (0, 0))) := (hb.block _ (blk_lt HkV.out)).trans HkV.out
    clear hb hBV hB eV
    by_cases hp : 0 ≤ (U k).id ∧ (U k).id ≤ S.C.p - 1
    ·
     rw [decide_eq_true hp]
     have HP : Hid (0 ≤ (U k).id ∧ (U k).id ≤ S.C.p - 1) := hp
     have v1 : w2.cell? ⟨wr.heap.size, 1, none⟩ = some (.int .i64 (U k).inn) := blk_cell HkV.out 1
     have s7 : w2.cell? ⟨w.heap.size, 7, none⟩ = some (.int .i64 S.now) := blk_cell (kept1 hB2) 7
     have s6 : w2.cell? ⟨w.heap.size, 6, none⟩ = some (.int .i64 S.C.dl) := blk_cell (kept1 hB2) 6
     clear hp
     go_wp2_with fail
     clear v1 s7 s6
     refine (isWithin_any (U k).inn (S.now + 1) (S.now + S.C.dl) _).mono ?_
     rintro e w3 ⟨rfl, rfl⟩
     by_cases ht : S.now + 1 ≤ (U k).inn ∧ (U k).inn ≤ S.now + S.C.dl
     ·
      rw [decide_eq_true ht]
      have HT : Hid (S.now + 1 ≤ (U k).inn ∧ (U k).inn ≤ S.now + S.C.dl) := ht
      have HFr : Hid (∀ j, j < 5 → w3.cell? ⟨wr.heap.size, 2 + j, none⟩ = (U k).frame[j]?) := blkV7 HkV.out
      clear ht
      obtain ⟨lk, hlk⟩ := ok_decS ((U k).fOk)
      have HL : Hid (lk = true ↔ (U k).fOk) := hlk
      clear hlk
      go_wp2_with (refine wpList_ldTg 110 5 _ Tryz.underlying110 rfl infoFr5 (.tmp 40) rfl (by kernel_rfl) wr.heap.size 2 rfl (U k).frame rfl HFr.out ?_)
      clear HFr
      refine (iFrameOk_ok (U k) _ (fitOf (HZ.out k hlt)) lk HL.out).mono ?_
      rintro e w4 ⟨rfl, hb⟩
      have hB3 := next hB2 hb
      clear hb hB2 HkV
      cases lk
      ·
       have HF : Hid (ok = false) := by
        rw [Hid, Bool.eq_false_iff]
        intro e
        exact absurd (HL.out.2 ((HO.out.1 e).2 k hlt).2) (by simp)
       go_wp2_with fail
       go_ret
       exact ⟨ret_bool HF.out.symm, under hB3⟩
      ·
       have HL2 : Hid ((U k).fOk) := HL.out.1 rfl
       clear HL
       go_wp2_with fail
       go_roundw
       case rel => exact ⟨k + 1, by omega, by go_num, fun i hi => by
        by_cases e : i = k
        ·
         subst e; exact ⟨⟨HP.out, HT.out⟩, HL2.out⟩
        ·
         exact HA.out i (by omega), hB3⟩
       case measure => simp [intOf]; omega
     ·
      rw [decide_eq_false ht]
      have HF : Hid (ok = false) := by
       rw [Hid, Bool.eq_false_iff]
       intro e
       exact ht ((HO.out.1 e).2 k hlt).1.2
      clear ht
      go_wp2_with fail
      go_ret
      exact ⟨ret_bool HF.out.symm, under hB2⟩
    ·
     rw [decide_eq_false hp]
     have HF : Hid (ok = false) := by
      rw [Hid, Bool.eq_false_iff]
      intro e
      exact hp ((HO.out.1 e).2 k hlt).1.1
     clear hp
     go_wp2_with fail
     go_ret
     exact ⟨ret_bool HF.out.symm, under hB2⟩
   ·
    obtain rfl : k = n := by omega
    have HT : Hid (ok = true) := HO.out.2 ⟨hle, HA.out⟩
    go_wp2_with fail
    go_ret
    exact ⟨ret_bool HT.out.symm, under hB⟩
 ·
  have hle' : (1000 : Int) < n := by omega
  obtain rfl : ok = false := by
   rw [Bool.eq_false_iff]
   intro e
   exact hle (HO.out.1 e).1
  go_enter Tryz.func31, Tryz.ntmps31
  go_wp2_with fail
  go_ret
  exact ⟨rfl, under hB⟩
def lay (cur : Array Value) (o : Nat) (cs : Array Value) : Array Value := (cur.toList.take o ++ cs.toList ++ cur.toList.drop (o + cs.size)).toArray
theorem lay_size {cur cs : Array Value} {o : Nat} (h : o + cs.size ≤ cur.size) : (lay cur o cs).size = cur.size := by
 unfold lay
 simp
 omega
theorem lay_at {cur cs : Array Value} {o : Nat} (h : o + cs.size ≤ cur.size) (j : Nat) (hj : j < cs.size) : (lay cur o cs)[o + j]? = cs[j]? := by
 unfold lay
 simp only [List.getElem?_toArray]
 rw [List.append_assoc, List.getElem?_append_right (by simp; omega), List.getElem?_append_left (by simp; omega)]
 simp only [List.length_take, Array.length_toList, Array.getElem?_toList]
 congr 1
 omega
theorem lay_lo {cur cs : Array Value} {o : Nat} (h : o + cs.size ≤ cur.size) (j : Nat) (hj : j < o) : (lay cur o cs)[j]? = cur[j]? := by
 unfold lay
 simp only [List.getElem?_toArray]
 rw [List.append_assoc, List.getElem?_append_left (by simp; omega), List.getElem?_take, if_pos hj, Array.getElem?_toList]
structure Put (w W : World) (g : Nat) (cs : Array Value) (t : TypeId) : Prop where
 blk : W.heap[g]? = some (.cells cs t (0, 0))
 to : Touch [g] w W
 size : W.heap.size = w.heap.size
theorem Put.cast {w W : World} {g : Nat} {cs cs' : Array Value} {t : TypeId} (h : Put w W g cs t) (e : cs = cs') : Put w W g cs' t := e ▸ h
theorem put_setRow {w : World} {g : Nat} {cur : Array Value} {t : TypeId} (hg : w.heap[g]? = some (.cells cur t (0, 0))) (cs : Array Value) : Put w (w.setRow g cs) g cs t :=
 ⟨setRow_heap w g cur cs t (0, 0) hg, ⟨rfl, rfl, rfl, by simp, fun k _ hk => setRow_other w g k cs (by simpa using hk)⟩, by simp⟩
theorem run_storeVar_at (w : World) (g off : Nat) (t ty : TypeId) (cur : Array Value) (v : Value) (hg : w.heap[g]? = some (.cells cur t (0, 0))) (hi : (Tryz.prog.info? ty).map (·.size) = some v.cells.size) (hf : off + v.cells.size ≤ cur.size) (h1 : v.cells.all (·.oneCell') = true) :
  (storeVar ty ⟨g, off, none⟩ v).run Tryz.prog w = .ok () (w.setRow g (lay cur off v.cells)) := by
 have := run_storeCells_at (P := Tryz.prog) g off t v.cells.toList 0 cur w hg (by simpa using hf) (fun x hx => (Array.all_eq_true_iff_forall_mem.1 h1) x (by simpa using hx))
 simp only [Nat.add_zero, Array.length_toList] at this
 cases hq : Tryz.prog.info? ty with
 | none => simp [hq] at hi
 | some i =>
  have hs : v.cells.size = i.size := by simp [hq] at hi; omega
  simp [storeVar, sizeOf, typeInfo, hq, hs, this, lay]
theorem wpList_stA {ops : Array Oper} {rest : List Oper} {o : Oper} {a : Act} {w : World} {Q : Exit → Act → World → Prop} (hgd : o.guard = none) (ty : TypeId) (x y : Operand) (ho : o.op = .store ty x y) (g off : Nat) (hx : a.eval x = .pointer (some ⟨g, off, none⟩))
  (v : Value) (hy : a.eval y = v) (n : Nat) (hn : v.cells.size = n) (t : TypeId) (cur : Array Value) (hg : w.heap[g]? = some (.cells cur t (0, 0))) (hi : (Tryz.prog.info? ty).map (·.size) = some n) (hf : off + n ≤ cur.size) (h1 : v.cells.all (·.oneCell') = true)
  (h : ∀ W, Put w W g (lay cur off v.cells) t → wpList Tryz.prog ops Q rest (a.put o.dst undef) W) : wpList Tryz.prog ops Q (o :: rest) a w := by
 subst hn
 refine wpList_plain hgd fun _ hK => ?_
 unfold Oper.wp execOp
 simp only [ho, hx, hy, Instr.storeAt, Instr.sureAddr, Sem.run_bind, Sem.run_pure, Result.andThen_ok, run_storeVar_at w g off t ty cur v hg hi hf h1]
 exact hK _ _ (h _ (put_setRow hg _))
def RowG (t : TypeId) (g o n : Nat) (f : Nat → Value) (w : World) : Prop := ∃ arr : Array Value, w.heap[g]? = some (.cells arr t (0, 0)) ∧ o + n ≤ arr.size ∧ ∀ i, i < n → arr[o + i]? = some (f i)
theorem RowG.lt {t : TypeId} {g o n : Nat} {f : Nat → Value} {w : World} (h : RowG t g o n f w) : g < w.heap.size := by
 obtain ⟨arr, h1, _⟩ := h
 exact blk_lt h1
theorem RowG.keep {t : TypeId} {g o n : Nat} {f : Nat → Value} {w w' : World} (h : RowG t g o n f w) (hb : w'.heap[g]? = w.heap[g]?) : RowG t g o n f w' := by
 obtain ⟨arr, h1, h2⟩ := h
 exact ⟨arr, hb.trans h1, h2⟩
theorem RowG.read {t : TypeId} {g o n : Nat} {f : Nat → Value} {w : World} (h : RowG t g o n f w) : RdRow w (some ⟨g, o, none⟩) n f := fun i hi => by
 obtain ⟨arr, h1, h2, h3⟩ := h
 exact ⟨g, o, rfl, (blk_cell h1 _).trans (h3 i hi)⟩
theorem RowTo.g {g n : Nat} {t : TypeId} {f : Nat → Value} {w : World} (h : RowTo g t n f n w) : RowG t g 0 n f w := by
 obtain ⟨arr, h1, h2, h3⟩ := h
 exact ⟨arr, h1, by omega, fun i hi => by rw [Nat.zero_add]; exact h3 i hi⟩
def VG (t : TypeId) (w : World) (base : Nat) (a : Option Addr) (n : Nat) (f : Nat → Value) : Prop := n = 0 ∨ ∃ g o, a = some ⟨g, o, none⟩ ∧ base ≤ g ∧ RowG t g o n f w
section
variable {t : TypeId} {w w' : World} {base base' : Nat} {a : Option Addr} {n : Nat} {f : Nat → Value} {S : List Nat}
theorem VG.read (h : VG t w base a n f) : RdRow w a n f := by
 rcases h with rfl | ⟨g, o, rfl, _, hr⟩
 ·
  exact RdRow.nil _ _ _
 ·
  exact hr.read
theorem VG.up (h : VG t w base a n f) (hb : Below w.heap.size w w') : VG t w' base a n f :=
 h.imp id (by rintro ⟨g, o, ha, hg, hr⟩; exact ⟨g, o, ha, hg, hr.keep (hb.block _ hr.lt)⟩)
theorem VG.mono (h : VG t w base a n f) (hb : base' ≤ base) : VG t w base' a n f :=
 h.imp id (by rintro ⟨g, o, ha, hg, hr⟩; exact ⟨g, o, ha, by omega, hr⟩)
theorem blkG_mem {g o n : Nat} (h : n ≠ 0) : g ∈ blkV (some ⟨g, o, none⟩) n := by unfold blkV; rw [if_neg h]; simp
theorem VG.touchS (h : VG t w base a n f) (ht : Touch S w w') (hp : ∀ x ∈ blkV a n, x ∉ S) : VG t w' base a n f := by
 rcases h with h | ⟨g, o, rfl, hg, hr⟩
 ·
  exact .inl h
 ·
  by_cases h0 : n = 0
  ·
   exact .inl h0
  exact .inr ⟨g, o, rfl, hg, hr.keep (ht.block g hr.lt (hp g (blkG_mem h0)))⟩
theorem VG.blk (h : VG t w base a n f) : ∀ x ∈ blkV a n, base ≤ x ∧ x < w.heap.size := by
 intro x hx
 unfold blkV at hx
 split at hx
 ·
  simp at hx
 ·
  rcases h with h | ⟨g, o, rfl, hg, hr⟩
  ·
   contradiction
  ·
   simp at hx; subst hx; exact ⟨hg, hr.lt⟩
theorem VG.type (h : VG t w base a n f) : ∀ x ∈ blkV a n, ∃ cs, w.heap[x]? = some (.cells cs t (0, 0)) := by
 intro x hx
 unfold blkV at hx
 split at hx
 ·
  simp at hx
 ·
  rcases h with h | ⟨g, o, rfl, hg, hr⟩
  ·
   contradiction
  ·
   simp at hx
   subst hx
   obtain ⟨cs, hc, _⟩ := hr
   exact ⟨cs, hc⟩
theorem VG.low (h : VG t w base a n f) (ht : Touch S w w') (hS : ∀ x ∈ S, x < base) : VG t w' base a n f :=
 h.touchS ht (fun x hx hy => by have := (h.blk x hx).1; have := hS x hy; omega)
end
theorem VT.g {t : TypeId} {w : World} {base : Nat} {a : Option Addr} {n : Nat} {f : Nat → Value} (h : VT t w base a n f) : VG t w base a n f :=
 h.imp id (by rintro ⟨g, ha, hg, hr⟩; exact ⟨g, 0, ha, hg, hr.g⟩)
theorem VI.g {w : World} {base : Nat} {a : Option Addr} {n : Nat} {f : Nat → Int} (h : VI w base a n f) : VG 2 w base a n fun i => .int .i64 (f i) :=
 h.imp id (by rintro ⟨g, ha, hg, hr⟩; exact ⟨g, 0, ha, hg, hr.g⟩)
theorem VS.g {w : World} {base : Nat} {a : Option Addr} {n : Nat} {f : Nat → Value} (h : VS w base a n f) : VG 25 w base a n f :=
 h.imp id (by rintro ⟨g, ha, hg, hr⟩; exact ⟨g, 0, ha, hg, hr.g⟩)
def flatK (K : Nat → Pkt) (j : Nat) : Value := ((K (j / 8)).cells[j % 8]?).getD (.bool false)
theorem flatK_at (K : Nat → Pkt) (i j : Nat) (h : j < 8) : some (flatK K (i * 8 + j)) = (K i).cells[j]? := by
 unfold flatK
 rw [show (i * 8 + j) / 8 = i by omega, show (i * 8 + j) % 8 = j by omega]
 rw [Array.getElem?_eq_getElem (by rw [Pkt.cells_size]; exact h)]
 rfl
def flatG (L : Nat → Lng) (j : Nat) : Value := ((L (j / 8)).cells[j % 8]?).getD (.bool false)
theorem flatG_at (L : Nat → Lng) (i j : Nat) (h : j < 8) : some (flatG L (i * 8 + j)) = (L i).cells[j]? := by
 unfold flatG
 rw [show (i * 8 + j) / 8 = i by omega, show (i * 8 + j) % 8 = j by omega]
 rw [Array.getElem?_eq_getElem (by rw [Lng.cells_size]; exact h)]
 rfl
theorem VG.ents {t : TypeId} {w : World} {base : Nat} {a : Option Addr} {n : Nat} {f : Nat → Ent} (h : VG t w base a (n * 3) (flat f)) : RdEnt w a n f := by
 intro i hi
 obtain ⟨g, o, ha, h0⟩ := h.read (i * 3) (by omega)
 obtain ⟨g1, o1, ha1, h1⟩ := h.read (i * 3 + 1) (by omega)
 obtain ⟨g2, o2, ha2, h2⟩ := h.read (i * 3 + 2) (by omega)
 rw [ha] at ha1 ha2
 cases ha1
 cases ha2
 rw [flat0] at h0
 rw [flat1] at h1
 rw [flat2] at h2
 exact ⟨g, o, ha, h0, h1, h2⟩
theorem VG.pks {t : TypeId} {w : World} {base : Nat} {a : Option Addr} {n : Nat} {K : Nat → Pkt} (h : VG t w base a (n * 8) (flatK K)) : RdPk w a n K := by
 intro i hi
 obtain ⟨g, o, ha, h0⟩ := h.read (i * 8) (by omega)
 refine ⟨g, o, ha, fun j hj => ?_⟩
 obtain ⟨g1, o1, ha1, h1⟩ := h.read (i * 8 + j) (by omega)
 rw [ha] at ha1
 cases ha1
 rw [flatK_at K i j hj] at h1
 rw [Nat.add_assoc]
 exact h1
theorem VG.lns {t : TypeId} {w : World} {base : Nat} {a : Option Addr} {n : Nat} {L : Nat → Lng} (h : VG t w base a (n * 8) (flatG L)) : RdLs w a n L := by
 intro i hi
 obtain ⟨g, o, ha, h0⟩ := h.read (i * 8) (by omega)
 refine ⟨g, o, ha, fun j hj => ?_⟩
 obtain ⟨g1, o1, ha1, h1⟩ := h.read (i * 8 + j) (by omega)
 rw [ha] at ha1
 cases ha1
 rw [flatG_at L i j hj] at h1
 rw [Nat.add_assoc]
 exact h1
def blkS (n : Nat) (A : Nat → Option Addr) (L : Nat → Nat) : List Nat := (List.range n).flatMap fun i => blkV (A i) (L i)
theorem blkS_mem {n : Nat} {A : Nat → Option Addr} {L : Nat → Nat} {x : Nat} : x ∈ blkS n A L ↔ ∃ i, i < n ∧ x ∈ blkV (A i) (L i) := by
 unfold blkS
 simp
def Lng.blks (l : Lng) : List Nat := blkV l.aT l.nT ++ (blkS l.nU l.uA l.uL ++ (blkV l.R.aQ l.R.nQ ++ (blkV l.R.aD l.R.nD ++ blkS l.R.nS l.R.A l.R.L)))
structure OwnLg (w : World) (base : Nat) (l : Lng) : Prop where
 t : VG 2 w base l.aT l.nT fun i => .int .i64 (l.t i)
 u : VG 25 w base l.aU l.nU fun i => .slice (l.uA i) (l.uL i) (l.uC i)
 z : ∀ i, i < l.nU → VG 2 w base (l.uA i) (l.uL i) fun j => .int .i64 (l.uz i j)
 q : VG 2 w base l.R.aQ l.R.nQ fun i => .int .i64 (l.R.q i)
 d : VG 2 w base l.R.aD l.R.nD fun i => .int .i64 (l.R.d i)
 s : VG 25 w base l.R.aS l.R.nS fun i => .slice (l.R.A i) (l.R.L i) (l.R.C i)
 y : ∀ i, i < l.R.nS → VG 2 w base (l.R.A i) (l.R.L i) fun j => .int .i64 (l.R.z i j)
 nd : l.blks.Nodup
theorem OwnLg.rd {w : World} {base : Nat} {l : Lng} (h : OwnLg w base l) : RdLg w l := ⟨h.t.read, h.u.read, fun i hi => (h.z i hi).read, ⟨h.q.read, h.d.read, h.s.read, fun i hi => (h.y i hi).read⟩⟩
theorem OwnLg.up {w w' : World} {base : Nat} {l : Lng} (h : OwnLg w base l) (hb : Below w.heap.size w w') : OwnLg w' base l :=
 ⟨h.t.up hb, h.u.up hb, fun i hi => (h.z i hi).up hb, h.q.up hb, h.d.up hb, h.s.up hb, fun i hi => (h.y i hi).up hb, h.nd⟩
theorem OwnLg.mono {w : World} {base base' : Nat} {l : Lng} (h : OwnLg w base l) (hb : base' ≤ base) : OwnLg w base' l :=
 ⟨h.t.mono hb, h.u.mono hb, fun i hi => (h.z i hi).mono hb, h.q.mono hb, h.d.mono hb, h.s.mono hb, fun i hi => (h.y i hi).mono hb, h.nd⟩
theorem OwnLg.low {w w' : World} {base : Nat} {l : Lng} {S : List Nat} (h : OwnLg w base l) (ht : Touch S w w') (hS : ∀ x ∈ S, x < base) : OwnLg w' base l :=
 ⟨h.t.low ht hS, h.u.low ht hS, fun i hi => (h.z i hi).low ht hS, h.q.low ht hS, h.d.low ht hS, h.s.low ht hS, fun i hi => (h.y i hi).low ht hS, h.nd⟩
theorem OwnLg.blk {w : World} {base : Nat} {l : Lng} (h : OwnLg w base l) : ∀ x ∈ l.blks, base ≤ x ∧ x < w.heap.size := by
 intro x hx
 unfold Lng.blks at hx
 simp only [List.mem_append, blkS_mem] at hx
 rcases hx with hx | ⟨i, hi, hx⟩ | hx | hx | ⟨i, hi, hx⟩
 ·
  exact h.t.blk x hx
 ·
  exact (h.z i hi).blk x hx
 ·
  exact h.q.blk x hx
 ·
  exact h.d.blk x hx
 ·
  exact (h.y i hi).blk x hx
structure AlikeL (a b : Lng) : Prop where
 st : b.st = a.st
 nT : b.nT = a.nT
 t : b.t = a.t
 nU : b.nU = a.nU
 l : b.uL = a.uL
 z : b.uz = a.uz
 r : Alike a.R b.R
theorem AlikeL.refl (a : Lng) : AlikeL a a := ⟨rfl, rfl, rfl, rfl, rfl, rfl, Alike.refl _⟩
theorem AlikeL.symm {a b : Lng} (h : AlikeL a b) : AlikeL b a := ⟨h.st.symm, h.nT.symm, h.t.symm, h.nU.symm, h.l.symm, h.z.symm, h.r.symm⟩
theorem AlikeL.trans {a b c : Lng} (h : AlikeL a b) (k : AlikeL b c) : AlikeL a c := ⟨k.st.trans h.st, k.nT.trans h.nT, k.t.trans h.t, k.nU.trans h.nU, k.l.trans h.l, k.z.trans h.z, h.r.trans k.r⟩
structure AlikeG (A B : Swg) : Prop where
 c : B.C = A.C
 now : B.now = A.now
 nx : B.nx = A.nx
 nE : B.nE = A.nE
 e : B.e = A.e
 n : AlikeC A.N B.N
 nK : B.nK = A.nK
 k : B.K = A.K
 nL : B.nL = A.nL
 l : ∀ i, i < A.nL → AlikeL (A.L i) (B.L i)
 dr : B.dr = A.dr
 lst : B.lst = A.lst
theorem AlikeG.symm {A B : Swg} (h : AlikeG A B) : AlikeG B A := ⟨h.c.symm, h.now.symm, h.nx.symm, h.nE.symm, h.e.symm, h.n.symm, h.nK.symm, h.k.symm, h.nL.symm, fun i hi => (h.l i (by rw [← h.nL]; exact hi)).symm, h.dr.symm, h.lst.symm⟩
theorem AlikeG.trans {A B C : Swg} (h : AlikeG A B) (k : AlikeG B C) : AlikeG A C := ⟨k.c.trans h.c, k.now.trans h.now, k.nx.trans h.nx, k.nE.trans h.nE, k.e.trans h.e, h.n.trans k.n, k.nK.trans h.nK, k.k.trans h.k, k.nL.trans h.nL, fun i hi => (h.l i hi).trans (k.l i (by rw [h.nL]; exact hi)), k.dr.trans h.dr, k.lst.trans h.lst⟩
theorem AlikeL.small {a b : Lng} (h : AlikeL a b) (hs : a.Small) : b.Small :=
 ⟨by rw [h.nT]; exact hs.t, by rw [h.nU]; exact hs.u, by rw [h.nU, h.l]; exact hs.z, ⟨by rw [h.r.nQ]; exact hs.r.q, by rw [h.r.nD]; exact hs.r.d, by rw [h.r.nS]; exact hs.r.s, by rw [h.r.nS, h.r.l]; exact hs.r.l⟩⟩
theorem AlikeG.small {A B : Swg} (h : AlikeG A B) (hs : A.Small) : B.Small :=
 ⟨by rw [h.nE]; exact hs.e, h.n.small hs.n, by rw [h.nK]; exact hs.k, by rw [h.nK, h.k]; exact hs.b, by rw [h.nL]; exact hs.l, fun i hi => by rw [h.nL] at hi; exact (h.l i hi).small (hs.ls i hi)⟩
theorem Alike.ok1 {a b : Rnd} (h : Alike a b) (k : a.Ok) : b.Ok := by
 obtain ⟨aQ, nQ, cQ, q, aD, nD, cD, d, turn, fresh, aS, nS, cS, A, L, C, z⟩ := a
 obtain ⟨aQ', nQ', cQ', q', aD', nD', cD', d', turn', fresh', aS', nS', cS', A', L', C', z'⟩ := b
 obtain ⟨h1, h2, h3, h4, h5, h6, h7, h8, h9⟩ := h
 dsimp only at h1 h2 h3 h4 h5 h6 h7 h8 h9
 subst h1 h2 h3 h4 h5 h6 h7 h8 h9
 exact ⟨k.n, k.d, k.s, k.t, k.c⟩
theorem AlikeL.ok1 {a b : Lng} {m : Nat} {K : Nat → Pkt} (h : AlikeL a b) (k : LgOk m K a) : LgOk m K b :=
 ⟨h.r.ok1 k.r, by rw [h.r.nQ]; exact k.n, by rw [h.r.q]; exact k.q0, by rw [h.r.q]; exact k.q1, by rw [h.nU]; exact k.u, fun c hc => by
  rw [h.l, h.z, h.r.l, h.r.z]; exact k.z c hc, by rw [h.nT, h.t]; exact k.t⟩
theorem occU_alike {a b : Lng} (h : AlikeL a b) (x : Int) : ∀ c, occU b x c = occU a x c := by
 intro c
 induction c with
 | zero => rfl
 | succ c ih =>
  show occU b x c + occ (b.uz c) x (b.uL c) = occU a x c + occ (a.uz c) x (a.uL c)
  rw [ih, h.z, h.l]
theorem occL_alike {A B : Nat → Lng} {n : Nat} (h : ∀ i, i < n → AlikeL (A i) (B i)) (x : Int) : ∀ i, i ≤ n → occL B x i = occL A x i := by
 intro i
 induction i with
 | zero => intro _; rfl
 | succ i ih =>
  intro hi
  have hl := h i (by omega)
  show occL B x i + (occ (B i).t x (B i).nT + occU (B i) x (B i).nU) = occL A x i + (occ (A i).t x (A i).nT + occU (A i) x (A i).nU)
  rw [ih (by omega), hl.t, hl.nT, hl.nU, occU_alike hl]
theorem AlikeG.ok1 {A B : Swg} (h : AlikeG A B) (k : A.Ok) : B.Ok := by
 refine ⟨by rw [h.c]; exact h.n.ok.2 k.n, ⟨by rw [h.now]; exact k.nums.now, by rw [h.nx]; exact k.nums.nx, by rw [h.dr]; exact k.nums.dr, by rw [h.lst]; exact k.nums.lst⟩, ?_, by rw [h.nx, h.c, h.nK, h.k]; exact k.k, by rw [h.nL, h.c]; exact k.nl, fun i hi => ?_, fun j hj => ?_, ?_⟩
 ·
  unfold Swg.seen
  rw [h.nE, h.e, h.c, h.now]
  exact k.seen
 ·
  rw [h.nL] at hi
  rw [h.nK, h.k]
  exact (h.l i hi).ok1 (k.l i hi)
 ·
  rw [h.nK] at hj
  rw [h.k, h.nL, occL_alike h.l _ _ (Nat.le_refl _)]
  exact k.refs j hj
 ·
  unfold Swg.heldP
  rw [h.n.lo, h.k, h.nK, h.n.nU, h.n.u]
  exact k.held
theorem VT.low {t : TypeId} {w w' : World} {base : Nat} {a : Option Addr} {n : Nat} {f : Nat → Value} {S : List Nat} (h : VT t w base a n f) (ht : Touch S w w') (hS : ∀ x ∈ S, x < base) : VT t w' base a n f :=
 h.touchS ht (fun x hx hy => by have := (h.blk x hx).1; have := hS x hy; omega)
structure OwnSg (w : World) (base : Nat) (S : Swg) : Prop where
 e : VT 109 w base S.aE (S.nE * 3) (flat S.e)
 u : VT 2 w base S.N.aU S.N.nU fun i => .int .i64 (S.N.u i)
 p : VT 4 w base S.N.aP S.N.nP fun i => .bool (S.N.p i)
 k : VT 112 w base S.aK (S.nK * 8) (flatK S.K)
 l : VT 118 w base S.aL (S.nL * 8) (flatG S.L)
 ls : ∀ i, i < S.nL → OwnLg w base (S.L i)
 nd : (blkV S.N.aU S.N.nU ++ (List.range S.nL).flatMap fun i => (S.L i).blks).Nodup
theorem OwnSg.rd {w : World} {base : Nat} {S : Swg} (h : OwnSg w base S) : RdSg w S := ⟨h.e.g.ents, ⟨h.u.read, h.p.read⟩, h.k.g.pks, h.l.g.lns, fun i hi => (h.ls i hi).rd⟩
theorem OwnSg.up {w w' : World} {base : Nat} {S : Swg} (h : OwnSg w base S) (hb : Below w.heap.size w w') : OwnSg w' base S :=
 ⟨h.e.up hb, h.u.up hb, h.p.up hb, h.k.up hb, h.l.up hb, fun i hi => (h.ls i hi).up hb, h.nd⟩
theorem OwnSg.mono {w : World} {base base' : Nat} {S : Swg} (h : OwnSg w base S) (hb : base' ≤ base) : OwnSg w base' S :=
 ⟨h.e.mono hb, h.u.mono hb, h.p.mono hb, h.k.mono hb, h.l.mono hb, fun i hi => (h.ls i hi).mono hb, h.nd⟩
theorem OwnSg.low {w w' : World} {base : Nat} {S : Swg} {T : List Nat} (h : OwnSg w base S) (ht : Touch T w w') (hS : ∀ x ∈ T, x < base) : OwnSg w' base S :=
 ⟨h.e.low ht hS, h.u.low ht hS, h.p.low ht hS, h.k.low ht hS, h.l.low ht hS, fun i hi => (h.ls i hi).low ht hS, h.nd⟩
theorem nodup_app {a b : List Nat} (ha : a.Nodup) (hb : b.Nodup) (m : Nat) (h1 : ∀ x ∈ a, x < m) (h2 : ∀ x ∈ b, m ≤ x) : (a ++ b).Nodup :=
 List.nodup_append.2 ⟨ha, hb, fun x hx y hy e => by have := h1 x hx; have := h2 y hy; omega⟩
theorem blkV_nodup (a : Option Addr) (n : Nat) : (blkV a n).Nodup := by
 unfold blkV
 split
 ·
  exact List.nodup_nil
 ·
  cases a <;> simp
theorem res_cellT {fn : Func} {i : Tmp} {ty : TypeId} (h : fn.results = #[.cell i ty]) (n : Nat) (d : TypeDesc) (hu : Tryz.prog.underlying ty = some d) (hd : d.isRow = true) (hn : (Tryz.prog.info? ty).map (·.size) = some n) (tmps : Array Value) (w : World) (g : Nat) (cs : Array Value) (hi : tmps[i]?.getD undef = .pointer (some ⟨g, 0, none⟩)) (t : TypeId) (hk : w.heap[g]? = some (.cells cs t (0, 0))) (hs : cs.size = n) :
  (results fn tmps).run Tryz.prog w = .ok (.agg cs) w := by
 have := run_loadVar_mid (P := Tryz.prog) w g 0 ty cs.toList d (fun j v hv => by
  rw [Nat.zero_add, blk_cell hk, ← Array.getElem?_toList]; exact hv) hu hd (by rw [hn, Array.length_toList, hs])
 rw [Array.toArray_toList] at this
 simp [results, h, hi, asAddr, this]
structure Boxes (w : World) (A B C : Array Value) (tA tB : TypeId) (W : World) : Prop where
 a : W.heap[w.heap.size]? = some (.cells A tA (0, 0))
 b : W.heap[w.heap.size + 1]? = some (.cells B tB (0, 0))
 c : W.heap[w.heap.size + 1 + 1]? = some (.cells C tB (0, 0))
 bel : Below w.heap.size w W
 sz : w.heap.size + 1 + 1 + 1 ≤ W.heap.size
theorem Boxes.start (w : World) (A B C : Array Value) (tA tB : TypeId) : Boxes w A B C tA tB (((w.alloc (.cells A tA)).alloc (.cells B tB)).alloc (.cells C tB)) := by
 obtain ⟨h1, h2, h3, h4, h5⟩ := three_laidR (w := w) (A := .cells A tA) (B := .cells B tB) (C := .cells C tB) (Below.refl _ _)
 exact ⟨h1, h2, h3, h4, h5⟩
theorem Boxes.up {w W W' : World} {A B C : Array Value} {tA tB : TypeId} (h : Boxes w A B C tA tB W) (hb : Below W.heap.size W W') : Boxes w A B C tA tB W' :=
 ⟨(hb.block _ (blk_lt h.a)).trans h.a, (hb.block _ (blk_lt h.b)).trans h.b, (hb.block _ (blk_lt h.c)).trans h.c, h.bel.trans (hb.mono h.bel.size), Nat.le_trans h.sz hb.size⟩
theorem Boxes.put {w W W' : World} {A B C C' : Array Value} {tA tB : TypeId} (h : Boxes w A B C tA tB W) (hp : Put W W' (w.heap.size + 1 + 1) C' tB) : Boxes w A B C' tA tB W' :=
 ⟨(hp.to.block _ (blk_lt h.a) (by simp; omega)).trans h.a, (hp.to.block _ (blk_lt h.b) (by simp)).trans h.b, hp.blk, h.bel.trans (hp.to.below h.bel.size (fun x hx => by simp at hx; omega)), by rw [hp.size]; exact h.sz⟩
theorem Boxes.out {w W W' : World} {A B C B' : Array Value} {tA tB : TypeId} (h : Boxes w A B C tA tB W) (hp : Put W W' (w.heap.size + 1) B' tB) : Boxes w A B' C tA tB W' :=
 ⟨(hp.to.block _ (blk_lt h.a) (by simp)).trans h.a, hp.blk, (hp.to.block _ (blk_lt h.c) (by simp)).trans h.c, h.bel.trans (hp.to.below h.bel.size (fun x hx => by simp at hx; omega)), by rw [hp.size]; exact h.sz⟩
theorem infoPkI : (Tryz.prog.info? 112).map (·.size) = some 8 := by kernel_rfl
theorem infoLgI : (Tryz.prog.info? 118).map (·.size) = some 8 := by kernel_rfl
theorem infoFrI : (Tryz.prog.info? 110).map (·.size) = some 5 := by kernel_rfl
theorem infoI1 : (Tryz.prog.info? 2).map (·.size) = some 1 := by kernel_rfl
theorem Pkt.oneC (x : Pkt) : x.cells.all (·.oneCell') = true := by simp [Pkt.cells, Value.oneCell']
theorem Lng.oneC (l : Lng) : l.cells.all (·.oneCell') = true := by simp [Lng.cells, Value.oneCell']
theorem infoB1 : (Tryz.prog.info? 4).map (·.size) = some 1 := by kernel_rfl
theorem infoIss : (Tryz.prog.info? 114).map (·.size) = some 1 := by kernel_rfl
theorem infoRn : (Tryz.prog.info? 116).map (·.size) = some 5 := by kernel_rfl
theorem blkV_at {g o n x : Nat} (h : x ∈ blkV (some ⟨g, o, none⟩) n) : x = g := by
 unfold blkV at h
 split at h
 ·
  simp at h
 ·
  simpa using h
theorem infoPkZ : (Tryz.prog.info? 112).map (fun i => (i.zero, i.size, i.bytes)) = some (some (.agg #[.int .i64 0, .int .i64 0, .int .i64 0, .int .i64 0, .int .i64 0, .int .i64 0, .int .i64 0, .string ⟨#[]⟩]), 8, 72) := by kernel_rfl
theorem infoLgZ : (Tryz.prog.info? 118).map (fun i => (i.zero, i.size, i.bytes)) = some (some (.agg #[.bool false, .slice none 0 0, .slice none 0 0, .slice none 0 0, .slice none 0 0, .int .i64 0, .bool false, .slice none 0 0]), 8, 144) := by kernel_rfl
theorem infoSgI : (Tryz.prog.info? 45).map (·.size) = some 17 := by kernel_rfl
theorem infoCn : (Tryz.prog.info? 41).map (·.size) = some 3 := by kernel_rfl
theorem infoEs : (Tryz.prog.info? 40).map (·.size) = some 1 := by kernel_rfl
theorem infoKs : (Tryz.prog.info? 42).map (·.size) = some 1 := by kernel_rfl
theorem infoLs : (Tryz.prog.info? 43).map (·.size) = some 1 := by kernel_rfl
theorem Swg.oneC (S : Swg) : S.cells.all (·.oneCell') = true := by simp [Swg.cells, Value.oneCell']
end Go.Proofs.YtfkpncopkgidfaaGreat
