/- Lanes marked, and looked at again. -/
import Derived.Test.YtclibohnmjkliaaLnB
import Derived.Test.YtclibohnmjkliaaBoolS
namespace Go.Proofs.Ytclibohnmjkliaa
open Go.RowKit
set_option linter.unusedVariables false
set_option linter.unusedSimpArgs false

/-- the lane of place i, marked from m on -/
def markLn (m : Nat) (l : Ln) : Ln := { l with st := mb m, R := { l.R with q := fun j => ((m + 1 + j : Nat) : Int), d := fun j => ((m + 1 + 2 + j : Nat) : Int), turn := ((m + 5 : Nat) : Int), fresh := mb (m + 6) } }
def marksL (m k : Nat) (L : Nat → Ln) (i : Nat) : Ln := if i < k then markLn (m + 7 * i) (L i) else L i
def rowsL (n g : Nat) (L : Nat → Ln) : List Nat := g :: (List.range n).flatMap fun i => (L i).blks
theorem rowsL_mem {n g : Nat} {L : Nat → Ln} {i : Nat} (hi : i < n) : ∀ x ∈ (L i).blks, x ∈ rowsL n g L := fun x hx => List.mem_cons_of_mem _ (List.mem_flatMap.2 ⟨i, List.mem_range.2 hi, hx⟩)
theorem rowsL_inv {n g : Nat} {L : Nat → Ln} {x : Nat} (h : x ∈ rowsL n g L) : x = g ∨ ∃ i, i < n ∧ x ∈ (L i).blks := by
  rcases List.mem_cons.1 h with h | h
  · exact .inl h
  · obtain ⟨i, hi, hx⟩ := List.mem_flatMap.1 h
    exact .inr ⟨i, List.mem_range.1 hi, hx⟩
theorem marks_self {m k : Nat} {L : Nat → Ln} : marksL m k L k = L k := if_neg (Nat.lt_irrefl k)
theorem marks_step {m k : Nat} {L : Nat → Ln} {l : Ln} (e : l = markLn (m + 7 * k) (L k)) : upd (marksL m k L) k l = marksL m (k + 1) L := by
  subst e
  funext i
  unfold upd marksL
  by_cases e : i = k
  · subst e; rw [if_pos rfl, if_pos (by omega)]
  · rw [if_neg e]
    by_cases h : i < k
    · rw [if_pos h, if_pos (by omega)]
    · rw [if_neg h, if_neg (by omega)]
theorem upd_upd (L : Nat → Ln) (k : Nat) (a b : Ln) : upd (upd L k a) k b = upd L k b := by
  funext i
  unfold upd
  split <;> rfl
theorem mb_q (q : Nat) : (((q : Int)) % 3 == 0) = mb q := by
  rw [Bool.eq_iff_iff]
  simp only [mb, beq_iff_eq, decide_eq_true_eq]
  omega
theorem mb_q6 (q : Nat) : (((q : Int) + 5 + 1) % 3 == 0) = mb (q + 6) := by
  rw [Bool.eq_iff_iff]
  simp only [mb, beq_iff_eq, decide_eq_true_eq]
  omega
set_option maxHeartbeats 4000000 in
theorem markLanes_any (g n cap m : Nat) (b : Nat → Nat) (L : Nat → Ln) (w : World) (h : Lanes w n b g L) (hn : n ≤ 4) (hm : m ≤ 1000) :
    Calls Try.prog 22 #[.slice (some ⟨g, 0, none⟩) n cap, .int .i64 m] w fun e w' => e = .returned (.int .i64 ((m + 7 * n : Nat) : Int)) ∧ Lanes w' n b g (marksL m n L) ∧ Touch (rowsL n g L) w w' := by
  have H0 : Hid (Lanes w n b g (marksL m 0 L)) := by
    have e : marksL m 0 L = L := by funext i; unfold marksL; rw [if_neg (by omega)]
    rw [Hid, e]; exact h
  clear h
  go_enter Try.func22, Try.ntmps22
  go_wp2_with fail
  go_loopw [1, 5] (fun x i wr => ∃ (k q : Nat), k ≤ n ∧ i = .int .i64 k ∧ x = .int .i64 q ∧ q = m + 7 * k ∧ Lanes wr n b g (marksL m k L) ∧ Touch (rowsL n g L) w wr) (fun _ i _ => n - (intOf i).toNat)
  case atStart => exact ⟨0, m, Nat.zero_le _, rfl, rfl, by simp, H0.out, Touch.refl _ _⟩
  case round =>
    obtain ⟨k, q, hk, rfl, rfl, hq, hL, hT⟩ := hrel
    have HQ : Hid (q = m + 7 * k) := hq
    have q1 : q ≤ 2000 := by omega
    clear hq H0
    by_cases hlt : k < n
    · have hlt' : (k : Int) < n := by omega
      have HL : Hid (Lanes wr n b g (marksL m k L)) := hL
      have HT : Hid (Touch (rowsL n g L) w wr) := hT
      have HS : Hid (∀ s, Lanes (wr.setCell ⟨g, k * 8, none⟩ (.bool s)) n b g (upd (marksL m k L) k { L k with st := s })) := fun s => by
        have := hL.stop hlt s
        rw [marks_self] at this
        exact this
      obtain ⟨v0, c0⟩ := hL.row.there (k * 8) (by omega)
      have f0 := hL.row.free (k * 8)
      have c1 : ∀ s, (wr.setCell ⟨g, k * 8, none⟩ (.bool s)).cell? ⟨g, k * 8 + 1, none⟩ = some (.slice none 0 0) := fun s => by
        rw [(HS.out s).cell hlt 1 (by omega), upd_self]; rfl
      have c2 : ∀ s, (wr.setCell ⟨g, k * 8, none⟩ (.bool s)).cell? ⟨g, k * 8 + 2, none⟩ = some (.slice (L k).aU 2 (L k).cU) := fun s => by
        rw [(HS.out s).cell hlt 2 (by omega), upd_self]; rfl
      have hsh : (L k).R.nQ = 2 ∧ (L k).R.nD = 2 ∧ (L k).R.nS = 2 ∧ ∀ j, (L k).R.L j = 0 := by
        have := hL.sh k hlt
        rw [marks_self] at this
        exact this
      have HSh : Hid ((L k).R.nQ = 2 ∧ (L k).R.nD = 2 ∧ (L k).R.nS = 2 ∧ ∀ j, (L k).R.L j = 0) := hsh
      have HIn : Hid (∀ x ∈ (L k).blks, x ∈ rowsL n g L) := rowsL_mem hlt
      clear hL hT hsh
      go_wp2_with fail
      simp only [mb_q]
      have H1 := HS.out (mb q)
      have T1 : Touch (rowsL n g L) w (wr.setCell ⟨g, k * 8, none⟩ (.bool (mb q))) := HT.out.set (by simp [rowsL]) _ _
      replace c2 := c2 (mb q)
      replace c1 := c1 (mb q)
      generalize wr.setCell ⟨g, k * 8, none⟩ (.bool (mb q)) = W1 at *
      clear HS HT HL c0 f0
      refine (markEmpty_any none 0 (q + 1) _).mono ?_
      rintro e w1 ⟨rfl, rfl⟩
      go_wp2_with fail
      have HU1 : Hid (∀ w', Touch [] W1 w' → RdRow w' (L k).aU 2 fun _ => .slice none 0 0) := fun w' ht => by
        have := H1.u k hlt
        rw [upd_self] at this
        exact (VS.touchI this ht (by simp)).read
      refine (markIntss_any (L k).aU 2 (L k).cU (q + 1) (b k) (fun _ => none) (fun _ => 0) (fun _ => 0) (fun _ _ => 0) [] _ (by omega) (by simp [sumL]) (by omega) (fun _ _ => by omega) HU1.out (fun i hi => .inl rfl) (fun i j _ _ _ x hx => by simp [blkI] at hx) (fun i hi x hx => by simp [blkI] at hx)).mono ?_
      rintro e w2 ⟨rfl, _, ht2⟩
      rw [show q + 1 + sumL (fun _ => 0) 2 = q + 1 from rfl]
      have H2 := H1.touch ht2 (by simp) (fun _ _ _ _ => by simp) (fun _ _ _ => by simp)
      have T2 := T1.trans (ht2.mono (by simp))
      have c3 : w2.cell? ⟨g, k * 8 + 3, none⟩ = some (.slice (L k).R.aQ (L k).R.nQ (L k).R.cQ) := by
        rw [H2.cell hlt 3 (by omega), upd_self]; rfl
      clear H1 T1 ht2 HU1 c1 c2
      go_wp2_with fail
      have hO := H2.own k hlt
      rw [upd_self] at hO
      refine (markVI_any (L k).R.aQ (L k).R.nQ (L k).R.cQ (q + 1) (b k) _ _ hO.q (by rw [HSh.out.1]; omega) (by omega)).mono ?_
      rintro e w3 ⟨rfl, hv3, ht3⟩
      have H3 := H2.markQ hlt (f := fun j => ((q + 1 + j : Nat) : Int)) (by rw [upd_self]; exact hv3) (by rw [upd_self]; exact ht3)
      rw [upd_self, upd_upd] at H3
      have T3 := T2.trans (ht3.mono (fun x hx => HIn.out x (List.mem_append_left _ hx)))
      rw [HSh.out.1]
      have c4 : w3.cell? ⟨g, k * 8 + 4, none⟩ = some (.slice (L k).R.aD (L k).R.nD (L k).R.cD) := by
        rw [H3.cell hlt 4 (by omega), upd_self]; rfl
      clear H2 T2 hv3 ht3 hO c3
      go_wp2_with fail
      have hO := H3.own k hlt
      rw [upd_self] at hO
      refine (markVI_any (L k).R.aD (L k).R.nD (L k).R.cD (q + 1 + 2) (b k) _ _ hO.d (by show (L k).R.nD ≤ _; rw [HSh.out.2.1]; omega) (by omega)).mono ?_
      rintro e w4 ⟨rfl, hv4, ht4⟩
      have H4 := H3.markD hlt (f := fun j => ((q + 1 + 2 + j : Nat) : Int)) (by rw [upd_self]; exact hv4) (by rw [upd_self]; exact ht4)
      rw [upd_self, upd_upd] at H4
      have T4 := T3.trans (ht4.mono (fun x hx => HIn.out x (List.mem_append_right _ hx)))
      rw [HSh.out.2.1, show q + 1 + 2 + 2 = q + 5 by omega]
      clear H3 T3 hv4 ht4 hO c4
      have HS5 : Hid (∀ t, Lanes (w4.setCell ⟨g, k * 8 + 5, none⟩ (.int .i64 t)) n b g (upd (marksL m k L) k { L k with st := mb q, R := { (L k).R with q := fun j => ((q + 1 + j : Nat) : Int), d := fun j => ((q + 1 + 2 + j : Nat) : Int), turn := t } })) := fun t => by
        have := H4.turn hlt t
        rw [upd_self, upd_upd] at this
        exact this
      have HS6 : Hid (∀ t s, Lanes ((w4.setCell ⟨g, k * 8 + 5, none⟩ (.int .i64 t)).setCell ⟨g, k * 8 + 6, none⟩ (.bool s)) n b g (upd (marksL m k L) k { L k with st := mb q, R := { (L k).R with q := fun j => ((q + 1 + j : Nat) : Int), d := fun j => ((q + 1 + 2 + j : Nat) : Int), turn := t, fresh := s } })) := fun t s => by
        have := (HS5.out t).fresh hlt s
        rw [upd_self, upd_upd] at this
        exact this
      obtain ⟨v5, c5⟩ := H4.row.there (k * 8 + 5) (by omega)
      have f5 := H4.row.free (k * 8 + 5)
      have c6 : ∀ t, (w4.setCell ⟨g, k * 8 + 5, none⟩ (.int .i64 t)).cell? ⟨g, k * 8 + 6, none⟩ = some (.bool (L k).R.fresh) := fun t => by
        rw [(HS5.out t).cell hlt 6 (by omega), upd_self]; rfl
      have f6 : ∀ t, (w4.setCell ⟨g, k * 8 + 5, none⟩ (.int .i64 t)).frozen? ⟨g, k * 8 + 6, none⟩ = false := fun t => (HS5.out t).row.free _
      have c7 : ∀ t s, ((w4.setCell ⟨g, k * 8 + 5, none⟩ (.int .i64 t)).setCell ⟨g, k * 8 + 6, none⟩ (.bool s)).cell? ⟨g, k * 8 + 7, none⟩ = some (.slice (L k).R.aS (L k).R.nS (L k).R.cS) := fun t s => by
        rw [(HS6.out t s).cell hlt 7 (by omega), upd_self]; rfl
      have T6 : ∀ t s, Touch (rowsL n g L) w ((w4.setCell ⟨g, k * 8 + 5, none⟩ (.int .i64 t)).setCell ⟨g, k * 8 + 6, none⟩ (.bool s)) := fun t s => (T4.set (by simp [rowsL]) _ _).set (by simp [rowsL]) _ _
      clear H4 T4
      go_wp2_with fail
      rw [show k * 8 + 3 + 2 = k * 8 + 5 from rfl, show k * 8 + 3 + 3 = k * 8 + 6 from rfl]
      simp only [mb_q6]
      have H6 := HS6.out ((q : Int) + 5) (mb (q + 6))
      have T6 := T6 ((q : Int) + 5) (mb (q + 6))
      generalize (w4.setCell ⟨g, k * 8 + 5, none⟩ (.int .i64 ((q : Int) + 5))).setCell ⟨g, k * 8 + 6, none⟩ (.bool (mb (q + 6))) = W6 at *
      clear HS5 HS6 c5 f5 c6 f6 c7
      have hO := H6.own k hlt
      rw [upd_self] at hO
      have HO : Hid (OwnRn W6 (b k) { (L k).R with q := fun j => ((q + 1 + j : Nat) : Int), d := fun j => ((q + 1 + 2 + j : Nat) : Int), turn := (q : Int) + 5, fresh := mb (q + 6) }) := hO
      have eS : sumL (L k).R.L (L k).R.nS = 0 := by
        rw [HSh.out.2.2.1]
        show 0 + (L k).R.L 0 + (L k).R.L 1 = 0
        rw [HSh.out.2.2.2, HSh.out.2.2.2]
      have eB : ∀ i, blkI ((L k).R.A i) ((L k).R.L i) = [] := fun i => by unfold blkI; rw [if_pos (HSh.out.2.2.2 i)]
      clear hO
      refine (markIntss_any (L k).R.aS (L k).R.nS (L k).R.cS (q + 5 + 1 + 1) (b k) (L k).R.A (L k).R.L (L k).R.C (L k).R.z [] _ (by rw [HSh.out.2.2.1]; omega) (by rw [eS]; omega) (by omega) (fun i _ => by rw [HSh.out.2.2.2]; omega) (fun w' ht => (VS.touchI HO.out.s ht (by simp)).read) HO.out.z (fun i j _ _ _ x hx => by rw [eB] at hx; simp at hx) (fun i hi x hx => by rw [eB] at hx; simp at hx)).mono ?_
      rintro e w7 ⟨rfl, _, ht7⟩
      rw [eS, Nat.add_zero]
      have H7 := H6.touch ht7 (by simp) (fun _ _ _ _ => by simp) (fun _ _ _ => by simp)
      have HT7 : Hid (Touch (rowsL n g L) w w7) := T6.trans (ht7.mono (by simp))
      rw [marks_step (by rw [← HQ.out]; rfl)] at H7
      have H7 : Hid (Lanes w7 n b g (marksL m (k + 1) L)) := H7
      clear H6 T6 ht7 HO eS eB
      go_wp2_with fail
      go_roundw
      case rel => exact ⟨k + 1, q + 5 + 1 + 1, by omega, by go_num, rfl, by have := HQ.out; omega, H7.out, HT7.out⟩
      case measure => simp [intOf]; omega
    · obtain rfl : k = n := by omega
      go_wp2_with fail
      go_ret
      exact ⟨ret_int (by rw [HQ.out]), hL, hT⟩
set_option maxRecDepth 100000 in
set_option maxHeartbeats 4000000 in
theorem heldLanes_any (g n cap m : Nat) (b : Nat → Nat) (L : Nat → Ln) (w : World) (h : Lanes w n b g (marksL m n L)) (hn : n ≤ 4) (hm : m ≤ 1000) :
    Calls Try.prog 26 #[.slice (some ⟨g, 0, none⟩) n cap, .int .i64 m] w fun e w' => e = .returned (.int .i64 ((m + 7 * n : Nat) : Int)) ∧ w = w' := by
  have H0 : Hid (Lanes w n b g (marksL m n L)) := h
  clear h
  go_enter Try.func26, Try.ntmps26
  go_wp2_with fail
  go_loop [1, 5] (fun x i => ∃ (k q : Nat), k ≤ n ∧ i = .int .i64 k ∧ x = .int .i64 q ∧ q = m + 7 * k) (fun _ i => n - (intOf i).toNat)
  case atStart => exact ⟨0, m, Nat.zero_le _, rfl, rfl, by simp⟩
  case round =>
    obtain ⟨k, q, hk, rfl, rfl, hq⟩ := hrel
    have HQ : Hid (q = m + 7 * k) := hq
    have q1 : q ≤ 2000 := by omega
    clear hq
    by_cases hlt : k < n
    · have hlt' : (k : Int) < n := by omega
      have eK : marksL m n L k = markLn q (L k) := by unfold marksL; rw [if_pos hlt, HQ.out]
      have hsh : (L k).R.nQ = 2 ∧ (L k).R.nD = 2 ∧ (L k).R.nS = 2 ∧ ∀ j, (L k).R.L j = 0 := by
        have := H0.out.sh k hlt
        rw [eK] at this
        exact this
      have HSh : Hid ((L k).R.nQ = 2 ∧ (L k).R.nD = 2 ∧ (L k).R.nS = 2 ∧ ∀ j, (L k).R.L j = 0) := hsh
      have HO : Hid (OwnRn w (b k) (markLn q (L k)).R) := by rw [Hid, ← eK]; exact H0.out.own k hlt
      have HU : Hid (VS w (b k) (L k).aU 2 fun _ => .slice none 0 0) := by
        have := H0.out.u k hlt
        rw [eK] at this
        exact this
      have c0 : w.cell? ⟨g, k * 8, none⟩ = some (.bool (mb q)) := by
        have := H0.out.cell hlt 0 (by omega)
        rw [eK] at this
        exact this
      have c1 : w.cell? ⟨g, k * 8 + 1, none⟩ = some (.slice none 0 0) := by rw [H0.out.cell hlt 1 (by omega), eK]; rfl
      have c2 : w.cell? ⟨g, k * 8 + 2, none⟩ = some (.slice (L k).aU 2 (L k).cU) := by rw [H0.out.cell hlt 2 (by omega), eK]; rfl
      have c3 : w.cell? ⟨g, k * 8 + 3, none⟩ = some (.slice (L k).R.aQ (L k).R.nQ (L k).R.cQ) := by rw [H0.out.cell hlt 3 (by omega), eK]; rfl
      have c4 : w.cell? ⟨g, k * 8 + 4, none⟩ = some (.slice (L k).R.aD (L k).R.nD (L k).R.cD) := by rw [H0.out.cell hlt 4 (by omega), eK]; rfl
      have c5 : w.cell? ⟨g, k * 8 + 5, none⟩ = some (.int .i64 ((q : Int) + 5)) := by rw [H0.out.cell hlt 5 (by omega), eK]; rfl
      have c6 : w.cell? ⟨g, k * 8 + 6, none⟩ = some (.bool (mb (q + 6))) := by rw [H0.out.cell hlt 6 (by omega), eK]; rfl
      have c7 : w.cell? ⟨g, k * 8 + 7, none⟩ = some (.slice (L k).R.aS (L k).R.nS (L k).R.cS) := by rw [H0.out.cell hlt 7 (by omega), eK]; rfl
      have e3 := mb_q q
      have e6 := mb_q6 q
      have hb1 : (mb q != mb q) = false := by simp
      have hb2 : (mb (q + 6) != mb (q + 6)) = false := by simp
      clear hsh eK
      go_wp2_with fail
      refine (heldEmpty_any none 0 (q + 1) _).mono ?_
      rintro e w1 ⟨rfl, rfl⟩
      go_wp2_with fail
      refine (heldIntss_any (L k).aU 2 (L k).cU (q + 1) (b k) (fun _ => none) (fun _ => 0) (fun _ => 0) _ (by omega) (by simp [sumL]) (by omega) (fun _ _ => by omega) HU.out.read (fun i hi => .inl rfl)).mono ?_
      rintro e w2 ⟨rfl, rfl⟩
      rw [show q + 1 + sumL (fun _ => 0) 2 = q + 1 from rfl]
      go_wp2_with fail
      refine (heldVI_any (L k).R.aQ (L k).R.nQ (L k).R.cQ (q + 1) (b k) _ HO.out.q (by rw [HSh.out.1]; omega) (by omega)).mono ?_
      rintro e w3 ⟨rfl, rfl⟩
      rw [HSh.out.1]
      go_wp2_with fail
      refine (heldVI_any (L k).R.aD (L k).R.nD (L k).R.cD (q + 1 + 2) (b k) _ HO.out.d (by rw [HSh.out.2.1]; omega) (by omega)).mono ?_
      rintro e w4 ⟨rfl, rfl⟩
      rw [HSh.out.2.1, show q + 1 + 2 + 2 = q + 5 by omega]
      have hb5 : (((q : Int) + 5) != ((q : Int) + 5)) = false := by simp
      go_wp2_with fail
      have eS : sumL (L k).R.L (L k).R.nS = 0 := by
        rw [HSh.out.2.2.1]
        show 0 + (L k).R.L 0 + (L k).R.L 1 = 0
        rw [HSh.out.2.2.2, HSh.out.2.2.2]
      refine (heldIntss_any (L k).R.aS (L k).R.nS (L k).R.cS (q + 5 + 1 + 1) (b k) (L k).R.A (L k).R.L (L k).R.C _ (by rw [HSh.out.2.2.1]; omega) (by rw [eS]; omega) (by omega) (fun i _ => by rw [HSh.out.2.2.2]; omega) HO.out.s.read (fun i hi => .inl (HSh.out.2.2.2 i))).mono ?_
      rintro e w7 ⟨rfl, rfl⟩
      rw [eS, Nat.add_zero]
      clear eS
      go_wp2_with fail
      go_round
      case rel => exact ⟨k + 1, q + 5 + 1 + 1, by omega, by go_num, rfl, by have := HQ.out; omega⟩
      case measure => simp [intOf]; omega
    · obtain rfl : k = n := by omega
      go_wp2_with fail
      go_ret
      exact ⟨ret_int (by have := HQ.out; omega), rfl⟩
end Go.Proofs.Ytclibohnmjkliaa
