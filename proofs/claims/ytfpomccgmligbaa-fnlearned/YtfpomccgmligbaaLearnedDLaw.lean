/- What was learned is known, at the port where it was seen last; all others are known as they were, but for one that made room: the law FnLearned returns true for every code, under no condition. -/
import Derived.Test.YtfpomccgmligbaaLiftB
import Derived.Test.YtfpomccgmligbaaDLrn
namespace Go.Proofs.Ytfpomccgmligbaa
open Go.ChangeShapes Go.WideShapes Go.ChangeAt Go.RowKit
set_option linter.unusedVariables false
set_option linter.unusedSimpArgs false

theorem gone_in {f : Nat → Ent} {mac : Int} {A : List Ent} {k : Nat} (h : (f k).m = mac ∨ f k ∈ A) : gone f mac A (k + 1) = gone f mac A k := by
  show gone f mac A k + _ = _
  rw [if_pos h]; rfl
theorem gone_out {f : Nat → Ent} {mac : Int} {A : List Ent} {k : Nat} (h : ¬ ((f k).m = mac ∨ f k ∈ A)) : gone f mac A (k + 1) = gone f mac A k + 1 := by
  show gone f mac A k + _ = _
  rw [if_neg h]
theorem eq3 {ym yp yt xm xp xt : Int} {c : Bool} (h : c = true ↔ ym = xm ∧ yp = xp ∧ yt = xt) {α : Type} (X Y : α) : (if ym = xm then if yp = xp then if yt = xt then X else Y else Y else Y) = if c = true then X else Y := by
  by_cases h1 : ym = xm
  · by_cases h2 : yp = xp
    · by_cases h3 : yt = xt
      · rw [if_pos h1, if_pos h2, if_pos h3, if_pos (h.2 ⟨h1, h2, h3⟩)]
      · rw [if_pos h1, if_pos h2, if_neg h3, if_neg (fun e => h3 (h.1 e).2.2)]
    · rw [if_pos h1, if_neg h2, if_neg (fun e => h2 (h.1 e).2.1)]
  · rw [if_neg h1, if_neg (fun e => h1 (h.1 e).1)]
theorem ok_decT (p : Prop) : ∃ ok : Bool, ok = true ↔ p := by
  by_cases h : p
  · exact ⟨true, by simp [h]⟩
  · exact ⟨false, by simp [h]⟩
theorem seen_step {A : List Ent} {mac : Int} {x : Ent} {j : Nat} {b : Bool} (h : b = true ↔ x.m = mac ∨ ∃ i, i < j ∧ A.getD i default = x) (c : Bool) (hc : c = true ↔ b = true ∨ A.getD j default = x) : c = true ↔ x.m = mac ∨ ∃ i, i < j + 1 ∧ A.getD i default = x := by
  rw [hc, h]
  constructor
  · rintro ((h | ⟨i, hi, e⟩) | e)
    · exact .inl h
    · exact .inr ⟨i, by omega, e⟩
    · exact .inr ⟨j, by omega, e⟩
  · rintro (h | ⟨i, hi, e⟩)
    · exact .inl (.inl h)
    · by_cases hj : i = j
      · subst hj; exact .inr e
      · exact .inl (.inr ⟨i, by omega, e⟩)
theorem seen_end {A : List Ent} {mac : Int} {x : Ent} {b : Bool} (h : b = true ↔ x.m = mac ∨ ∃ i, i < A.length ∧ A.getD i default = x) : b = true ↔ x.m = mac ∨ x ∈ A := by
  rw [h]
  constructor
  · rintro (h | ⟨i, hi, e⟩)
    · exact .inl h
    · right
      rw [← e]
      simp [List.getD_eq_getElem?_getD, hi]
  · rintro (h | h)
    · exact .inl h
    · obtain ⟨i, hi, e⟩ := List.getElem_of_mem h
      exact .inr ⟨i, hi, by simp [List.getD_eq_getElem?_getD, hi, e]⟩
set_option maxRecDepth 100000 in
set_option maxHeartbeats 8000000 in
theorem learnedLaw_any (a : Option Addr) (len cap : Nat) (w : World) (hl : len ≤ maxLen) (hC : len ≤ 1048576 → Code w.heap.size (.slice a len cap) len w) :
    Calls Try.prog 3 #[.slice a len cap] w fun e w' => e = .returned (.bool true) ∧ Below w.heap.size w w' := by
  have HC : Hid (len ≤ 1048576 → Code w.heap.size (.slice a len cap) len w) := hC
  clear hC
  by_cases hbig : 1048576 < (len : Int)
  · go_enter Try.func3, Try.ntmps3
    go_wp2_with fail
    refine (bigT_any a len cap _ hl).mono ?_
    rintro e w' ⟨rfl, hw⟩
    rw [hw, decide_eq_true hbig]
    clear hw w'
    go_wp2_with fail
    go_ret
    exact ⟨rfl, Below.refl _ _⟩
  go_enter Try.func3, Try.ntmps3
  go_wp2_with fail
  refine (bigT_any a len cap _ hl).mono ?_
  rintro e w' ⟨rfl, hw⟩
  rw [hw, decide_eq_false (show ¬ (1048576 : Int) < (len : Int) by omega)]
  clear hw w'
  go_wp2_with fail
  refine (drawLearned_any (.slice a len cap) len _ (HC.out (by omega)) ⟨_, _, _, rfl⟩).mono ?_
  rintro e w1 ⟨al, n, cl, f, mac, port, now, rfl, hn, hmac, hrd, B⟩
  have HMac : Hid (-9223372036854775808 ≤ mac ∧ mac ≤ 9223372036854775807) := hmac
  clear hmac
  clear HC hbig
  obtain ⟨A, bb, hA⟩ := learnR n f ⟨mac, port, now⟩
  have HA : Hid (LearnR n f ⟨mac, port, now⟩ A bb) := hA
  have HA8 : Hid (A.length ≤ 8) := hA.few
  have HM : Hid (n ≤ maxLen) := by rw [Hid]; unfold maxLen; omega
  have HN8 : Hid (n ≤ 8) := hn
  have hbb : (bb != bb) = false := by cases bb <;> rfl
  have hbe : (bb == bb) = true := by cases bb <;> rfl
  clear hA hn
  go_wp2_with fail
  refine (iLearned_any al n cl f mac port now A bb _ HM.out hrd HMac.out.1 HMac.out.2 HA.out).mono ?_
  rintro e w2 ⟨v1, rfl, hv1, hb⟩
  obtain ⟨a1, c1, rfl, hr1⟩ := hv1.read
  replace hrd := hrd.up hb
  replace B := B.trans (hb.mono B.size)
  clear hv1 hb
  go_wp2_with fail
  refine (sLearned_any al n cl f mac port now A bb _ HM.out hrd HA.out).mono ?_
  rintro e w3 ⟨v2, rfl, hv2, hb⟩
  obtain ⟨a2, c2, rfl, hr2⟩ := hv2.read
  replace hrd := hrd.up hb
  replace hr1 := hr1.up hb
  replace B := B.trans (hb.mono B.size)
  clear hv2 hb
  go_wp2_with fail
  refine (sameTable_any a1 a2 A.length c1 c2 _ _ (by have := HA8.out; omega) hr1 hr2).mono ?_
  rintro e w4 ⟨rfl, hSm⟩
  have hb := hSm.below w3.heap.size
  replace hrd := hrd.up hb
  replace hr1 := hr1.up hb
  replace hr2 := hr2.up hb
  replace B := B.trans (hb.mono B.size)
  clear hSm hb
  cases bb
  · go_wp2_with fail
    refine (sameTable_any a1 a2 A.length c1 c2 _ _ (by have := HA8.out; omega) hr1 hr2).mono ?_
    rintro e w5 ⟨rfl, hSm⟩
    replace B := B.trans ((hSm.below w4.heap.size).mono B.size)
    clear hSm hr1 hr2 hrd
    go_wp2_with fail
    go_ret
    exact ⟨rfl, B⟩
  · have hTx : tabOk n f ∧ entOk ⟨mac, port, now⟩ := by
      by_cases h : tabOk n f ∧ entOk ⟨mac, port, now⟩
      · exact h
      · exact absurd (HA.out.bad h).2 (by simp)
    have HT : Hid (tabOk n f) := hTx.1
    have HX : Hid (entOk ⟨mac, port, now⟩) := hTx.2
    obtain rfl : A = learnedL (entsL n f) ⟨mac, port, now⟩ := (HA.out.good HT.out HX.out).1
    have HTA : Hid (tabOk (learnedL (entsL n f) ⟨mac, port, now⟩).length fun i => (learnedL (entsL n f) ⟨mac, port, now⟩).getD i default) := by
      obtain ⟨h1, h2, h3⟩ := learned_facts HT.out HX.out
      exact tab_of_list h2 h1 h3
    have HPr : Hid (PortR (learnedL (entsL n f) ⟨mac, port, now⟩).length (fun i => (learnedL (entsL n f) ⟨mac, port, now⟩).getD i default) mac now port) := by
      refine ⟨fun _ _ => ?_, fun hh => absurd ⟨HTA.out, HX.out.2.2⟩ hh⟩
      rw [entsL_back]
      exact (portS_here (x := ⟨mac, port, now⟩) (learned_facts HT.out HX.out).1 x_in_learned).symm
    have HG : Hid (gone f mac (learnedL (entsL n f) ⟨mac, port, now⟩) n = 0 ∨ gone f mac (learnedL (entsL n f) ⟨mac, port, now⟩) n = 1 ∧ n = 8) := learned_gone (x := ⟨mac, port, now⟩) HT.out HX.out
    have HMA : Hid ((learnedL (entsL n f) ⟨mac, port, now⟩).length ≤ maxLen) := by have := HA8.out; rw [Hid]; unfold maxLen; omega
    have hmb : 1 ≤ mac ∧ mac ≤ 20 := HX.out.1
    have HR1 : Hid (RdEnt w4 a1 (learnedL (entsL n f) ⟨mac, port, now⟩).length fun i => (learnedL (entsL n f) ⟨mac, port, now⟩).getD i default) := hr1
    have HRd : Hid (RdEnt w4 al n f) := hrd
    have HB4 : Hid (Below w.heap.size w w4) := B
    have HL8 : Hid ((learnedL (entsL n f) ⟨mac, port, now⟩).length ≤ 8) := HA8.out
    clear HA HA8 hr1 hr2 hrd B hTx HT HX
    generalize learnedL (entsL n f) ⟨mac, port, now⟩ = A at *
    have hn8 : n ≤ 8 := HN8.out
    have ha8 : A.length ≤ 8 := HL8.out
    go_wp2_with fail
    go_loopw [11, 12] (fun gv i wr => ∃ k : Nat, k ≤ n ∧ i = .int .i64 k ∧ gv = .int .i64 ((gone f mac A k : Nat) : Int) ∧ Below w4.heap.size w4 wr) (fun _ i _ => n - (intOf i).toNat)
    case atStart => exact ⟨0, Nat.zero_le _, rfl, rfl, Below.refl _ _⟩
    case round =>
      obtain ⟨k, hk, rfl, rfl, hB⟩ := hrel
      have hgl := gone_le f mac A k
      by_cases hlt : k < n
      · have hlt' : (k : Int) < n := by omega
        obtain ⟨g2, o2, rfl, q1, q2, q3⟩ := (HRd.out.up hB) k hlt
        have HGi : Hid ((f k).m = mac ∨ f k ∈ A → gone f mac A (k + 1) = gone f mac A k) := gone_in
        have HGo : Hid (¬ ((f k).m = mac ∨ f k ∈ A) → gone f mac A (k + 1) = gone f mac A k + 1) := gone_out
        generalize hgk : gone f mac A k = G at *
        clear hgk
        have hG8 : G ≤ 8 := by omega
        obtain ⟨b0, hb0⟩ := ok_decT ((f k).m = mac)
        have HB0 : Hid (b0 = true ↔ (f k).m = mac) := hb0
        have e0 : ((f k).m == mac) = b0 := by
          rw [Bool.eq_iff_iff, HB0.out]; simp
        clear hb0 q2 q3
        go_wp2_with fail
        clear e0
        go_loopw [13, 14] (fun bv i wr => ∃ (j : Nat) (b : Bool), j ≤ A.length ∧ i = .int .i64 j ∧ bv = .bool b ∧ (b = true ↔ (f k).m = mac ∨ ∃ i, i < j ∧ A.getD i default = f k) ∧ Below w4.heap.size w4 wr) (fun _ i _ => A.length - (intOf i).toNat)
        case atStart => exact ⟨0, b0, Nat.zero_le _, rfl, rfl, by rw [HB0.out]; simp, hB⟩
        case round =>
          clear hB q1
          obtain ⟨j, b, hj, rfl, rfl, hb, hB⟩ := hrel
          have HBv : Hid (b = true ↔ (f k).m = mac ∨ ∃ i, i < j ∧ A.getD i default = f k) := hb
          clear hb
          by_cases hjl : j < A.length
          · have hjl' : (j : Int) < A.length := by omega
            have hB2 : Below w4.heap.size w4 wr.drew := hB.drew
            obtain ⟨g1, o1, rfl, p1, p2, p3⟩ := (HR1.out.up hB2) j hjl
            obtain ⟨g2, o2, e2, q1, q2, q3⟩ := (HRd.out.up hB2) k hlt
            cases e2
            have HSt : Hid (∀ c : Bool, (c = true ↔ b = true ∨ A.getD j default = f k) → (c = true ↔ (f k).m = mac ∨ ∃ i, i < j + 1 ∧ A.getD i default = f k)) := fun c hc => seen_step HBv.out c hc
            have HB2 : Hid (Below w4.heap.size w4 wr.drew) := hB2
            dsimp only at p1 p2 p3
            generalize hy : A.getD j default = y at *
            generalize hx : f k = x at *
            obtain ⟨ym, yp, yt⟩ := y
            obtain ⟨xm, xp, xt⟩ := x
            dsimp only at p1 p2 p3 q1 q2 q3
            clear hB hB2 hy hx HBv
            go_wp2_with fail
            cases b
            · obtain ⟨c, hc⟩ := ok_decT (ym = xm ∧ yp = xp ∧ yt = xt)
              have HCc : Hid (c = true ↔ ym = xm ∧ yp = xp ∧ yt = xt) := hc
              clear hc
              refine wp_region_held_drew (S := fun w' => w'.cell? ⟨g1, o1 + j * 3, none⟩ = some (.int .i64 ym) ∧ w'.cell? ⟨g1, o1 + j * 3 + 1, none⟩ = some (.int .i64 yp) ∧ w'.cell? ⟨g1, o1 + j * 3 + 2, none⟩ = some (.int .i64 yt) ∧ w'.cell? ⟨g2, o2 + k * 3, none⟩ = some (.int .i64 xm) ∧ w'.cell? ⟨g2, o2 + k * 3 + 1, none⟩ = some (.int .i64 xp) ∧ w'.cell? ⟨g2, o2 + k * 3 + 2, none⟩ = some (.int .i64 xt)) (by kernel_rfl) ⟨p1, p2, p3, q1, q2, q3⟩ (fun hHeld => ?_)
              refine takeD (i := 0) (some 80) (v := ?_) rfl rfl (by kernel_rfl) (by kernel_rfl) (by kernel_rfl) (fun _ _ _ h => h) (by kernel_rfl) ?_ (by assumption) ?_
              rotate_left
              · intro wx hSw
                obtain ⟨hS1, hS2, hS3, hS4, hS5, hS6⟩ := hSw
                go_simp
                try (with_reducible rfl)
              try simp only [Act.put, List.setIfInBounds_toArray, List.set_cons_zero, List.set_cons_succ]
              refine takeD (i := 1) (some 81) (v := ?_) rfl rfl (by kernel_rfl) (by kernel_rfl) (by kernel_rfl) (fun _ _ _ h => h) (by kernel_rfl) ?_ (by assumption) ?_
              rotate_left
              · intro wx hSw
                obtain ⟨hS1, hS2, hS3, hS4, hS5, hS6⟩ := hSw
                go_simp
                try (with_reducible rfl)
              try simp only [Act.put, List.setIfInBounds_toArray, List.set_cons_zero, List.set_cons_succ]
              refine takeD (i := 2) (some 82) (v := ?_) rfl rfl (by kernel_rfl) (by kernel_rfl) (by kernel_rfl) (fun _ _ _ h => h) (by kernel_rfl) ?_ (by assumption) ?_
              rotate_left
              · intro wx hSw
                obtain ⟨hS1, hS2, hS3, hS4, hS5, hS6⟩ := hSw
                go_simp
                try (with_reducible rfl)
              try simp only [Act.put, List.setIfInBounds_toArray, List.set_cons_zero, List.set_cons_succ]
              refine takeD (i := 3) (some 83) (v := ?_) rfl rfl (by kernel_rfl) (by kernel_rfl) (by kernel_rfl) (fun _ _ _ h => h) (by kernel_rfl) ?_ (by assumption) ?_
              rotate_left
              · intro wx hSw
                obtain ⟨hS1, hS2, hS3, hS4, hS5, hS6⟩ := hSw
                go_simp
                try (with_reducible rfl)
              try simp only [Act.put, List.setIfInBounds_toArray, List.set_cons_zero, List.set_cons_succ]
              refine takeD (i := 4) (some 84) (v := ?_) rfl rfl (by kernel_rfl) (by kernel_rfl) (by kernel_rfl) (fun _ _ _ h => h) (by kernel_rfl) ?_ (by assumption) ?_
              rotate_left
              · intro wx hSw
                obtain ⟨hS1, hS2, hS3, hS4, hS5, hS6⟩ := hSw
                go_simp
                try (with_reducible rfl)
              try simp only [Act.put, List.setIfInBounds_toArray, List.set_cons_zero, List.set_cons_succ]
              refine takeD (i := 5) (some 85) (v := ?_) rfl rfl (by kernel_rfl) (by kernel_rfl) (by kernel_rfl) (fun _ _ _ h => h) (by kernel_rfl) ?_ (by assumption) ?_
              rotate_left
              · intro wx hSw
                obtain ⟨hS1, hS2, hS3, hS4, hS5, hS6⟩ := hSw
                go_simp
                try (with_reducible rfl)
              try simp only [Act.put, List.setIfInBounds_toArray, List.set_cons_zero, List.set_cons_succ]
              refine takeD (i := 6) (some 86) (v := ?_) rfl rfl (by kernel_rfl) (by kernel_rfl) (by kernel_rfl) (fun _ _ _ h => h) (by kernel_rfl) ?_ (by assumption) ?_
              rotate_left
              · intro wx hSw
                obtain ⟨hS1, hS2, hS3, hS4, hS5, hS6⟩ := hSw
                go_simp
                try (with_reducible rfl)
              try simp only [Act.put, List.setIfInBounds_toArray, List.set_cons_zero, List.set_cons_succ]
              refine takeD (i := 7) (some 87) (v := ?_) rfl rfl (by kernel_rfl) (by kernel_rfl) (by kernel_rfl) (fun _ _ _ h => h) (by kernel_rfl) ?_ (by assumption) ?_
              rotate_left
              · intro wx hSw
                obtain ⟨hS1, hS2, hS3, hS4, hS5, hS6⟩ := hSw
                go_simp
                try (with_reducible rfl)
              try simp only [Act.put, List.setIfInBounds_toArray, List.set_cons_zero, List.set_cons_succ]
              refine takeD (i := 8) (some 88) (v := ?_) rfl rfl (by kernel_rfl) (by kernel_rfl) (by kernel_rfl) (fun _ _ _ h => h) (by kernel_rfl) ?_ (by assumption) ?_
              rotate_left
              · intro wx hSw
                obtain ⟨hS1, hS2, hS3, hS4, hS5, hS6⟩ := hSw
                go_simp
                try (with_reducible rfl)
              try simp only [Act.put, List.setIfInBounds_toArray, List.set_cons_zero, List.set_cons_succ]
              refine takeD (i := 9) (some 89) (v := ?_) rfl rfl (by kernel_rfl) (by kernel_rfl) (by kernel_rfl) (fun _ _ _ h => h) (by kernel_rfl) ?_ (by assumption) ?_
              rotate_left
              · intro wx hSw
                obtain ⟨hS1, hS2, hS3, hS4, hS5, hS6⟩ := hSw
                go_simp
                try (with_reducible rfl)
              try simp only [Act.put, List.setIfInBounds_toArray, List.set_cons_zero, List.set_cons_succ]
              refine takeD (i := 10) (some 90) (v := .bool c) rfl rfl (by kernel_rfl) (by kernel_rfl) (by kernel_rfl) (fun _ _ _ h => h) (by kernel_rfl) ?_ (by assumption) ?_
              · intro wx hSw
                obtain ⟨hS1, hS2, hS3, hS4, hS5, hS6⟩ := hSw
                go_simp
                rw [eq3 HCc.out]
                cases c <;> rfl
              try simp only [Act.put, List.setIfInBounds_toArray, List.set_cons_zero, List.set_cons_succ]
              refine takeD (i := 11) (some 91) (v := ?_) rfl rfl (by kernel_rfl) (by kernel_rfl) (by kernel_rfl) (fun _ _ _ h => h) (by kernel_rfl) ?_ (by assumption) ?_
              rotate_left
              · intro wx hSw
                obtain ⟨hS1, hS2, hS3, hS4, hS5, hS6⟩ := hSw
                go_simp
                try (with_reducible rfl)
              try simp only [Act.put, List.setIfInBounds_toArray, List.set_cons_zero, List.set_cons_succ]
              refine takeD (i := 12) (some 13) (v := ?_) rfl rfl (by kernel_rfl) (by kernel_rfl) (by kernel_rfl) (fun _ _ _ h => h) (by kernel_rfl) ?_ (by assumption) ?_
              rotate_left
              · intro wx hSw
                obtain ⟨hS1, hS2, hS3, hS4, hS5, hS6⟩ := hSw
                go_simp
                try (with_reducible rfl)
              try simp only [Act.put, List.setIfInBounds_toArray, List.set_cons_zero, List.set_cons_succ]
              refine wpAnyH_done (by kernel_rfl) ?_ _
              have HSn := HSt.out c (by rw [HCc.out]; simp)
              clear p1 p2 p3 q1 q2 q3 hHeld HCc HSt
              have HSn : Hid _ := HSn
              go_wp2_with fail
              go_roundw
              case rel => exact ⟨j + 1, c, by omega, by go_num, rfl, HSn.out, HB2.out⟩
              case measure => simp [intOf]; omega
            · refine wp_region_held_drew (S := fun w' => w'.cell? ⟨g1, o1 + j * 3, none⟩ = some (.int .i64 ym) ∧ w'.cell? ⟨g1, o1 + j * 3 + 1, none⟩ = some (.int .i64 yp) ∧ w'.cell? ⟨g1, o1 + j * 3 + 2, none⟩ = some (.int .i64 yt) ∧ w'.cell? ⟨g2, o2 + k * 3, none⟩ = some (.int .i64 xm) ∧ w'.cell? ⟨g2, o2 + k * 3 + 1, none⟩ = some (.int .i64 xp) ∧ w'.cell? ⟨g2, o2 + k * 3 + 2, none⟩ = some (.int .i64 xt)) (by kernel_rfl) ⟨p1, p2, p3, q1, q2, q3⟩ (fun hHeld => ?_)
              refine takeD (i := 0) (some 80) (v := ?_) rfl rfl (by kernel_rfl) (by kernel_rfl) (by kernel_rfl) (fun _ _ _ h => h) (by kernel_rfl) ?_ (by assumption) ?_
              rotate_left
              · intro wx hSw
                obtain ⟨hS1, hS2, hS3, hS4, hS5, hS6⟩ := hSw
                go_simp
                try (with_reducible rfl)
              try simp only [Act.put, List.setIfInBounds_toArray, List.set_cons_zero, List.set_cons_succ]
              refine takeD (i := 1) (some 81) (v := ?_) rfl rfl (by kernel_rfl) (by kernel_rfl) (by kernel_rfl) (fun _ _ _ h => h) (by kernel_rfl) ?_ (by assumption) ?_
              rotate_left
              · intro wx hSw
                obtain ⟨hS1, hS2, hS3, hS4, hS5, hS6⟩ := hSw
                go_simp
                try (with_reducible rfl)
              try simp only [Act.put, List.setIfInBounds_toArray, List.set_cons_zero, List.set_cons_succ]
              refine skipD (i := 2) (some 82) rfl rfl (by kernel_rfl) (by kernel_rfl) (by kernel_rfl) (fun _ _ _ h => h) (by kernel_rfl) (by assumption) ?_
              try simp only [Act.put, List.setIfInBounds_toArray, List.set_cons_zero, List.set_cons_succ]
              refine skipD (i := 3) (some 83) rfl rfl (by kernel_rfl) (by kernel_rfl) (by kernel_rfl) (fun _ _ _ h => h) (by kernel_rfl) (by assumption) ?_
              try simp only [Act.put, List.setIfInBounds_toArray, List.set_cons_zero, List.set_cons_succ]
              refine skipD (i := 4) (some 84) rfl rfl (by kernel_rfl) (by kernel_rfl) (by kernel_rfl) (fun _ _ _ h => h) (by kernel_rfl) (by assumption) ?_
              try simp only [Act.put, List.setIfInBounds_toArray, List.set_cons_zero, List.set_cons_succ]
              refine skipD (i := 5) (some 85) rfl rfl (by kernel_rfl) (by kernel_rfl) (by kernel_rfl) (fun _ _ _ h => h) (by kernel_rfl) (by assumption) ?_
              try simp only [Act.put, List.setIfInBounds_toArray, List.set_cons_zero, List.set_cons_succ]
              refine skipD (i := 6) (some 86) rfl rfl (by kernel_rfl) (by kernel_rfl) (by kernel_rfl) (fun _ _ _ h => h) (by kernel_rfl) (by assumption) ?_
              try simp only [Act.put, List.setIfInBounds_toArray, List.set_cons_zero, List.set_cons_succ]
              refine skipD (i := 7) (some 87) rfl rfl (by kernel_rfl) (by kernel_rfl) (by kernel_rfl) (fun _ _ _ h => h) (by kernel_rfl) (by assumption) ?_
              try simp only [Act.put, List.setIfInBounds_toArray, List.set_cons_zero, List.set_cons_succ]
              refine skipD (i := 8) (some 88) rfl rfl (by kernel_rfl) (by kernel_rfl) (by kernel_rfl) (fun _ _ _ h => h) (by kernel_rfl) (by assumption) ?_
              try simp only [Act.put, List.setIfInBounds_toArray, List.set_cons_zero, List.set_cons_succ]
              refine skipD (i := 9) (some 89) rfl rfl (by kernel_rfl) (by kernel_rfl) (by kernel_rfl) (fun _ _ _ h => h) (by kernel_rfl) (by assumption) ?_
              try simp only [Act.put, List.setIfInBounds_toArray, List.set_cons_zero, List.set_cons_succ]
              refine skipD (i := 10) (some 90) rfl rfl (by kernel_rfl) (by kernel_rfl) (by kernel_rfl) (fun _ _ _ h => h) (by kernel_rfl) (by assumption) ?_
              try simp only [Act.put, List.setIfInBounds_toArray, List.set_cons_zero, List.set_cons_succ]
              refine takeD (i := 11) (some 91) (v := ?_) rfl rfl (by kernel_rfl) (by kernel_rfl) (by kernel_rfl) (fun _ _ _ h => h) (by kernel_rfl) ?_ (by assumption) ?_
              rotate_left
              · intro wx hSw
                obtain ⟨hS1, hS2, hS3, hS4, hS5, hS6⟩ := hSw
                go_simp
                try (with_reducible rfl)
              try simp only [Act.put, List.setIfInBounds_toArray, List.set_cons_zero, List.set_cons_succ]
              refine takeD (i := 12) (some 13) (v := ?_) rfl rfl (by kernel_rfl) (by kernel_rfl) (by kernel_rfl) (fun _ _ _ h => h) (by kernel_rfl) ?_ (by assumption) ?_
              rotate_left
              · intro wx hSw
                obtain ⟨hS1, hS2, hS3, hS4, hS5, hS6⟩ := hSw
                go_simp
                try (with_reducible rfl)
              try simp only [Act.put, List.setIfInBounds_toArray, List.set_cons_zero, List.set_cons_succ]
              refine wpAnyH_done (by kernel_rfl) ?_ _
              have HSn := HSt.out true (by simp)
              clear p1 p2 p3 q1 q2 q3 hHeld HSt
              have HSn : Hid _ := HSn
              go_wp2_with fail
              go_roundw
              case rel => exact ⟨j + 1, true, by omega, by go_num, rfl, HSn.out, HB2.out⟩
              case measure => simp [intOf]; omega
          · obtain rfl : j = A.length := by omega
            have HE : Hid (b = true ↔ (f k).m = mac ∨ f k ∈ A) := seen_end HBv.out
            have hjj : ¬ ((A.length : Nat) : Int) < ((A.length : Nat) : Int) := by omega
            have HB2 : Hid (Below w4.heap.size w4 wr) := hB
            clear HBv hB
            cases b
            · have HGn := HGo.out (fun h => absurd (HE.out.2 h) (by simp))
              clear HE HGo HGi
              have HGn : Hid _ := HGn
              go_wp2_with fail
              go_roundw
              case rel => exact ⟨k + 1, by omega, by go_num, by rw [HGn.out]; go_num, HB2.out⟩
              case measure => simp [intOf]; omega
            · have HGn := HGi.out (HE.out.1 rfl)
              clear HE HGo HGi
              have HGn : Hid _ := HGn
              go_wp2_with fail
              go_roundw
              case rel => exact ⟨k + 1, by omega, by go_num, by rw [HGn.out], HB2.out⟩
              case measure => simp [intOf]; omega
      · obtain rfl : k = n := by omega
        have hpp : (port == port) = true := by simp
        clear hgl
        go_wp2_with fail
        refine (iTableOk_any a1 A.length c1 _ _ HMA.out (HR1.out.up hB) true ⟨fun _ => HTA.out, fun _ => rfl⟩).mono ?_
        rintro e w6 ⟨rfl, hb⟩
        replace hB := hB.trans (hb.mono hB.size)
        clear hb
        go_wp2_with fail
        refine (iPortOf_any a1 A.length c1 _ mac now port _ HMA.out (HR1.out.up hB) (by omega) (by omega) HPr.out).mono ?_
        rintro e w7 ⟨rfl, hb⟩
        replace hB := hB.trans (hb.mono hB.size)
        have B := HB4.out.trans (hB.mono HB4.out.size)
        clear hb hB
        rcases HG.out with h0 | ⟨h1, h8⟩
        · rw [h0]
          clear h0
          go_wp2_with fail
          go_ret
          exact ⟨rfl, B⟩
        · rw [h1]
          have h8' : ((k : Int) == 8) = true := by rw [h8]; rfl
          clear h1 h8
          go_wp2_with fail
          go_ret
          exact ⟨rfl, B⟩

set_option maxRecDepth 100000 in
theorem learnedD_lifted (os : Os) (started : os.Started) (H : Type) (enc : TypeId × Value → H) :
    ReturnsInHanded {} Try.checked os 3 .any (Rows.fnLearnedSpec.pre6 enc Try.prog Try.f3 Rows.fnLearnedRow.domain false) (Rows.fnLearnedSpec.post enc Try.prog Try.f3 false true false false) := by
  refine returnsInHanded_of_change (C := Try.checked) own started (by kernel_rfl) Try.func3
    (ChangeSpec.witness6 (enc := enc) (C := Try.checked) false ⟨#[], #[.slice none 0 0], []⟩ 8 (by kernel_rfl) (by kernel_rfl) (by kernel_rfl) (by kernel_rfl)) ?_
  intro W base args ds gs before hval0 hW hcnd _
  have hval : ∀ (j : Nat) t v, Try.f3.params[j]? = some t → args[j]? = some v → Value.okWide Try.prog W .any base t v := hval0
  have hW' := hW
  obtain ⟨p, q, hA0, hV, rfl, hfz, hnd⟩ := hW
  have hA : DataW.TrodAll enc Try.prog W 0 (fun _ => true) true Try.f3.params.toList args.toList ds p := hA0
  rw [Try.params3] at hA hval
  obtain ⟨v0, vs0, d0, ds0, p0, q0, hargs, rfl, rfl, h0, r0⟩ := trodAll_cons hA
  obtain ⟨rfl, rfl, rfl⟩ := trodAll_nil r0
  obtain rfl : args = #[v0] := by cases args; simp_all
  obtain ⟨rfl, rfl⟩ := trodVars_none hV
  obtain ⟨a0, len0, cap0, rfl⟩ := okWide_slice Try.underlying22 (hval 0 22 v0 rfl rfl)
  have k0 := h0
  have lt0 : ∀ x ∈ p0, x.block < W.heap.size := by obtain ⟨m, hm⟩ := k0; exact DataW.trod_lt m _ _ _ hm
  obtain ⟨hm, hc⟩ := open_bytes h0
  clear hA0 hval0
  refine (learnedLaw_any a0 len0 cap0 W hm hc).mono fun e W' ⟨he, bel⟩ => ?_
  subst he
  exact ⟨_, rfl, _, _, _, [], _, [], hW', trodAll_mk1 (shut_bool Try.underlying4 _), (trodAll_cons_mk (Below.trod laidOut (by kernel_rfl) (of_decide_eq_true (by kernel_rfl)) k0 bel lt0) trodAll_mk0), rfl, bel.frame _, fun h => by cases h⟩

theorem learnedD_holds : Rows.FnLearnedSaid :=
  OpenClaim.holds_of_wide 3 Try.f3 rfl rfl rfl rfl rfl rfl rfl ⟨rfl, rfl, rfl, rfl, rfl⟩ rfl rfl rfl rfl rfl (by kernel_rfl) Try.func3 (by kernel_rfl)
    (of_decide_eq_true (by kernel_rfl)) (by unfold Func.isWrapper; first | (rw [if_pos (by decide +kernel)]; kernel_rfl) | (rw [if_neg (by decide +kernel)]; exact ⟨rfl, rfl⟩))
    (fun os started H enc _ => learnedD_lifted os started H enc)
#print axioms learnedD_holds
end Go.Proofs.Ytfpomccgmligbaa
