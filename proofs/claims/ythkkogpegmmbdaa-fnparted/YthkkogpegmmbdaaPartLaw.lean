/- Each cell is free or in just one chain: the law's walk. -/
import Derived.Test.YthkkogpegmmbdaaArPart
import Derived.Test.YthkkogpegmmbdaaArDraw2
namespace Go.Proofs.Ythkkogpegmmbdaa
open Go.RowKit
set_option linter.unusedVariables false
set_option linter.unusedSimpArgs false

/-- the row of numbers that was made last: c of each cell -/
def SeenIn (wM wr : World) (n : Nat) (c : Nat → Nat) : Prop := Below wM.heap.size wM wr ∧ RowTo wM.heap.size 2 n (fun j => .int .i64 ((c j : Nat) : Int)) n wr
theorem SeenIn.up {wM wr wr' : World} {n : Nat} {c : Nat → Nat} (h : SeenIn wM wr n c) (hb : Below wr.heap.size wr wr') : SeenIn wM wr' n c :=
  ⟨h.1.trans (hb.mono h.1.size), h.2.keep (hb.block _ h.2.lt)⟩
theorem SeenIn.one {wM wr : World} {n x : Nat} {c c' : Nat → Nat} (h : SeenIn wM wr n c) (hx : x < n) (he : ∀ j, j < n → c' j = c j + if j = x then 1 else 0) : SeenIn wM (wr.setCell ⟨wM.heap.size, x, none⟩ (.int .i64 (((c x : Nat) : Int) + 1))) n c' :=
  ⟨h.1.setCell (Nat.le_refl _) _, (h.2.setAt x _ hx).ext (fun j hj => by
    rw [he j hj]
    by_cases e : j = x
    · subst e; simp
    · simp [e])⟩
theorem SeenIn.ext {wM wr : World} {n : Nat} {c c' : Nat → Nat} (h : SeenIn wM wr n c) (he : ∀ j, j < n → c' j = c j) : SeenIn wM wr n c' :=
  ⟨h.1, h.2.ext (fun j hj => by rw [he j hj])⟩

set_option maxRecDepth 100000 in
set_option maxHeartbeats 4000000 in
theorem partLaw_any (a : Option Addr) (len cap : Nat) (w : World) (hl : len ≤ maxLen) (hC : len ≤ 1048576 → Code w.heap.size (.slice a len cap) len w) :
    Calls Try.prog 5 #[.slice a len cap] w fun e w' => e = .returned (.bool true) ∧ Below w.heap.size w w' := by
  by_cases hbig : len ≤ 1048576
  rotate_left
  · go_enter Try.func5, Try.ntmps5
    go_wp2_with fail
    refine (big_any _ _ _ _ hl).mono ?_
    rintro e w1 ⟨rfl, rfl⟩
    rw [decide_eq_true (by omega)]
    go_wp2_with fail
    go_ret
    exact ⟨rfl, Below.refl _ _⟩
  go_enter Try.func5, Try.ntmps5
  go_wp2_with fail
  refine (big_any _ _ _ _ hl).mono ?_
  rintro e w1 ⟨rfl, rfl⟩
  rw [decide_eq_false (by omega)]
  go_wp2_with fail
  refine (drawOk_any _ _ _ (hC hbig) ⟨_, _, _, rfl⟩).mono ?_
  rintro e w2 ⟨⟨v1, v2, fr, n, F, U, rfl, r1, r2, n1, n2, hu⟩, B⟩
  clear hC
  obtain ⟨q1, x1, rfl⟩ := vrow_form r1
  obtain ⟨q2, x2, rfl⟩ := vrow_form r2
  have HU : Hid (∀ i, i < n → (U i).size ≤ maxLen) := fun i hi => by have := hu i hi; unfold maxLen; omega
  clear hu
  have hX : Below w2.heap.size w2 (w2.alloc (.cells #[.slice q1 n x1, .slice q2 n x2, .int .i64 fr] 27)) := (Below.refl _ _).alloc (Nat.le_refl _) _
  have kA := blk_new w2 (.cells #[.slice q1 n x1, .slice q2 n x2, .int .i64 fr] 27)
  replace r1 := r1.up hX
  replace r2 := r2.up hX
  replace B := B.trans (hX.mono B.size)
  have cA := blk_cell kA
  clear hX
  go_wp2_with fail
  generalize w2.alloc (.cells #[.slice q1 n x1, .slice q2 n x2, .int .i64 fr] 27) = wA at *
  have HBA : Hid (∃ bA, bA = w2.heap.size) := ⟨_, rfl⟩
  generalize w2.heap.size = bA at *
  clear HBA
  obtain ⟨b, hb⟩ : ∃ b : Bool, b = true ↔ okP n n F U fr := ⟨bOf _, bOf_iff _⟩
  have HO : Hid (b = true ↔ okP n n F U fr) := hb
  clear hb
  have HL : Hid ((freeL b n F fr).length ≤ n) := freeL_len _ _ _ _
  obtain ⟨a1, y1, e1, h1⟩ := r1.read
  obtain ⟨a2, y2, e2, h2⟩ := r2.read
  cases e1; cases e2
  refine (iFree_any _ _ n n _ _ fr F U _ (by omega) (by omega) HU.out h1 h2 b HO.out).mono ?_
  rintro e w3 ⟨⟨v, rfl, hV⟩, hb⟩
  clear h1 h2
  replace r1 := r1.up hb
  replace r2 := r2.up hb
  replace kA := (hb.block _ (blk_lt kA)).trans kA
  replace cA := blk_cell kA
  replace B := B.trans (hb.mono B.size)
  clear hb
  obtain ⟨q3, x3, rfl⟩ := vrow_form hV
  obtain ⟨a1, y1, e1, h1⟩ := r1.read
  obtain ⟨a2, y2, e2, h2⟩ := r2.read
  cases e1; cases e2
  go_wp2_with fail
  refine (sFree_any _ _ n n _ _ fr F U _ (by omega) (by omega) HU.out h1 h2 b HO.out).mono ?_
  rintro e w4 ⟨⟨v, rfl, hW⟩, hb⟩
  clear h1 h2
  replace r1 := r1.up hb
  replace r2 := r2.up hb
  replace hV := hV.up hb
  replace kA := (hb.block _ (blk_lt kA)).trans kA
  replace cA := blk_cell kA
  replace B := B.trans (hb.mono B.size)
  clear hb
  obtain ⟨q4, x4, rfl⟩ := vrow_form hW
  obtain ⟨a3, y3, e3, h3⟩ := hV.read
  obtain ⟨a4, y4, e4, h4⟩ := hW.read
  cases e3; cases e4
  go_wp2_with fail
  refine (sameInts_any _ _ _ _ _ (fun i => (freeL b n F fr).getD i 0) _ (by have := HL.out; omega) h3 h4).mono ?_
  rintro e w5 ⟨rfl, hSm⟩
  have hb := hSm.below w4.heap.size
  clear hSm h3 h4 hW
  replace r1 := r1.up hb
  replace r2 := r2.up hb
  replace hV := hV.up hb
  replace kA := (hb.block _ (blk_lt kA)).trans kA
  replace cA := blk_cell kA
  replace B := B.trans (hb.mono B.size)
  clear hb
  obtain ⟨a1, y1, e1, h1⟩ := r1.read
  obtain ⟨a2, y2, e2, h2⟩ := r2.read
  cases e1; cases e2
  go_wp2_with fail
  refine (sOk_any _ _ n n _ _ fr F U _ (by omega) (by omega) HU.out h1 h2 b HO.out).mono ?_
  rintro e w6 ⟨rfl, hb⟩
  clear h1 h2
  replace r1 := r1.up hb
  replace r2 := r2.up hb
  replace hV := hV.up hb
  replace kA := (hb.block _ (blk_lt kA)).trans kA
  replace cA := blk_cell kA
  replace B := B.trans (hb.mono B.size)
  clear hb
  cases b
  · obtain ⟨a1, y1, e1, h1⟩ := r1.read
    obtain ⟨a2, y2, e2, h2⟩ := r2.read
    cases e1; cases e2
    go_wp2_with fail
    refine (sFree_any _ _ n n _ _ fr F U _ (by omega) (by omega) HU.out h1 h2 false HO.out).mono ?_
    rintro e w7 ⟨⟨v, rfl, hW⟩, hb⟩
    clear h1 h2
    replace r1 := r1.up hb
    replace r2 := r2.up hb
    replace hV := hV.up hb
    replace kA := (hb.block _ (blk_lt kA)).trans kA
    replace cA := blk_cell kA
    replace B := B.trans (hb.mono B.size)
    clear hb
    obtain ⟨q5, x5, rfl⟩ := vrow_form hW
    obtain ⟨a3, y3, e3, h3⟩ := hV.read
    obtain ⟨a4, y4, e4, h4⟩ := hW.read
    cases e3; cases e4
    go_wp2_with fail
    refine (sameInts_any _ _ _ _ _ (fun i => (freeL false n F fr).getD i 0) _ (by have := HL.out; omega) h3 h4).mono ?_
    rintro e w8 ⟨rfl, hSm⟩
    replace B := B.trans ((hSm.below w7.heap.size).mono B.size)
    clear hSm h3 h4 hW hV r1 r2
    have hz : (freeL false n F fr).length = 0 := rfl
    rw [hz]
    clear hz
    go_wp2_with fail
    go_ret
    exact ⟨rfl, B⟩
  · have HR : Hid (Right n F U fr (walkL F n fr)) := (right_of_ok (HO.out.1 rfl)).2
    have hLe : freeL true n F fr = walkL F n fr := rfl
    rw [hLe] at hV HL
    rw [hLe]
    clear hLe
    generalize hLL : walkL F n fr = L at *
    clear hLL
    have mi := make_ints n (by omega)
    have kM := blk_new w6 (.cells (zInts n) 2)
    have BM : Below w6.heap.size w6 (w6.alloc (.cells (zInts n) 2)) := (Below.refl _ _).alloc (Nat.le_refl _) _
    have HS : Hid (SeenIn w6 (w6.alloc (.cells (zInts n) 2)) n (fun j => (L.take 0).count (j : Int))) := ⟨BM, (zInts_row kM).ext (fun j hj => by simp)⟩
    have HX : Hid (∀ x ∈ L, 0 ≤ x ∧ x < n) := HR.out.free.range HR.out.inj.rng HR.out.inj.f1
    have hLn : L.length ≤ 60 := by have := HL.out; omega
    clear kM BM
    go_wp2_with fail
    generalize w6.alloc (.cells (zInts n) 2) = wS at *
    clear mi
    go_loopw [6] (fun i wr => ∃ k : Nat, k ≤ L.length ∧ i = .int .i64 k ∧ SeenIn w6 wr n (fun j => (L.take k).count (j : Int))) (fun i _ => L.length - (intOf i).toNat)
    case atStart => exact ⟨0, Nat.zero_le _, rfl, HS.out⟩
    case round =>
      clear HS
      obtain ⟨k, hk, rfl, hS⟩ := hrel
      have HS : Hid (SeenIn w6 wr n (fun j => (L.take k).count (j : Int))) := hS
      clear hS
      by_cases hlt : k < L.length
      · have hlt' : (k : Int) < L.length := by omega
        obtain ⟨x, ex⟩ := Int.eq_ofNat_of_zero_le (HX.out _ (List.getElem_mem hlt)).1
        have hxn : x < n := by have := (HX.out _ (List.getElem_mem hlt)).2; omega
        have HE : Hid (L[k] = (x : Int)) := ex
        clear ex
        obtain ⟨a3, y3, e3, h3⟩ := (hV.up HS.out.1).read
        cases e3
        obtain ⟨g3, o3, e3, c3⟩ := h3 k hlt
        cases e3
        have ev : intsOf L k = .int .i64 (x : Int) := by unfold intsOf; rw [getD_at L k hlt, HE.out]
        rw [ev] at c3
        have cS := HS.out.2.at x hxn
        have fS := HS.out.2.free x
        have HN : Hid (SeenIn w6 (wr.setCell ⟨w6.heap.size, x, none⟩ (.int .i64 ((((L.take k).count (x : Int) : Nat) : Int) + 1))) n (fun j => (L.take (k + 1)).count (j : Int))) := HS.out.one hxn (fun j hj => by
          rw [count_snoc L k hlt, HE.out]
          by_cases e : j = x
          · subst e; simp
          · have : ¬ ((j : Int) = (x : Int)) := by omega
            simp [e, this])
        have hcl : (L.take k).count (x : Int) ≤ 60 := Nat.le_trans List.count_le_length (by simp; omega)
        dsimp only at cS
        generalize (L.take k).count (x : Int) = cx at *
        clear h3 HS ev
        have hxn' : (x : Int) < n := by omega
        go_wp2_with fail
        go_roundw
        case rel => exact ⟨k + 1, by omega, by go_num, HN.out⟩
        case measure => simp [intOf]; omega
      · obtain rfl : L.length = k := by omega
        have HS0 : Hid (SeenIn w6 wr n (fun j => seenN n F U fr L 0 j)) := HS.out.ext (fun j hj => by rw [seenN_zero, List.take_length])
        clear HS hk hlt
        go_wp2_with fail
        go_loopw [7] (fun i wr => ∃ k : Nat, k ≤ n ∧ i = .int .i64 k ∧ SeenIn w6 wr n (fun j => seenN n F U fr L k j)) (fun i _ => n - (intOf i).toNat)
        case atStart => exact ⟨0, Nat.zero_le _, rfl, HS0.out⟩
        case round =>
          clear HS0
          obtain ⟨k, hk, rfl, hS⟩ := hrel
          have HS : Hid (SeenIn w6 wr n (fun j => seenN n F U fr L k j)) := hS
          clear hS
          have kA2 := (HS.out.1.block _ (blk_lt kA)).trans kA
          have cA2 := blk_cell kA2
          by_cases hlt : k < n
          · have hlt' : (k : Int) < n := by omega
            obtain ⟨a1, y1, e1, h1⟩ := (r1.up HS.out.1).read
            obtain ⟨a2, y2, e2, h2⟩ := (r2.up HS.out.1).read
            cases e1; cases e2
            obtain ⟨bk, hbk⟩ : ∃ bk : Bool, bk = bOf (chainP n n F U fr k) := ⟨_, rfl⟩
            have HBk : Hid (bk = true ↔ chainP n n F U fr k) := by rw [Hid, hbk]; exact bOf_iff _
            have HCk : Hid (chL n F U fr k = freeL bk n F k) := by rw [Hid, hbk]; rfl
            clear hbk
            go_wp2_with fail
            refine (iChain_any _ _ n n _ _ fr (k : Int) F U _ (by omega) (by omega) HU.out h1 h2 bk HBk.out).mono ?_
            rintro e w8 ⟨⟨v, rfl, hW⟩, hb⟩
            have hbs : w6.heap.size < wr.heap.size := HS.out.2.lt
            clear h1 h2 cA2 kA2
            replace HS : Hid (SeenIn w6 w8 n (fun j => seenN n F U fr L k j)) := HS.out.up hb
            clear hb
            rw [← HCk.out] at hW
            have HXk : Hid (∀ x ∈ chL n F U fr k, 0 ≤ x ∧ x < n) := chL_range HR.out k
            have HB0 : Hid (0 < (chL n F U fr k).length → bk = true) := fun h0 => by
              rw [HCk.out] at h0
              cases bk
              · simp [freeL] at h0
              · rfl
            have hCl : (chL n F U fr k).length ≤ 60 := by have := chL_len (n := n) (nx := F) (dt := U) (fr := fr) k; omega
            have HSn : Hid (∀ j, seenN n F U fr L (k + 1) j = seenN n F U fr L k j + (chL n F U fr k).count (j : Int)) := fun j => seenN_succ k j
            have HS1 : Hid (∀ j, seenN n F U fr L k j ≤ 60 + k * 60) := fun j => seen_le hLn (fun c => by have := chL_len (n := n) (nx := F) (dt := U) (fr := fr) c; omega) j k
            obtain ⟨q5, x5, rfl⟩ := vrow_form hW
            generalize chL n F U fr k = Ck at *
            clear HCk HBk
            generalize wr.heap.size = b0 at *
            clear wr
            go_wp2_with fail
            go_loopw [10] (fun i wr => ∃ j : Nat, j ≤ Ck.length ∧ i = .int .i64 j ∧ SeenIn w6 wr n (fun x => seenN n F U fr L k x + (Ck.take j).count (x : Int)) ∧ VRow 2 wr b0 (.slice q5 Ck.length x5) Ck.length (intsOf Ck)) (fun i _ => Ck.length - (intOf i).toNat)
            case atStart => exact ⟨0, Nat.zero_le _, rfl, HS.out.ext (fun j hj => by simp), hW⟩
            case round =>
              clear HS hW
              obtain ⟨j, hj, rfl, hS, hW⟩ := hrel
              have HS : Hid (SeenIn w6 wr n (fun x => seenN n F U fr L k x + (Ck.take j).count (x : Int))) := hS
              have HW : Hid (VRow 2 wr b0 (.slice q5 Ck.length x5) Ck.length (intsOf Ck)) := hW
              clear hS hW
              by_cases hjl : j < Ck.length
              · obtain rfl : bk = true := HB0.out (by omega)
                have hjl' : (j : Int) < Ck.length := by omega
                obtain ⟨x, ex⟩ := Int.eq_ofNat_of_zero_le (HXk.out _ (List.getElem_mem hjl)).1
                have hxn : x < n := by have := (HXk.out _ (List.getElem_mem hjl)).2; omega
                have hxn' : (x : Int) < n := by omega
                have HE : Hid (Ck[j] = (x : Int)) := ex
                clear ex
                obtain ⟨a3, y3, e3, h3⟩ := HW.out.read
                cases e3
                obtain ⟨g3, o3, e3, c3⟩ := h3 j hjl
                cases e3
                have ev : intsOf Ck j = .int .i64 (x : Int) := by unfold intsOf; rw [getD_at Ck j hjl, HE.out]
                rw [ev] at c3
                have cS := HS.out.2.at x hxn
                have fS := HS.out.2.free x
                dsimp only at cS
                have HN : Hid (SeenIn w6 (wr.setCell ⟨w6.heap.size, x, none⟩ (.int .i64 (((seenN n F U fr L k x + (Ck.take j).count (x : Int) : Nat) : Int) + 1))) n (fun y => seenN n F U fr L k y + (Ck.take (j + 1)).count (y : Int))) := HS.out.one hxn (fun y hy => by
                  rw [count_snoc Ck j hjl, HE.out]
                  by_cases e : y = x
                  · subst e; simp; omega
                  · have : ¬ ((y : Int) = (x : Int)) := by omega
                    simp [e, this])
                have HNW : Hid (∀ u, VRow 2 (wr.setCell ⟨w6.heap.size, x, none⟩ u) b0 (.slice (some ⟨g3, o3, none⟩) Ck.length x5) Ck.length (intsOf Ck)) := fun u => HW.out.keep (fun b hb => blk_set_ne (by have := (HW.out.lt b hb).2; omega) u)
                have hcl : seenN n F U fr L k x + (Ck.take j).count (x : Int) ≤ 10000 := by
                  have h1 := HS1.out x
                  have h2 : (Ck.take j).count (x : Int) ≤ 60 := Nat.le_trans List.count_le_length (by simp; omega)
                  omega
                generalize seenN n F U fr L k x + (Ck.take j).count (x : Int) = cx at *
                clear h3 HS HW ev
                go_wp2_with fail
                go_roundw
                case rel => exact ⟨j + 1, by omega, by go_num, HN.out, HNW.out _⟩
                case measure => simp [intOf]; omega
              · obtain rfl : Ck.length = j := by omega
                have HS2 : Hid (SeenIn w6 wr n (fun j => seenN n F U fr L (k + 1) j)) := HS.out.ext (fun y hy => by rw [HSn.out, List.take_length])
                clear HS HW
                go_wp2_with fail
                go_roundw
                case rel => exact ⟨k + 1, by omega, by go_num, HS2.out⟩
                case measure => simp [intOf]; omega
          · obtain rfl : n = k := by omega
            have HS3 : Hid (SeenIn w6 wr n (fun _ => 1)) := HS.out.ext (fun j hj => (seen_all HR.out hj).symm)
            clear HS hk hlt
            go_wp2_with fail
            clear cA2 kA2
            go_loopw [11] (fun i wr => ∃ k : Nat, k ≤ n ∧ i = .int .i64 k ∧ SeenIn w6 wr n (fun _ => 1)) (fun i _ => n - (intOf i).toNat)
            case atStart => exact ⟨0, Nat.zero_le _, rfl, HS3.out⟩
            case round =>
              clear HS3
              obtain ⟨k, hk, rfl, hS⟩ := hrel
              have HS : Hid (SeenIn w6 wr n (fun _ => 1)) := hS
              clear hS
              by_cases hlt : k < n
              · have hlt' : (k : Int) < n := by omega
                have cS : wr.cell? ⟨w6.heap.size, k, none⟩ = some (.int .i64 1) := HS.out.2.at k hlt
                go_wp2_with fail
                go_roundw
                case rel => exact ⟨k + 1, by omega, by go_num, HS.out⟩
                case measure => simp [intOf]; omega
              · have B9 := B.trans (HS.out.1.mono B.size)
                go_wp2_with fail
                go_ret
                exact ⟨rfl, B9⟩
end Go.Proofs.Ythkkogpegmmbdaa
