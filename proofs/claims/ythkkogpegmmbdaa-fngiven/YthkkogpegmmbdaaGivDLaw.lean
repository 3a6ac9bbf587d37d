/- What is given back is held no more, its cells are free, and all else is held as it was: the law's walk. -/
import Derived.Test.YthkkogpegmmbdaaArPart
import Derived.Test.YthkkogpegmmbdaaArDraw3
import Derived.Test.YthkkogpegmmbdaaArApp
import Derived.Test.YthkkogpegmmbdaaArHeld
namespace Go.Proofs.Ythkkogpegmmbdaa
open Go.RowKit
set_option linter.unusedVariables false
set_option linter.unusedSimpArgs false

section
variable {n : Nat} {F : Nat → Int} {U : Nat → ByteArray} {fr x : Int}
theorem chain_right (h : chainP n n F U fr x) : Right n F U fr (walkL F n fr) ∧ headP n F U x ∧ Path F x (freeL true n F x) := by
  have hR := (right_of_ok h.1).2
  exact ⟨hR, h.2, hR.chain h.2⟩
theorem given_right (h : chainP n n F U fr x) : Right n (gNx F (freeL true n F x) fr) (gDt U (freeL true n F x)) x (freeL true n F x ++ walkL F n fr) := by
  obtain ⟨hR, hh, hp⟩ := chain_right h
  exact hR.given hh hp
theorem given_gone (h : chainP n n F U fr x) : false = true ↔ chainP n n (gNx F (freeL true n F x) fr) (gDt U (freeL true n F x)) x x := by
  obtain ⟨hR, hh, hp⟩ := chain_right h
  refine ⟨fun e => (by cases e), fun k => absurd k.2 (givenGone hh hp)⟩
theorem given_free (h : chainP n n F U fr x) : freeL true n (gNx F (freeL true n F x) fr) x = freeL true n F x ++ walkL F n fr := by
  have hR := given_right h
  unfold freeL at hR ⊢
  rw [if_pos rfl] at hR ⊢
  exact hR.walk hR.inj.f1 hR.free
theorem given_else (h : chainP n n F U fr x) {c : Int} (hc : c ≠ x) (h1 : chainP n n F U fr c) :
    chainP n n (gNx F (freeL true n F x) fr) (gDt U (freeL true n F x)) x c ∧ catT (gDt U (freeL true n F x)) (freeL true n (gNx F (freeL true n F x) fr) c) = catT U (freeL true n F c) := by
  obtain ⟨hR, hh, hp⟩ := chain_right h
  obtain ⟨_, hh', hp'⟩ := chain_right h1
  obtain ⟨k1, k2, k3⟩ := hR.givenElse hh hp hh' hc hp'
  have hG := given_right h
  refine ⟨⟨hG.ok, k1⟩, ?_⟩
  have e : freeL true n (gNx F (freeL true n F x) fr) c = freeL true n F c := by
    show walkL _ n c = _
    exact hG.walk k1.2.1 k2
  rw [e]
  exact catB_same k3
end

set_option maxRecDepth 100000 in
set_option maxHeartbeats 4000000 in
theorem givLaw_any (a : Option Addr) (len cap : Nat) (w : World) (hl : len ≤ maxLen) (hC : len ≤ 1048576 → Code w.heap.size (.slice a len cap) len w) :
    Calls Try.prog 4 #[.slice a len cap] w fun e w' => e = .returned (.bool true) ∧ Below w.heap.size w w' := by
  by_cases hbig : len ≤ 1048576
  rotate_left
  · go_enter Try.func4, Try.ntmps4
    go_wp2_with fail
    refine (big_any _ _ _ _ hl).mono ?_
    rintro e w1 ⟨rfl, rfl⟩
    rw [decide_eq_true (by omega)]
    go_wp2_with fail
    go_ret
    exact ⟨rfl, Below.refl _ _⟩
  go_enter Try.func4, Try.ntmps4
  go_wp2_with fail
  refine (big_any _ _ _ _ hl).mono ?_
  rintro e w1 ⟨rfl, rfl⟩
  rw [decide_eq_false (by omega)]
  go_wp2_with fail
  refine (drawGiven_any _ _ _ (hC hbig) ⟨_, _, _, rfl⟩).mono ?_
  rintro e w2 ⟨⟨v1, v2, fr, n, F, U, x, rfl, r1, r2, n1, n2, hu⟩, B⟩
  clear hC
  obtain ⟨q1, x1, rfl⟩ := vrow_form r1
  obtain ⟨q2, x2, rfl⟩ := vrow_form r2
  have HU : Hid (∀ i, i < n → (U i).size ≤ maxLen) := fun i hi => by have := hu i hi; unfold maxLen; omega
  have HU2 : Hid (∀ i, i < n → (U i).size ≤ 10) := hu
  clear hu
  obtain ⟨bC, hb⟩ : ∃ b : Bool, b = true ↔ chainP n n F U fr x := ⟨bOf _, bOf_iff _⟩
  have HO : Hid (bC = true ↔ chainP n n F U fr x) := hb
  clear hb
  have hX : Below w2.heap.size w2 (w2.alloc (.cells #[.slice q1 n x1, .slice q2 n x2, .int .i64 fr] 27)) := (Below.refl _ _).alloc (Nat.le_refl _) _
  have kA := blk_new w2 (.cells #[.slice q1 n x1, .slice q2 n x2, .int .i64 fr] 27)
  replace r1 := r1.up hX
  replace r2 := r2.up hX
  replace B := B.trans (hX.mono B.size)
  have cA := blk_cell kA
  clear hX
  go_wp2_with fail
  generalize w2.alloc (.cells #[.slice q1 n x1, .slice q2 n x2, .int .i64 fr] 27) = wA at *
  generalize w2.heap.size = bA at *
  obtain ⟨a1, y1, e1, h1⟩ := r1.read
  obtain ⟨a2, y2, e2, h2⟩ := r2.read
  cases e1
  cases e2
  refine (iGiven_any _ _ n n _ _ fr x F U _ (by omega) (by omega) HU.out h1 h2 bC HO.out).mono ?_
  rintro e w3 ⟨⟨v1, v2, rfl, g1, g2⟩, hb⟩
  clear h1 h2
  replace r1 := r1.up hb
  replace r2 := r2.up hb
  replace kA := (hb.block _ (blk_lt kA)).trans kA
  replace cA := blk_cell kA
  replace B := B.trans (hb.mono B.size)
  clear hb
  obtain ⟨q3, x3, rfl⟩ := vrow_form g1
  obtain ⟨q4, x4, rfl⟩ := vrow_form g2
  have hX : Below w3.heap.size w3 (w3.alloc (.cells #[.slice q3 (gK bC n) x3, .slice q4 (gK bC n) x4, .int .i64 (gFr bC x)] 27)) := (Below.refl _ _).alloc (Nat.le_refl _) _
  have kB := blk_new w3 (.cells #[.slice q3 (gK bC n) x3, .slice q4 (gK bC n) x4, .int .i64 (gFr bC x)] 27)
  replace r1 := r1.up hX
  replace r2 := r2.up hX
  replace g1 := g1.up hX
  replace g2 := g2.up hX
  replace kA := (hX.block _ (blk_lt kA)).trans kA
  replace cA := blk_cell kA
  replace B := B.trans (hX.mono B.size)
  have cB := blk_cell kB
  clear hX
  go_wp2_with fail
  generalize w3.alloc (.cells #[.slice q3 (gK bC n) x3, .slice q4 (gK bC n) x4, .int .i64 (gFr bC x)] 27) = wB at *
  generalize w3.heap.size = bB at *
  obtain ⟨a1, y1, e1, h1⟩ := r1.read
  obtain ⟨a2, y2, e2, h2⟩ := r2.read
  cases e1
  cases e2
  refine (sGiven_any _ _ n n _ _ fr x F U _ (by omega) (by omega) HU.out h1 h2 bC HO.out).mono ?_
  rintro e w4 ⟨⟨v1, v2, rfl, s1, s2⟩, hb⟩
  clear h1 h2
  replace r1 := r1.up hb
  replace r2 := r2.up hb
  replace g1 := g1.up hb
  replace g2 := g2.up hb
  replace kA := (hb.block _ (blk_lt kA)).trans kA
  replace cA := blk_cell kA
  replace kB := (hb.block _ (blk_lt kB)).trans kB
  replace cB := blk_cell kB
  replace B := B.trans (hb.mono B.size)
  clear hb
  obtain ⟨q5, x5, rfl⟩ := vrow_form s1
  obtain ⟨q6, x6, rfl⟩ := vrow_form s2
  have hX : Below w4.heap.size w4 (w4.alloc (.cells #[.slice q5 (gK bC n) x5, .slice q6 (gK bC n) x6, .int .i64 (gFr bC x)] 27)) := (Below.refl _ _).alloc (Nat.le_refl _) _
  have kS := blk_new w4 (.cells #[.slice q5 (gK bC n) x5, .slice q6 (gK bC n) x6, .int .i64 (gFr bC x)] 27)
  replace r1 := r1.up hX
  replace r2 := r2.up hX
  replace g1 := g1.up hX
  replace g2 := g2.up hX
  replace s1 := s1.up hX
  replace s2 := s2.up hX
  replace kA := (hX.block _ (blk_lt kA)).trans kA
  replace cA := blk_cell kA
  replace kB := (hX.block _ (blk_lt kB)).trans kB
  replace cB := blk_cell kB
  replace B := B.trans (hX.mono B.size)
  have cS := blk_cell kS
  clear hX
  go_wp2_with fail
  generalize w4.alloc (.cells #[.slice q5 (gK bC n) x5, .slice q6 (gK bC n) x6, .int .i64 (gFr bC x)] 27) = wS at *
  generalize w4.heap.size = bS at *
  obtain ⟨a1, y1, e1, h1⟩ := r1.read
  obtain ⟨a2, y2, e2, h2⟩ := r2.read
  cases e1
  cases e2
  refine (iHeld_any _ _ n n _ _ fr x F U _ (by omega) (by omega) HU.out h1 h2 bC HO.out).mono ?_
  rintro e w5 ⟨rfl, hb⟩
  clear h1 h2
  replace r1 := r1.up hb
  replace r2 := r2.up hb
  replace g1 := g1.up hb
  replace g2 := g2.up hb
  replace s1 := s1.up hb
  replace s2 := s2.up hb
  replace kA := (hb.block _ (blk_lt kA)).trans kA
  replace cA := blk_cell kA
  replace kB := (hb.block _ (blk_lt kB)).trans kB
  replace cB := blk_cell kB
  replace kS := (hb.block _ (blk_lt kS)).trans kS
  replace cS := blk_cell kS
  replace B := B.trans (hb.mono B.size)
  clear hb
  obtain ⟨a1, y1, e1, h1⟩ := r1.read
  obtain ⟨a2, y2, e2, h2⟩ := r2.read
  cases e1
  cases e2
  go_wp2_with fail
  refine (sHeld_any _ _ n n _ _ fr x F U _ (by omega) (by omega) HU.out h1 h2 bC HO.out).mono ?_
  rintro e w6 ⟨rfl, hb⟩
  clear h1 h2
  replace r1 := r1.up hb
  replace r2 := r2.up hb
  replace g1 := g1.up hb
  replace g2 := g2.up hb
  replace s1 := s1.up hb
  replace s2 := s2.up hb
  replace kA := (hb.block _ (blk_lt kA)).trans kA
  replace cA := blk_cell kA
  replace kB := (hb.block _ (blk_lt kB)).trans kB
  replace cB := blk_cell kB
  replace kS := (hb.block _ (blk_lt kS)).trans kS
  replace cS := blk_cell kS
  replace B := B.trans (hb.mono B.size)
  clear hb
  have hk60 : gK bC n ≤ 60 := by unfold gK; split <;> omega
  cases bC
  · obtain ⟨a1, y1, e1, h1⟩ := g1.read
    obtain ⟨a2, y2, e2, h2⟩ := g2.read
    obtain ⟨a3, y3, e3, h3⟩ := s1.read
    obtain ⟨a4, y4, e4, h4⟩ := s2.read
    cases e1
    cases e2
    cases e3
    cases e4
    go_wp2_with fail
    refine (sameArena_any _ _ _ _ _ _ _ _ _ _ _ (gNx F (freeL false n F x) fr) (gDt U (freeL false n F x)) _ (by omega) (by omega) h1 h3 h2 h4).mono ?_
    rintro e w7 ⟨rfl, hb⟩
    clear h1 h2 h3 h4
    replace r1 := r1.up hb
    replace r2 := r2.up hb
    replace g1 := g1.up hb
    replace g2 := g2.up hb
    replace s1 := s1.up hb
    replace s2 := s2.up hb
    replace kA := (hb.block _ (blk_lt kA)).trans kA
    replace cA := blk_cell kA
    replace kB := (hb.block _ (blk_lt kB)).trans kB
    replace cB := blk_cell kB
    replace kS := (hb.block _ (blk_lt kS)).trans kS
    replace cS := blk_cell kS
    replace B := B.trans (hb.mono B.size)
    clear hb
    obtain ⟨a1, y1, e1, h1⟩ := g1.read
    obtain ⟨a2, y2, e2, h2⟩ := g2.read
    obtain ⟨a3, y3, e3, h3⟩ := s1.read
    obtain ⟨a4, y4, e4, h4⟩ := s2.read
    cases e1
    cases e2
    cases e3
    cases e4
    go_wp2_with fail
    refine (sameArena_any _ _ _ _ _ _ _ _ _ _ _ (gNx F (freeL false n F x) fr) (gDt U (freeL false n F x)) _ (by omega) (by omega) h1 h3 h2 h4).mono ?_
    rintro e w8 ⟨rfl, hb⟩
    clear h1 h2 h3 h4
    replace r1 := r1.up hb
    replace r2 := r2.up hb
    replace g1 := g1.up hb
    replace g2 := g2.up hb
    replace s1 := s1.up hb
    replace s2 := s2.up hb
    replace kA := (hb.block _ (blk_lt kA)).trans kA
    replace cA := blk_cell kA
    replace kB := (hb.block _ (blk_lt kB)).trans kB
    replace cB := blk_cell kB
    replace kS := (hb.block _ (blk_lt kS)).trans kS
    replace cS := blk_cell kS
    replace B := B.trans (hb.mono B.size)
    clear hb
    go_wp2_with fail
    go_ret
    exact ⟨rfl, B⟩
  · obtain ⟨a1, y1, e1, h1⟩ := g1.read
    obtain ⟨a2, y2, e2, h2⟩ := g2.read
    obtain ⟨a3, y3, e3, h3⟩ := s1.read
    obtain ⟨a4, y4, e4, h4⟩ := s2.read
    cases e1
    cases e2
    cases e3
    cases e4
    go_wp2_with fail
    refine (sameArena_any _ _ _ _ _ _ _ _ _ _ _ (gNx F (freeL true n F x) fr) (gDt U (freeL true n F x)) _ (by omega) (by omega) h1 h3 h2 h4).mono ?_
    rintro e w7 ⟨rfl, hb⟩
    clear h1 h2 h3 h4
    replace r1 := r1.up hb
    replace r2 := r2.up hb
    replace g1 := g1.up hb
    replace g2 := g2.up hb
    replace s1 := s1.up hb
    replace s2 := s2.up hb
    replace kA := (hb.block _ (blk_lt kA)).trans kA
    replace cA := blk_cell kA
    replace kB := (hb.block _ (blk_lt kB)).trans kB
    replace cB := blk_cell kB
    replace kS := (hb.block _ (blk_lt kS)).trans kS
    replace cS := blk_cell kS
    replace B := B.trans (hb.mono B.size)
    clear hb
    clear s1 s2 kS cS
    have HCh : Hid (chainP n n F U fr x) := HO.out.1 (by trivial)
    obtain ⟨a1, y1, e1, h1⟩ := r1.read
    obtain ⟨a2, y2, e2, h2⟩ := r2.read
    cases e1
    cases e2
    go_wp2_with fail
    refine (iChain_any _ _ n n _ _ fr x F U _ (by omega) (by omega) HU.out h1 h2 true (by simp [HCh.out])).mono ?_
    rintro e w8 ⟨⟨v, rfl, hV⟩, hb⟩
    clear h1 h2
    replace r1 := r1.up hb
    replace r2 := r2.up hb
    replace g1 := g1.up hb
    replace g2 := g2.up hb
    replace kA := (hb.block _ (blk_lt kA)).trans kA
    replace cA := blk_cell kA
    replace kB := (hb.block _ (blk_lt kB)).trans kB
    replace cB := blk_cell kB
    replace B := B.trans (hb.mono B.size)
    clear hb
    obtain ⟨q7, x7, rfl⟩ := vrow_form hV
    obtain ⟨a1, y1, e1, h1⟩ := g1.read
    obtain ⟨a2, y2, e2, h2⟩ := g2.read
    cases e1
    cases e2
    have HG : Hid (Right n (gNx F (freeL true n F x) fr) (gDt U (freeL true n F x)) x (freeL true n F x ++ walkL F n fr)) := given_right HCh.out
    have HGo : Hid (false = true ↔ chainP n n (gNx F (freeL true n F x) fr) (gDt U (freeL true n F x)) x x) := given_gone HCh.out
    have HGf : Hid (freeL true n (gNx F (freeL true n F x) fr) x = freeL true n F x ++ walkL F n fr) := given_free HCh.out
    have HGe : Hid (∀ c : Int, c ≠ x → chainP n n F U fr c → chainP n n (gNx F (freeL true n F x) fr) (gDt U (freeL true n F x)) x c ∧ catT (gDt U (freeL true n F x)) (freeL true n (gNx F (freeL true n F x) fr) c) = catT U (freeL true n F c)) := fun c hc h1 => given_else HCh.out hc h1
    have HDs : Hid (∀ i, i < n → (gDt U (freeL true n F x) i).size ≤ maxLen) := fun i hi => by
      unfold gDt
      split
      · exact Nat.zero_le _
      · exact HU.out i hi
    have HLe : Hid ((freeL true n F x).length ≤ n) := freeL_len _ _ _ _
    have HLp : Hid (1 ≤ (freeL true n F x).length) := chain_pos HCh.out.2.1 n1
    have HLf : Hid ((walkL F n fr).length ≤ n) := walkL_len _ _ _
    have HOk : Hid (okP n n F U fr) := HCh.out.1
    generalize hCC : freeL true n F x = C at *
    clear hCC
    have eK : gK true n = n := rfl
    have eF : gFr true x = x := rfl
    rw [eK] at g1 g2
    rw [eK, eF] at kB
    clear cB
    have cB := blk_cell kB
    clear eK eF hk60
    obtain ⟨a1, y1, e1, h1⟩ := g1.read
    obtain ⟨a2, y2, e2, h2⟩ := g2.read
    cases e1
    cases e2
    go_wp2_with fail
    refine (iGiven_any _ _ n n _ _ x x (gNx F C fr) (gDt U C) _ (by omega) (by omega) HDs.out h1 h2 false HGo.out).mono ?_
    rintro e w9 ⟨⟨v1, v2, rfl, z1, z2⟩, hb⟩
    clear h1 h2
    replace r1 := r1.up hb
    replace r2 := r2.up hb
    replace g1 := g1.up hb
    replace g2 := g2.up hb
    replace hV := hV.up hb
    replace kA := (hb.block _ (blk_lt kA)).trans kA
    replace cA := blk_cell kA
    replace kB := (hb.block _ (blk_lt kB)).trans kB
    replace cB := blk_cell kB
    replace B := B.trans (hb.mono B.size)
    clear hb
    obtain ⟨q8, x8, rfl⟩ := vrow_form z1
    obtain ⟨q9, x9, rfl⟩ := vrow_form z2
    clear z1 z2
    have hX : Below w9.heap.size w9 (w9.alloc (.cells #[.slice q8 (gK false n) x8, .slice q9 (gK false n) x9, .int .i64 (gFr false x)] 27)) := (Below.refl _ _).alloc (Nat.le_refl _) _
    have kZ := blk_new w9 (.cells #[.slice q8 (gK false n) x8, .slice q9 (gK false n) x9, .int .i64 (gFr false x)] 27)
    replace r1 := r1.up hX
    replace r2 := r2.up hX
    replace g1 := g1.up hX
    replace g2 := g2.up hX
    replace hV := hV.up hX
    replace kA := (hX.block _ (blk_lt kA)).trans kA
    replace cA := blk_cell kA
    replace kB := (hX.block _ (blk_lt kB)).trans kB
    replace cB := blk_cell kB
    replace B := B.trans (hX.mono B.size)
    have cZ := blk_cell kZ
    clear hX
    go_wp2_with fail
    generalize w9.alloc (.cells #[.slice q8 (gK false n) x8, .slice q9 (gK false n) x9, .int .i64 (gFr false x)] 27) = wZ at *
    generalize w9.heap.size = bZ at *
    clear kZ cZ cA cB
    go_loopw [17] (fun i wr => ∃ k : Nat, k ≤ n ∧ i = .int .i64 k ∧ Below wZ.heap.size wZ wr) (fun i _ => n - (intOf i).toNat)
    case atStart => exact ⟨0, Nat.zero_le _, rfl, Below.refl _ _⟩
    case round =>
      obtain ⟨k, hk, rfl, hB⟩ := hrel
      by_cases hlt : k < n
      · have hlt' : (k : Int) < n := by omega
        have cA2 := blk_cell ((hB.block _ (blk_lt kA)).trans kA)
        obtain ⟨a1, y1, e1, h1⟩ := (r1.up hB).read
        obtain ⟨a2, y2, e2, h2⟩ := (r2.up hB).read
        cases e1; cases e2
        obtain ⟨b1, hb1⟩ : ∃ b : Bool, b = true ↔ chainP n n F U fr k := ⟨bOf _, bOf_iff _⟩
        have HB1 : Hid (b1 = true ↔ chainP n n F U fr k) := hb1
        obtain ⟨b2, hb2⟩ : ∃ b : Bool, b = true ↔ chainP n n (gNx F C fr) (gDt U C) x k := ⟨bOf _, bOf_iff _⟩
        have HB2 : Hid (b2 = true ↔ chainP n n (gNx F C fr) (gDt U C) x k) := hb2
        clear hb1 hb2
        go_wp2_with fail
        refine (iHeld_any _ _ n n _ _ fr (k : Int) F U _ (by omega) (by omega) HU.out h1 h2 b1 HB1.out).mono ?_
        rintro e wa ⟨rfl, hb⟩
        replace hB := hB.trans (hb.mono hB.size)
        clear hb h1 h2 cA2
        have cB2 := blk_cell ((hB.block _ (blk_lt kB)).trans kB)
        obtain ⟨a1, y1, e1, h1⟩ := (g1.up hB).read
        obtain ⟨a2, y2, e2, h2⟩ := (g2.up hB).read
        cases e1; cases e2
        go_wp2_with fail
        refine (iHeld_any _ _ n n _ _ x (k : Int) (gNx F C fr) (gDt U C) _ (by omega) (by omega) HDs.out h1 h2 b2 HB2.out).mono ?_
        rintro e wb ⟨rfl, hb⟩
        replace hB := hB.trans (hb.mono hB.size)
        clear hb h1 h2 cB2
        have HBB : Hid (Below wZ.heap.size wZ wb) := hB
        clear hB
        by_cases hkx : (k : Int) = x
        · have hne : ((k : Int) == x) = true := by simp [hkx]
          have HKX : Hid ((k : Int) = x) := hkx
          clear hkx
          go_wp2_with fail
          go_roundw
          case rel => exact ⟨k + 1, by omega, by go_num, HBB.out⟩
          case measure => simp [intOf]; omega
        · have hne : ((k : Int) == x) = false := by simp [hkx]
          cases b1
          · go_wp2_with fail
            go_roundw
            case rel => exact ⟨k + 1, by omega, by go_num, HBB.out⟩
            case measure => simp [intOf]; omega
          · have hge := HGe.out k hkx (HB1.out.1 (by trivial))
            obtain rfl : b2 = true := HB2.out.2 hge.1
            rw [hge.2]
            clear hge
            generalize catT U (freeL true n F (k : Int)) = tx at *
            go_wp2_with fail
            go_roundw
            case rel => exact ⟨k + 1, by omega, by go_num, HBB.out⟩
            case measure => simp [intOf]; omega
      · obtain rfl : n = k := by omega
        obtain ⟨D, hD⟩ : ∃ D, C ++ walkL F n fr = D := ⟨_, rfl⟩
        have HD : Hid (C ++ walkL F n fr = D) := hD
        rw [hD] at HGf
        clear hD
        have cA0 := blk_cell ((hB.block _ (blk_lt kA)).trans kA)
        go_wp2_with fail
        clear cA0
        have hBd : Below wZ.heap.size wZ wr.drew := hB.drew
        clear hB hk hlt
        have cA2 : ∀ o, (wr.drew).cell? ⟨bA, o, none⟩ = (#[.slice q1 n x1, .slice q2 n x2, .int .i64 fr] : Array Value)[o]? := blk_cell ((hBd.block _ (blk_lt kA)).trans kA)
        have cB2 : ∀ o, (wr.drew).cell? ⟨bB, o, none⟩ = (#[.slice q3 n x3, .slice q4 n x4, .int .i64 x] : Array Value)[o]? := blk_cell ((hBd.block _ (blk_lt kB)).trans kB)
        refine wp_region_held_drew (S := fun w' => (∀ o, w'.cell? ⟨bA, o, none⟩ = (#[.slice q1 n x1, .slice q2 n x2, .int .i64 fr] : Array Value)[o]?) ∧ (∀ o, w'.cell? ⟨bB, o, none⟩ = (#[.slice q3 n x3, .slice q4 n x4, .int .i64 x] : Array Value)[o]?)) (by kernel_rfl) ⟨cA2, cB2⟩ (fun hHeld => ?_)
        generalize wr.drew = V at *
        refine takeD (i := 0) (some 150) (v := ?_) rfl rfl (by kernel_rfl) (by kernel_rfl) (by kernel_rfl) (fun _ _ _ h => h) (by kernel_rfl) ?_ (by assumption) ?_
        rotate_left
        · intro wx hSw
          obtain ⟨hS1, hS2⟩ := hSw
          go_simp
          try (with_reducible rfl)
        try simp only [Act.put, List.setIfInBounds_toArray, List.set_cons_zero, List.set_cons_succ]
        obtain ⟨a1, y1, e1, h1⟩ := (g1.up hBd).read
        obtain ⟨a2, y2, e2, h2⟩ := (g2.up hBd).read
        cases e1; cases e2
        refine wpAnyH_ready (rs := [1]) (by kernel_rfl) (by simp) ?_
        refine AllReadyH.cons rfl (fun K hK => ?_) AllReadyH.nil
        go_simp
        refine (iOk_any _ _ n n _ _ x (gNx F C fr) (gDt U C) _ (by omega) (by omega) HDs.out h1 h2 true (by simp [HG.out.ok])).mono ?_
        rintro e wc ⟨rfl, hb⟩
        replace hBd := hBd.trans (hb.mono hBd.size)
        clear hb h1 h2 cA2 cB2 hHeld
        have cA2 : ∀ o, (wc).cell? ⟨bA, o, none⟩ = (#[.slice q1 n x1, .slice q2 n x2, .int .i64 fr] : Array Value)[o]? := blk_cell ((hBd.block _ (blk_lt kA)).trans kA)
        have cB2 : ∀ o, (wc).cell? ⟨bB, o, none⟩ = (#[.slice q3 n x3, .slice q4 n x4, .int .i64 x] : Array Value)[o]? := blk_cell ((hBd.block _ (blk_lt kB)).trans kB)
        go_wp2_with fail
        refine hK.out _ _ ⟨cA2, cB2⟩ (fun hHeld => ?_)
        clear hK K
        try simp only [Act.put, List.setIfInBounds_toArray, List.set_cons_zero, List.set_cons_succ]
        refine takeD (i := 2) (some 152) (v := ?_) rfl rfl (by kernel_rfl) (by kernel_rfl) (by kernel_rfl) (fun _ _ _ h => h) (by kernel_rfl) ?_ (by assumption) ?_
        rotate_left
        · intro wx hSw
          obtain ⟨hS1, hS2⟩ := hSw
          go_simp
          try (with_reducible rfl)
        try simp only [Act.put, List.setIfInBounds_toArray, List.set_cons_zero, List.set_cons_succ]
        refine takeD (i := 3) (some 153) (v := ?_) rfl rfl (by kernel_rfl) (by kernel_rfl) (by kernel_rfl) (fun _ _ _ h => h) (by kernel_rfl) ?_ (by assumption) ?_
        rotate_left
        · intro wx hSw
          obtain ⟨hS1, hS2⟩ := hSw
          go_simp
          try (with_reducible rfl)
        try simp only [Act.put, List.setIfInBounds_toArray, List.set_cons_zero, List.set_cons_succ]
        refine takeD (i := 4) (some 154) (v := ?_) rfl rfl (by kernel_rfl) (by kernel_rfl) (by kernel_rfl) (fun _ _ _ h => h) (by kernel_rfl) ?_ (by assumption) ?_
        rotate_left
        · intro wx hSw
          obtain ⟨hS1, hS2⟩ := hSw
          go_simp
          try (with_reducible rfl)
        try simp only [Act.put, List.setIfInBounds_toArray, List.set_cons_zero, List.set_cons_succ]
        refine takeD (i := 5) (some 155) (v := ?_) rfl rfl (by kernel_rfl) (by kernel_rfl) (by kernel_rfl) (fun _ _ _ h => h) (by kernel_rfl) ?_ (by assumption) ?_
        rotate_left
        · intro wx hSw
          obtain ⟨hS1, hS2⟩ := hSw
          go_simp
          try (with_reducible rfl)
        try simp only [Act.put, List.setIfInBounds_toArray, List.set_cons_zero, List.set_cons_succ]
        refine takeD (i := 6) (some 156) (v := ?_) rfl rfl (by kernel_rfl) (by kernel_rfl) (by kernel_rfl) (fun _ _ _ h => h) (by kernel_rfl) ?_ (by assumption) ?_
        rotate_left
        · intro wx hSw
          obtain ⟨hS1, hS2⟩ := hSw
          go_simp
          try (with_reducible rfl)
        try simp only [Act.put, List.setIfInBounds_toArray, List.set_cons_zero, List.set_cons_succ]
        refine takeD (i := 7) (some 157) (v := ?_) rfl rfl (by kernel_rfl) (by kernel_rfl) (by kernel_rfl) (fun _ _ _ h => h) (by kernel_rfl) ?_ (by assumption) ?_
        rotate_left
        · intro wx hSw
          obtain ⟨hS1, hS2⟩ := hSw
          go_simp
          try (with_reducible rfl)
        try simp only [Act.put, List.setIfInBounds_toArray, List.set_cons_zero, List.set_cons_succ]
        refine takeD (i := 10) (some 160) (v := ?_) rfl rfl (by kernel_rfl) (by kernel_rfl) (by kernel_rfl) (fun _ _ _ h => h) (by kernel_rfl) ?_ (by assumption) ?_
        rotate_left
        · intro wx hSw
          obtain ⟨hS1, hS2⟩ := hSw
          go_simp
          try (with_reducible rfl)
        try simp only [Act.put, List.setIfInBounds_toArray, List.set_cons_zero, List.set_cons_succ]
        refine takeD (i := 12) (some 162) (v := ?_) rfl rfl (by kernel_rfl) (by kernel_rfl) (by kernel_rfl) (fun _ _ _ h => h) (by kernel_rfl) ?_ (by assumption) ?_
        rotate_left
        · intro wx hSw
          obtain ⟨hS1, hS2⟩ := hSw
          go_simp
          try (with_reducible rfl)
        try simp only [Act.put, List.setIfInBounds_toArray, List.set_cons_zero, List.set_cons_succ]
        refine wpAnyH_ready (rs := [8, 9]) (by kernel_rfl) (by simp) ?_
        refine AllReadyH.cons rfl (fun K hK => ?_) (AllReadyH.cons rfl (fun K hK => ?_) AllReadyH.nil)
        · go_simp
          obtain ⟨a1, y1, e1, h1⟩ := (g1.up hBd).read
          obtain ⟨a2, y2, e2, h2⟩ := (g2.up hBd).read
          cases e1; cases e2
          refine (iFree_any _ _ n n _ _ x (gNx F C fr) (gDt U C) _ (by omega) (by omega) HDs.out h1 h2 true (by simp [HG.out.ok])).mono ?_
          rintro e wd ⟨⟨v, rfl, hW⟩, hb⟩
          rw [HGf.out] at hW
          obtain ⟨q10, x10, rfl⟩ := vrow_form hW
          replace hBd := hBd.trans (hb.mono hBd.size)
          clear h1 h2 cA2 cB2 hHeld
          have cA2 : ∀ o, (wd).cell? ⟨bA, o, none⟩ = (#[.slice q1 n x1, .slice q2 n x2, .int .i64 fr] : Array Value)[o]? := blk_cell ((hBd.block _ (blk_lt kA)).trans kA)
          have cB2 : ∀ o, (wd).cell? ⟨bB, o, none⟩ = (#[.slice q3 n x3, .slice q4 n x4, .int .i64 x] : Array Value)[o]? := blk_cell ((hBd.block _ (blk_lt kB)).trans kB)
          go_wp2_with fail
          refine hK.out _ _ ⟨cA2, cB2⟩ (fun hHeld => ?_)
          clear hK K
          try simp only [Act.put, List.setIfInBounds_toArray, List.set_cons_zero, List.set_cons_succ]
          refine wpAnyH_ready (rs := [9]) (by kernel_rfl) (by simp) ?_
          refine AllReadyH.cons rfl (fun K hK => ?_) AllReadyH.nil
          go_simp
          have hown := own_new (V := wd)
          have hX : Below wd.heap.size wd (wd.alloc (.cells #[] 2)) := (Below.refl _ _).alloc (Nat.le_refl _) _
          have hWg : ∀ b ∈ bl (.slice q10 D.length x10), b ≠ wd.heap.size := fun b hb => by have := (hW.lt b hb).1; omega
          have hg0 : wZ.heap.size ≤ wd.heap.size := hBd.size
          replace hBd := hBd.trans (hX.mono hBd.size)
          replace hW := hW.up hX
          clear cA2 cB2 hHeld
          have cA2 : ∀ o, (wd.alloc (.cells #[] 2)).cell? ⟨bA, o, none⟩ = (#[.slice q1 n x1, .slice q2 n x2, .int .i64 fr] : Array Value)[o]? := blk_cell ((hBd.block _ (blk_lt kA)).trans kA)
          have cB2 : ∀ o, (wd.alloc (.cells #[] 2)).cell? ⟨bB, o, none⟩ = (#[.slice q3 n x3, .slice q4 n x4, .int .i64 x] : Array Value)[o]? := blk_cell ((hBd.block _ (blk_lt kB)).trans kB)
          refine hK.out _ _ ⟨cA2, cB2⟩ (fun hHeld => ?_)
          clear hK K
          try simp only [Act.put, List.setIfInBounds_toArray, List.set_cons_zero, List.set_cons_succ]
          have hs2 : wd.heap.size ≤ (wd.alloc (.cells #[] 2)).heap.size := hX.size
          clear hX
          generalize wd.alloc (.cells #[] 2) = V2 at *
          generalize wd.heap.size = g0 at *
          obtain ⟨va, V3, hrun, hown3, hbel, hkp, hob⟩ := app_vrow (L := C) hown (hV.up hBd) (by have := HLe.out; simp; omega) hs2
          refine wpAnyH_ready (rs := [11]) (by kernel_rfl) (by simp) ?_
          refine AllReadyH.cons rfl (fun K hK => ?_) AllReadyH.nil
          refine wp_app (by kernel_rfl) (.tmp 159) (.tmp 160) 24 _ _ _ rfl rfl rfl rfl hrun ?_
          clear hrun
          replace hBd := hbel _ _ hBd hg0 (by omega)
          have hWl : ∀ b ∈ bl (.slice q10 D.length x10), b < V2.heap.size := fun b hb => (hW.lt b hb).1
          replace hW := hW.keep (fun b hb => hkp b (hW.lt b hb).1 (hWg b hb))
          rw [List.nil_append] at hown3
          obtain ⟨g1', c1', rfl, hgb⟩ := own_some hown3 HLp.out
          have hWg1 : ∀ b ∈ bl (.slice q10 D.length x10), b ≠ g1' := fun b hb => by
            simp only [Value.ownBlock, Option.some.injEq] at hob
            rcases hob with e | e
            · rw [e]; exact hWg b hb
            · have := hWl b hb; omega
          clear hown hbel hkp hob hWg hWl cA2 cB2 hHeld
          have cA2 : ∀ o, (V3).cell? ⟨bA, o, none⟩ = (#[.slice q1 n x1, .slice q2 n x2, .int .i64 fr] : Array Value)[o]? := blk_cell ((hBd.block _ (blk_lt kA)).trans kA)
          have cB2 : ∀ o, (V3).cell? ⟨bB, o, none⟩ = (#[.slice q3 n x3, .slice q4 n x4, .int .i64 x] : Array Value)[o]? := blk_cell ((hBd.block _ (blk_lt kB)).trans kB)
          refine hK.out _ _ ⟨cA2, cB2⟩ (fun hHeld => ?_)
          clear hK K
          try simp only [Act.put, List.setIfInBounds_toArray, List.set_cons_zero, List.set_cons_succ]
          obtain ⟨a1, y1, e1, h1⟩ := (r1.up hBd).read
          obtain ⟨a2, y2, e2, h2⟩ := (r2.up hBd).read
          cases e1; cases e2
          refine wpAnyH_ready (rs := [13]) (by kernel_rfl) (by simp) ?_
          refine AllReadyH.cons rfl (fun K hK => ?_) AllReadyH.nil
          go_simp
          refine (iFree_any _ _ n n _ _ fr F U _ (by omega) (by omega) HU.out h1 h2 true (by simp [HOk.out])).mono ?_
          rintro e V4 ⟨⟨v, rfl, hF⟩, hb⟩
          have hF2 : VRow 2 V4 V3.heap.size v (walkL F n fr).length (intsOf (walkL F n fr)) := hF
          obtain ⟨q11, x11, rfl⟩ := vrow_form hF2
          replace hBd := hBd.trans (hb.mono hBd.size)
          replace hW := hW.up hb
          replace hown3 := own_keep hown3 (fun b _ hl => hb.block b hl)
          have hs4 : g0 ≤ V4.heap.size := Nat.le_trans hgb (Nat.le_of_lt (own_ltI hown3))
          clear h1 h2 hb cA2 cB2 hHeld hF
          have cA2 : ∀ o, (V4).cell? ⟨bA, o, none⟩ = (#[.slice q1 n x1, .slice q2 n x2, .int .i64 fr] : Array Value)[o]? := blk_cell ((hBd.block _ (blk_lt kA)).trans kA)
          have cB2 : ∀ o, (V4).cell? ⟨bB, o, none⟩ = (#[.slice q3 n x3, .slice q4 n x4, .int .i64 x] : Array Value)[o]? := blk_cell ((hBd.block _ (blk_lt kB)).trans kB)
          go_wp2_with fail
          refine hK.out _ _ ⟨cA2, cB2⟩ (fun hHeld => ?_)
          clear hK K
          try simp only [Act.put, List.setIfInBounds_toArray, List.set_cons_zero, List.set_cons_succ]
          obtain ⟨vb, V5, hrun, hown5, hbel, hkp, _⟩ := app_vrow hown3 hF2 (by have := HLe.out; have := HLf.out; omega) hs4
          refine wpAnyH_ready (rs := [14]) (by kernel_rfl) (by simp) ?_
          refine AllReadyH.cons rfl (fun K hK => ?_) AllReadyH.nil
          refine wp_app (by kernel_rfl) (.tmp 161) (.tmp 163) 24 _ _ _ rfl rfl rfl rfl hrun ?_
          clear hrun
          replace hBd := hbel _ _ hBd (by omega) (by omega)
          replace hW := hW.keep (fun b hb => hkp b (hW.lt b hb).1 (hWg1 b hb))
          rw [HD.out] at hown5
          obtain ⟨_, hv5⟩ := own_vrow hown5
          clear cA2 cB2 hHeld
          have cA2 : ∀ o, (V5).cell? ⟨bA, o, none⟩ = (#[.slice q1 n x1, .slice q2 n x2, .int .i64 fr] : Array Value)[o]? := blk_cell ((hBd.block _ (blk_lt kA)).trans kA)
          have cB2 : ∀ o, (V5).cell? ⟨bB, o, none⟩ = (#[.slice q3 n x3, .slice q4 n x4, .int .i64 x] : Array Value)[o]? := blk_cell ((hBd.block _ (blk_lt kB)).trans kB)
          refine hK.out _ _ ⟨cA2, cB2⟩ (fun hHeld => ?_)
          clear hK K
          try simp only [Act.put, List.setIfInBounds_toArray, List.set_cons_zero, List.set_cons_succ]
          clear hbel hkp hown3 hown5 hF2
          obtain ⟨a5, y5, e5, h5⟩ := hW.read
          obtain ⟨a6, y6, rfl, h6⟩ := hv5.read
          cases e5
          have HLL : Hid (D.length ≤ 120) := by have := HLe.out; have := HLf.out; rw [Hid, ← HD.out, List.length_append]; omega
          refine wpAnyH_ready (rs := [15]) (by kernel_rfl) (by simp) ?_
          refine AllReadyH.cons rfl (fun K hK => ?_) AllReadyH.nil
          go_simp
          refine (sameInts_any _ _ _ _ _ (fun i => D.getD i 0) _ (by have := HLL.out; omega) h5 h6).mono ?_
          rintro e V6 ⟨rfl, hSm⟩
          have hb := hSm.below V5.heap.size
          replace hBd := hBd.trans (hb.mono hBd.size)
          clear hSm hb h5 h6 cA2 cB2 hHeld
          have cA2 : ∀ o, (V6).cell? ⟨bA, o, none⟩ = (#[.slice q1 n x1, .slice q2 n x2, .int .i64 fr] : Array Value)[o]? := blk_cell ((hBd.block _ (blk_lt kA)).trans kA)
          have cB2 : ∀ o, (V6).cell? ⟨bB, o, none⟩ = (#[.slice q3 n x3, .slice q4 n x4, .int .i64 x] : Array Value)[o]? := blk_cell ((hBd.block _ (blk_lt kB)).trans kB)
          go_wp2_with fail
          refine hK.out _ _ ⟨cA2, cB2⟩ (fun hHeld => ?_)
          clear hK K
          try simp only [Act.put, List.setIfInBounds_toArray, List.set_cons_zero, List.set_cons_succ]
          refine takeD (i := 16) (some 166) (v := ?_) rfl rfl (by kernel_rfl) (by kernel_rfl) (by kernel_rfl) (fun _ _ _ h => h) (by kernel_rfl) ?_ (by assumption) ?_
          rotate_left
          · intro wx hSw
            obtain ⟨hS1, hS2⟩ := hSw
            go_simp
            try (with_reducible rfl)
          try simp only [Act.put, List.setIfInBounds_toArray, List.set_cons_zero, List.set_cons_succ]
          refine takeD (i := 17) (some 2) (v := ?_) rfl rfl (by kernel_rfl) (by kernel_rfl) (by kernel_rfl) (fun _ _ _ h => h) (by kernel_rfl) ?_ (by assumption) ?_
          rotate_left
          · intro wx hSw
            obtain ⟨hS1, hS2⟩ := hSw
            go_simp
            try (with_reducible rfl)
          try simp only [Act.put, List.setIfInBounds_toArray, List.set_cons_zero, List.set_cons_succ]
          refine wpAnyH_done (by kernel_rfl) ?_ _
          go_wp2_with fail
          go_ret
          exact ⟨rfl, B.trans (hBd.mono B.size)⟩
        · go_simp
          have hown := own_new (V := wc)
          have hX : Below wc.heap.size wc (wc.alloc (.cells #[] 2)) := (Below.refl _ _).alloc (Nat.le_refl _) _
          have hg0 : wZ.heap.size ≤ wc.heap.size := hBd.size
          have hs1 : (wc.alloc (.cells #[] 2)).heap.size = wc.heap.size + 1 := by simp
          have HS1 : Hid (wc.heap.size < (wc.alloc (.cells #[] 2)).heap.size) := by rw [Hid]; omega
          clear hs1
          replace hBd := hBd.trans (hX.mono hBd.size)
          clear cA2 cB2 hHeld hX
          have cA2 : ∀ o, (wc.alloc (.cells #[] 2)).cell? ⟨bA, o, none⟩ = (#[.slice q1 n x1, .slice q2 n x2, .int .i64 fr] : Array Value)[o]? := blk_cell ((hBd.block _ (blk_lt kA)).trans kA)
          have cB2 : ∀ o, (wc.alloc (.cells #[] 2)).cell? ⟨bB, o, none⟩ = (#[.slice q3 n x3, .slice q4 n x4, .int .i64 x] : Array Value)[o]? := blk_cell ((hBd.block _ (blk_lt kB)).trans kB)
          refine hK.out _ _ ⟨cA2, cB2⟩ (fun hHeld => ?_)
          clear hK K
          try simp only [Act.put, List.setIfInBounds_toArray, List.set_cons_zero, List.set_cons_succ]
          generalize wc.alloc (.cells #[] 2) = V1 at *
          generalize wc.heap.size = g0 at *
          refine wpAnyH_ready (rs := [8]) (by kernel_rfl) (by simp) ?_
          refine AllReadyH.cons rfl (fun K hK => ?_) AllReadyH.nil
          go_simp
          obtain ⟨a1, y1, e1, h1⟩ := (g1.up hBd).read
          obtain ⟨a2, y2, e2, h2⟩ := (g2.up hBd).read
          cases e1; cases e2
          refine (iFree_any _ _ n n _ _ x (gNx F C fr) (gDt U C) _ (by omega) (by omega) HDs.out h1 h2 true (by simp [HG.out.ok])).mono ?_
          rintro e V2 ⟨⟨v, rfl, hW⟩, hb⟩
          rw [HGf.out] at hW
          obtain ⟨q10, x10, rfl⟩ := vrow_form hW
          replace hBd := hBd.trans (hb.mono hBd.size)
          clear h1 h2 cA2 cB2 hHeld
          have cA2 : ∀ o, (V2).cell? ⟨bA, o, none⟩ = (#[.slice q1 n x1, .slice q2 n x2, .int .i64 fr] : Array Value)[o]? := blk_cell ((hBd.block _ (blk_lt kA)).trans kA)
          have cB2 : ∀ o, (V2).cell? ⟨bB, o, none⟩ = (#[.slice q3 n x3, .slice q4 n x4, .int .i64 x] : Array Value)[o]? := blk_cell ((hBd.block _ (blk_lt kB)).trans kB)
          go_wp2_with fail
          refine hK.out _ _ ⟨cA2, cB2⟩ (fun hHeld => ?_)
          clear hK K
          try simp only [Act.put, List.setIfInBounds_toArray, List.set_cons_zero, List.set_cons_succ]
          replace hown := own_keep hown (fun b _ hl => hb.block b hl)
          have hWg : ∀ b ∈ bl (.slice q10 D.length x10), b ≠ g0 := fun b hb => by have := (hW.lt b hb).2; have := HS1.out; omega
          have hs2 : g0 ≤ V2.heap.size := by have := hb.size; have := HS1.out; omega
          clear hb
          obtain ⟨va, V3, hrun, hown3, hbel, hkp, hob⟩ := app_vrow (L := C) hown (hV.up hBd) (by have := HLe.out; simp; omega) hs2
          refine wpAnyH_ready (rs := [11]) (by kernel_rfl) (by simp) ?_
          refine AllReadyH.cons rfl (fun K hK => ?_) AllReadyH.nil
          refine wp_app (by kernel_rfl) (.tmp 159) (.tmp 160) 24 _ _ _ rfl rfl rfl rfl hrun ?_
          clear hrun
          replace hBd := hbel _ _ hBd hg0 (by omega)
          have hWl : ∀ b ∈ bl (.slice q10 D.length x10), b < V2.heap.size := fun b hb => (hW.lt b hb).1
          replace hW := hW.keep (fun b hb => hkp b (hW.lt b hb).1 (hWg b hb))
          rw [List.nil_append] at hown3
          obtain ⟨g1', c1', rfl, hgb⟩ := own_some hown3 HLp.out
          have hWg1 : ∀ b ∈ bl (.slice q10 D.length x10), b ≠ g1' := fun b hb => by
            simp only [Value.ownBlock, Option.some.injEq] at hob
            rcases hob with e | e
            · rw [e]; exact hWg b hb
            · have := hWl b hb; omega
          clear hown hbel hkp hob hWg hWl cA2 cB2 hHeld
          have cA2 : ∀ o, (V3).cell? ⟨bA, o, none⟩ = (#[.slice q1 n x1, .slice q2 n x2, .int .i64 fr] : Array Value)[o]? := blk_cell ((hBd.block _ (blk_lt kA)).trans kA)
          have cB2 : ∀ o, (V3).cell? ⟨bB, o, none⟩ = (#[.slice q3 n x3, .slice q4 n x4, .int .i64 x] : Array Value)[o]? := blk_cell ((hBd.block _ (blk_lt kB)).trans kB)
          refine hK.out _ _ ⟨cA2, cB2⟩ (fun hHeld => ?_)
          clear hK K
          try simp only [Act.put, List.setIfInBounds_toArray, List.set_cons_zero, List.set_cons_succ]
          obtain ⟨a1, y1, e1, h1⟩ := (r1.up hBd).read
          obtain ⟨a2, y2, e2, h2⟩ := (r2.up hBd).read
          cases e1; cases e2
          refine wpAnyH_ready (rs := [13]) (by kernel_rfl) (by simp) ?_
          refine AllReadyH.cons rfl (fun K hK => ?_) AllReadyH.nil
          go_simp
          refine (iFree_any _ _ n n _ _ fr F U _ (by omega) (by omega) HU.out h1 h2 true (by simp [HOk.out])).mono ?_
          rintro e V4 ⟨⟨v, rfl, hF⟩, hb⟩
          have hF2 : VRow 2 V4 V3.heap.size v (walkL F n fr).length (intsOf (walkL F n fr)) := hF
          obtain ⟨q11, x11, rfl⟩ := vrow_form hF2
          replace hBd := hBd.trans (hb.mono hBd.size)
          replace hW := hW.up hb
          replace hown3 := own_keep hown3 (fun b _ hl => hb.block b hl)
          have hs4 : g0 ≤ V4.heap.size := Nat.le_trans hgb (Nat.le_of_lt (own_ltI hown3))
          clear h1 h2 hb cA2 cB2 hHeld hF
          have cA2 : ∀ o, (V4).cell? ⟨bA, o, none⟩ = (#[.slice q1 n x1, .slice q2 n x2, .int .i64 fr] : Array Value)[o]? := blk_cell ((hBd.block _ (blk_lt kA)).trans kA)
          have cB2 : ∀ o, (V4).cell? ⟨bB, o, none⟩ = (#[.slice q3 n x3, .slice q4 n x4, .int .i64 x] : Array Value)[o]? := blk_cell ((hBd.block _ (blk_lt kB)).trans kB)
          go_wp2_with fail
          refine hK.out _ _ ⟨cA2, cB2⟩ (fun hHeld => ?_)
          clear hK K
          try simp only [Act.put, List.setIfInBounds_toArray, List.set_cons_zero, List.set_cons_succ]
          obtain ⟨vb, V5, hrun, hown5, hbel, hkp, _⟩ := app_vrow hown3 hF2 (by have := HLe.out; have := HLf.out; omega) hs4
          refine wpAnyH_ready (rs := [14]) (by kernel_rfl) (by simp) ?_
          refine AllReadyH.cons rfl (fun K hK => ?_) AllReadyH.nil
          refine wp_app (by kernel_rfl) (.tmp 161) (.tmp 163) 24 _ _ _ rfl rfl rfl rfl hrun ?_
          clear hrun
          replace hBd := hbel _ _ hBd (by omega) (by omega)
          replace hW := hW.keep (fun b hb => hkp b (hW.lt b hb).1 (hWg1 b hb))
          rw [HD.out] at hown5
          obtain ⟨_, hv5⟩ := own_vrow hown5
          clear cA2 cB2 hHeld
          have cA2 : ∀ o, (V5).cell? ⟨bA, o, none⟩ = (#[.slice q1 n x1, .slice q2 n x2, .int .i64 fr] : Array Value)[o]? := blk_cell ((hBd.block _ (blk_lt kA)).trans kA)
          have cB2 : ∀ o, (V5).cell? ⟨bB, o, none⟩ = (#[.slice q3 n x3, .slice q4 n x4, .int .i64 x] : Array Value)[o]? := blk_cell ((hBd.block _ (blk_lt kB)).trans kB)
          refine hK.out _ _ ⟨cA2, cB2⟩ (fun hHeld => ?_)
          clear hK K
          try simp only [Act.put, List.setIfInBounds_toArray, List.set_cons_zero, List.set_cons_succ]
          clear hbel hkp hown3 hown5 hF2
          obtain ⟨a5, y5, e5, h5⟩ := hW.read
          obtain ⟨a6, y6, rfl, h6⟩ := hv5.read
          cases e5
          have HLL : Hid (D.length ≤ 120) := by have := HLe.out; have := HLf.out; rw [Hid, ← HD.out, List.length_append]; omega
          refine wpAnyH_ready (rs := [15]) (by kernel_rfl) (by simp) ?_
          refine AllReadyH.cons rfl (fun K hK => ?_) AllReadyH.nil
          go_simp
          refine (sameInts_any _ _ _ _ _ (fun i => D.getD i 0) _ (by have := HLL.out; omega) h5 h6).mono ?_
          rintro e V6 ⟨rfl, hSm⟩
          have hb := hSm.below V5.heap.size
          replace hBd := hBd.trans (hb.mono hBd.size)
          clear hSm hb h5 h6 cA2 cB2 hHeld
          have cA2 : ∀ o, (V6).cell? ⟨bA, o, none⟩ = (#[.slice q1 n x1, .slice q2 n x2, .int .i64 fr] : Array Value)[o]? := blk_cell ((hBd.block _ (blk_lt kA)).trans kA)
          have cB2 : ∀ o, (V6).cell? ⟨bB, o, none⟩ = (#[.slice q3 n x3, .slice q4 n x4, .int .i64 x] : Array Value)[o]? := blk_cell ((hBd.block _ (blk_lt kB)).trans kB)
          go_wp2_with fail
          refine hK.out _ _ ⟨cA2, cB2⟩ (fun hHeld => ?_)
          clear hK K
          try simp only [Act.put, List.setIfInBounds_toArray, List.set_cons_zero, List.set_cons_succ]
          refine takeD (i := 16) (some 166) (v := ?_) rfl rfl (by kernel_rfl) (by kernel_rfl) (by kernel_rfl) (fun _ _ _ h => h) (by kernel_rfl) ?_ (by assumption) ?_
          rotate_left
          · intro wx hSw
            obtain ⟨hS1, hS2⟩ := hSw
            go_simp
            try (with_reducible rfl)
          try simp only [Act.put, List.setIfInBounds_toArray, List.set_cons_zero, List.set_cons_succ]
          refine takeD (i := 17) (some 2) (v := ?_) rfl rfl (by kernel_rfl) (by kernel_rfl) (by kernel_rfl) (fun _ _ _ h => h) (by kernel_rfl) ?_ (by assumption) ?_
          rotate_left
          · intro wx hSw
            obtain ⟨hS1, hS2⟩ := hSw
            go_simp
            try (with_reducible rfl)
          try simp only [Act.put, List.setIfInBounds_toArray, List.set_cons_zero, List.set_cons_succ]
          refine wpAnyH_done (by kernel_rfl) ?_ _
          go_wp2_with fail
          go_ret
          exact ⟨rfl, B.trans (hBd.mono B.size)⟩
end Go.Proofs.Ythkkogpegmmbdaa
