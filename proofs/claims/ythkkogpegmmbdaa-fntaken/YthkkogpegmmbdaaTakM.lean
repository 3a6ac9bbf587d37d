/- What was taken, plainly: of a drawn arena and a text. -/
import Derived.Test.YthkkogpegmmbdaaArPart
import Derived.Test.YthkkogpegmmbdaaArPath3
import Derived.Test.YthkkogpegmmbdaaArTake
namespace Go.Proofs.Ythkkogpegmmbdaa
open Go.RowKit
set_option linter.unusedVariables false
set_option linter.unusedSimpArgs false

/-- all that the law asks of an arena out of which s was taken -/
structure TakF (n : Nat) (F : Nat → Int) (U : Nat → ByteArray) (fr : Int) (s : ByteArray) (L : List Int) (N : Nat) (F' : Nat → Int) (U' : Nat → ByteArray) (fr' : Int) (P : List Int) (Q : List Int) : Prop where
  ok : okP n n F' U' fr'
  chain : chainP n n F' U' fr' fr
  way : freeL true n F' fr = P
  text : catT U' P = s
  free : freeL true n F' fr' = Q
  back : okP n n (gNx F' P fr') (gDt U' P) fr
  all : freeL true n (gNx F' P fr') fr = L
  size : ∀ i, i < n → (U' i).size ≤ 10
  else_ : ∀ c : Int, chainP n n F U fr c → chainP n n F' U' fr' c ∧ catT U' (freeL true n F' c) = catT U (freeL true n F c)
theorem takF {n : Nat} {F : Nat → Int} {U : Nat → ByteArray} {fr : Int} {s : ByteArray} (h : takeP n n F U fr s) (hu : ∀ i, i < n → (U i).size ≤ 10) :
    TakF n F U fr s (walkL F n fr) (needS s) (tNx F (walkL F n fr) s) (tD (walkL F n fr) s U (needS s)) (F (tL (walkL F n fr) s).toNat) ((walkL F n fr).take (needS s)) ((walkL F n fr).drop (needS s)) := by
  obtain ⟨hok, hs1, hs2⟩ := h
  obtain ⟨_, hR⟩ := right_of_ok hok
  have h1 : 1 ≤ needS s := by unfold needS; omega
  generalize walkL F n fr = L at *
  obtain ⟨hr, hlm, hpA, hpB, hdis⟩ := hR.takenPaths (s := s) h1 hs2
  have hT := hR.taken (s := s) h1 hs2
  have hH := hR.takenHead (s := s) h1 hs2
  have hG := hT.given hH hpA
  rw [List.take_append_drop] at hG
  refine ⟨hT.ok, ⟨hT.ok, hH⟩, hT.walk hH.2.1 hpA, hR.takenHeld h1 hs2, hT.walk hT.inj.f1 hT.free, hG.ok, hG.walk hG.inj.f1 hG.free, fun i hi => tD_size (hu i hi) _, fun c hc => ?_⟩
  obtain ⟨k1, k2, k3⟩ := hR.takenElse (s := s) h1 hs2 hc.2 (hR.chain hc.2)
  refine ⟨⟨hT.ok, k1⟩, ?_⟩
  have e : freeL true n (tNx F L s) c = freeL true n F c := hT.walk k1.2.1 k2
  rw [e]
  exact catB_same k3
theorem tak_head {n : Nat} {F : Nat → Int} {U : Nat → ByteArray} {fr : Int} {s : ByteArray} (h : takeP n n F U fr s) : tHd true (walkL F n fr) = fr := by
  obtain ⟨hok, hs1, hs2⟩ := h
  obtain ⟨_, hR⟩ := right_of_ok hok
  have h1 : 1 ≤ needS s := by unfold needS; omega
  have hp := hR.free
  unfold tHd
  rw [if_pos rfl]
  cases hL : walkL F n fr with
  | nil => rw [hL] at hs2; simp at hs2; omega
  | cons x xs => rw [hL] at hp; simpa using hp.1.symm
theorem rd_take {w : World} {g o n N : Nat} {L : List Int} (h : RdRow w (some ⟨g, o, none⟩) L.length (intsOf L)) (hN : N ≤ L.length) : RdRow w (some ⟨g, o, none⟩) N fun i => .int .i64 ((L.take N).getD i 0) := fun i hi => by
  obtain ⟨g', o', e, c⟩ := h i (by omega)
  refine ⟨g', o', e, c.trans ?_⟩
  simp [intsOf, List.getD_eq_getElem?_getD, List.getElem?_take_of_lt hi]
theorem rd_drop {w : World} {g o2 N : Nat} {L : List Int} (h : RdRow w (some ⟨g, 0, none⟩) L.length (intsOf L)) (ho : N < L.length → o2 = N) : RdRow w (some ⟨g, o2, none⟩) (L.length - N) fun i => .int .i64 ((L.drop N).getD i 0) := fun i hi => by
  obtain ⟨g', o', e, c⟩ := h (N + i) (by omega)
  cases e
  refine ⟨_, _, rfl, ?_⟩
  rw [ho (by omega)]
  rw [Nat.zero_add] at c
  refine c.trans ?_
  simp [intsOf, List.getD_eq_getElem?_getD, List.getElem?_drop]
end Go.Proofs.Ythkkogpegmmbdaa
