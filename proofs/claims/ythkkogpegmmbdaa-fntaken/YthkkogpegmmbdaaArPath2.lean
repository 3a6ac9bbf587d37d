/- What giving back and taking do to a right arena. -/
import Derived.Test.YthkkogpegmmbdaaArPath
namespace Go.Proofs.Ythkkogpegmmbdaa
open Go.RowKit
set_option linter.unusedVariables false

section Give
variable {n : Nat} {nx : Nat → Int} {dt : Nat → ByteArray} {fr : Int} {L : List Int}
theorem Right.out (h : Right n nx dt fr L) {i : Nat} (hi : i < n) (hs : (dt i).size ≠ 0) : (i : Int) ∉ L := fun hm => hs ((h.data i hi).1.1 hm)
theorem Right.freeBack (h : Right n nx dt fr L) : ∀ y, y < n → nx y ∈ L → (y : Int) ∈ L := fun y hy hm => by
  rcases Path.enter h.inj h.inj.f1 h.free y hy hm with e | hin
  · have h0 := h.free.nonneg _ hm
    have := h.inj.ne y hy e
    omega
  · exact hin
theorem Right.headBack (h : Right n nx dt fr L) {c : Int} {C : List Int} (hh : headP n nx dt c) (p : Path nx c C) : ∀ y, y < n → nx y ∈ C → (y : Int) ∈ C := fun y hy hm => by
  rcases Path.enter h.inj hh.2.1 p y hy hm with e | hin
  · exact absurd e (hh.2.2.2 y hy)
  · exact hin
theorem headP.notFree {c : Int} (hh : headP n nx dt c) (h : Right n nx dt fr L) : c ∉ L := fun hm => by
  obtain ⟨h0, h1, h2, _⟩ := hh
  refine h2 ((h.data c.toNat (by omega)).1.1 ?_)
  rw [Int.toNat_of_nonneg h0]
  exact hm
theorem Right.headOut (h : Right n nx dt fr L) {c : Int} {C : List Int} (hh : headP n nx dt c) (p : Path nx c C) : ∀ z ∈ C, z ∉ L :=
  Path.stay h.inj.rng L h.freeBack hh.2.1 (hh.notFree h) p
theorem Right.chain (h : Right n nx dt fr L) {c : Int} (hh : headP n nx dt c) : Path nx c (walkL nx n c) := by
  obtain ⟨P, p⟩ := h.paths c.toNat (by have := hh.1; have := hh.2.1; omega)
  rw [Int.toNat_of_nonneg hh.1] at p
  rw [h.walk hh.2.1 p]
  exact p
theorem Path.first {c : Int} {C : List Int} (p : Path nx c C) (h : 0 ≤ c) : ∃ xs, C = c :: xs := by
  cases C with
  | nil => have : c = -1 := p; omega
  | cons x xs => exact ⟨xs, by rw [p.1]⟩
theorem headOther (h : Right n nx dt fr L) {c c' : Int} {C : List Int} (hh : headP n nx dt c) (p : Path nx c C) (hh' : headP n nx dt c') (hne : c' ≠ c) : c' ∉ C := fun hm => by
  obtain ⟨P, Q, e, q⟩ := p.sub hm
  cases hP : P with
  | nil =>
    subst hP
    obtain ⟨xs, e2⟩ := p.first hh.1
    rw [e2] at e
    simp at e
    exact hne e.1.symm
  | cons x xs =>
    have p2 : Path nx c (P ++ c' :: Q) := e ▸ p
    have hl : P ≠ [] := by rw [hP]; simp
    have hb := Path.behind hl p2
    have hin : lastL P ∈ P := lastL_mem (by rw [hP]; simp)
    have hr := p2.range h.inj.rng hh.2.1 (lastL P) (by simp [hin])
    exact hh'.2.2.2 (lastL P).toNat (by omega) hb.1

theorem gNx_last {C : List Int} {z : Int} (h0 : 0 ≤ z) : gNx nx C fr z.toNat = if z = lastL C then fr else nx z.toNat := by
  unfold gNx
  rw [Int.toNat_of_nonneg h0]
theorem gNx_else {C : List Int} {z : Int} (h0 : 0 ≤ z) (hne : z ≠ lastL C) : gNx nx C fr z.toNat = nx z.toNat := by
  rw [gNx_last h0, if_neg hne]
theorem Right.given (h : Right n nx dt fr L) {c : Int} {C : List Int} (hh : headP n nx dt c) (p : Path nx c C) : Right n (gNx nx C fr) (gDt dt C) c (C ++ L) := by
  obtain ⟨xs, e1⟩ := p.first hh.1
  have hC : C ≠ [] := by rw [e1]; simp
  have hCl : 1 ≤ C.length := by rw [e1]; simp
  have hlm := lastL_mem hCl
  have hlr := p.range h.inj.rng hh.2.1 _ hlm
  have hdis := h.headOut hh p
  have hback := h.headBack hh p
  have hfree : Path (gNx nx C fr) fr L := h.free.keep (fun z hz => gNx_else (h.free.nonneg z hz) (fun e => hdis _ hlm (e ▸ hz)))
  have hchain : Path (gNx nx C fr) c (C ++ L) := by
    refine Path.cut (B := []) hC p.nodup (by rw [List.append_nil]; exact p) (fun z hz hne => ?_) ?_ hfree
    · rw [gNx_last (p.nonneg z hz), if_neg hne]
    · rw [gNx_last hlr.1, if_pos rfl]
  have hfc : fr ≠ c := fun e => by
    have h0 := hh.1
    obtain ⟨ys, e2⟩ := h.free.first (by omega)
    exact hh.notFree h (by rw [e2, e]; simp)
  refine ⟨h.l1, h.l2, ⟨fun i hi => ?_, by have := hh.1; omega, hh.2.1, fun i hi e => ?_, fun i j hi hj e hne => ?_⟩, fun i hi => ?_, hchain, fun i hi => ?_⟩
  · unfold gNx
    split
    · exact ⟨h.inj.f0, h.inj.f1⟩
    · exact h.inj.rng i hi
  · unfold gNx at e
    split at e
    · exact absurd e hfc
    · exact absurd e (hh.2.2.2 i hi)
  · unfold gNx at e hne
    split at e
    · rename_i e1
      rw [if_pos e1] at hne
      split at e
      · rename_i e2
        omega
      · exact absurd (h.inj.ne j hj e.symm) hne
    · rename_i e1
      rw [if_neg e1] at hne
      split at e
      · exact absurd (e.trans (h.inj.ne i hi e)) hne
      · exact h.inj.inj i j hi hj e hne
  · by_cases hm : (i : Int) ∈ C
    · obtain ⟨P, Q, e2, q⟩ := hchain.sub (x := (i : Int)) (by simp [hm])
      exact ⟨_, q⟩
    · obtain ⟨P, q⟩ := h.paths i hi
      have hst := q.stay h.inj.rng C hback (by omega) hm
      exact ⟨P, q.keep (fun z hz => gNx_else (q.nonneg z hz) (fun e => hst z hz (e ▸ hlm)))⟩
  · unfold gDt
    by_cases hm : (i : Int) ∈ C
    · rw [if_pos hm]
      exact ⟨⟨fun _ => rfl, fun _ => by simp [hm]⟩, Nat.zero_le _⟩
    · rw [if_neg hm]
      simp only [List.mem_append, hm, false_or]
      exact h.data i hi
/-- a chain that was not given back is as it was -/
theorem Right.givenElse (h : Right n nx dt fr L) {c c' : Int} {C P : List Int} (hh : headP n nx dt c) (p : Path nx c C) (hh' : headP n nx dt c') (hne : c' ≠ c) (q : Path nx c' P) :
    headP n (gNx nx C fr) (gDt dt C) c' ∧ Path (gNx nx C fr) c' P ∧ ∀ z ∈ P, gDt dt C z.toNat = dt z.toNat := by
  obtain ⟨xs, e1⟩ := p.first hh.1
  have hlm := lastL_mem (L := C) (by rw [e1]; simp)
  have hno := headOther h hh p hh' hne
  have hst := q.stay h.inj.rng C (h.headBack hh p) hh'.2.1 hno
  refine ⟨⟨hh'.1, hh'.2.1, ?_, fun i hi => ?_⟩, q.keep (fun z hz => gNx_else (q.nonneg z hz) (fun e => hst z hz (e ▸ hlm))), fun z hz => ?_⟩
  · unfold gDt
    rw [Int.toNat_of_nonneg hh'.1, if_neg hno]
    exact hh'.2.2.1
  · unfold gNx
    split
    · intro e
      obtain ⟨ys, e2⟩ := h.free.first (by have := hh'.1; omega)
      exact hh'.notFree h (by rw [e2, e]; simp)
    · exact hh'.2.2.2 i hi
  · unfold gDt
    rw [Int.toNat_of_nonneg (q.nonneg z hz), if_neg (hst z hz)]
/-- what was given back is held no more -/
theorem givenGone {c : Int} {C : List Int} (hh : headP n nx dt c) (p : Path nx c C) : ¬ headP n (gNx nx C fr) (gDt dt C) c := fun k => by
  obtain ⟨xs, e1⟩ := p.first hh.1
  refine k.2.2.1 ?_
  unfold gDt
  rw [Int.toNat_of_nonneg hh.1, if_pos (by rw [e1]; simp)]
  rfl
end Give
end Go.Proofs.Ythkkogpegmmbdaa
