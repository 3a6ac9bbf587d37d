/- Chains of cells, plainly. -/
namespace Go.Proofs.Ythkkogpegmmbdaa

/-- k steps from a on -/
def goN (nx : Nat → Int) : Nat → Int → Int
  | 0, a => a
  | k + 1, a => goN nx k (if a = -1 then -1 else nx a.toNat)
theorem goN_end (nx : Nat → Int) : ∀ k, goN nx k (-1) = -1
  | 0 => rfl
  | k + 1 => by rw [goN, if_pos rfl]; exact goN_end nx k
theorem goN_step (nx : Nat → Int) (k : Nat) (a : Int) (h : a ≠ -1) : goN nx (k + 1) a = goN nx k (nx a.toNat) := by rw [goN, if_neg h]
/-- the cells from a on, k at the most -/
def walkL (nx : Nat → Int) : Nat → Int → List Int
  | 0, _ => []
  | k + 1, a => if a = -1 then [] else a :: walkL nx k (nx a.toNat)
theorem walkL_end (nx : Nat → Int) (k : Nat) : walkL nx k (-1) = [] := by cases k <;> simp [walkL]
theorem walkL_step (nx : Nat → Int) (k : Nat) (a : Int) (h : a ≠ -1) : walkL nx (k + 1) a = a :: walkL nx k (nx a.toNat) := by rw [walkL, if_neg h]
theorem walkL_len (nx : Nat → Int) : ∀ k a, (walkL nx k a).length ≤ k
  | 0, _ => Nat.le_refl _
  | k + 1, a => by
    rw [walkL]
    split
    · exact Nat.zero_le _
    · have := walkL_len nx k (nx a.toNat)
      simp; exact this
/-- free and each next are none or a cell that none before names -/
def LinksP (L : List Int) (n : Nat) : Prop := ∀ j (h : j < L.length), L[j] = -1 ∨ 0 ≤ L[j] ∧ L[j] < n ∧ L[j] ∉ L.take j
def links (n : Nat) (nx : Nat → Int) (fr : Int) : List Int := fr :: (List.range n).map nx
def ringsP (n : Nat) (nx : Nat → Int) : Prop := ∀ i, i < n → goN nx n i = -1
def dataP (n : Nat) (nx : Nat → Int) (sz : Nat → Nat) (fr : Int) : Prop := ∀ i, i < n → ((i : Int) ∈ walkL nx n fr ↔ sz i = 0) ∧ sz i ≤ 10
def inRange (n : Nat) (nx : Nat → Int) : Prop := ∀ i, i < n → -1 ≤ nx i ∧ nx i < n
theorem links_len (n : Nat) (nx : Nat → Int) (fr : Int) : (links n nx fr).length = n + 1 := by simp [links]
theorem links_zero (n : Nat) (nx : Nat → Int) (fr : Int) (h : 0 < (links n nx fr).length) : (links n nx fr)[0] = fr := rfl
theorem links_succ (n : Nat) (nx : Nat → Int) (fr : Int) (i : Nat) (h : i + 1 < (links n nx fr).length) : (links n nx fr)[i + 1] = nx i := by simp [links]
theorem links_range {n : Nat} {nx : Nat → Int} {fr : Int} (h : LinksP (links n nx fr) n) : inRange n nx ∧ -1 ≤ fr ∧ fr < n := by
  have hl := links_len n nx fr
  refine ⟨fun i hi => ?_, ?_⟩
  · have := h (i + 1) (by omega)
    rw [links_succ] at this
    omega
  · have := h 0 (by omega)
    rw [links_zero] at this
    omega
end Go.Proofs.Ythkkogpegmmbdaa
